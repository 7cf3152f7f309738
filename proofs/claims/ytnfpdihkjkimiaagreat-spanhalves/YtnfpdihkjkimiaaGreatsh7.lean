import Derived.Laws.AppendOwn
import Derived.Deep.AppendSrc
import Derived.Lib.AppendZeros
import Derived.Deep.MidRow
import Derived.BigQuiet
import Derived.Lib.ConvBytes
import Derived.BigRegion
import Derived.Deep.RegionLaw
import Derived.Laws.OwnMore
import Derived.Test.YtnfpdihkjkimiaaGreatsh6
set_option linter.unusedVariables false
set_option linter.constructorNameAsVariable false
set_option linter.unusedSimpArgs false
set_option maxRecDepth 1000000
set_option maxHeartbeats 4000000
namespace Go.Proofs.YtnfpdihkjkimiaaGreat
namespace RG
open Go Go.RowKit
variable {P:Program} {ops:Array Oper} {Q:Exit→Act→World→Prop} {w:World} {a0:Act} {F:Flow}
def reachB (ops:Array Oper):Nat→Nat→Nat→Bool
 | 0,i,j=>depOn ops i j
 | f+1,i,j=>depOn ops i j || (List.range i).any (fun x=>depOn ops i x && reachB ops f x j)
def chain2 (ops:Array Oper) (n:Nat):Bool:=(List.range n).all (fun j=>reachB ops 5 n j) && (List.range ops.size).all (fun i=>decide (i≤n) || depOn ops i (i-1))
theorem chain2_dep {n i:Nat} (h:chain2 ops n=true) (hi:n<i) (his:i<ops.size):depOn ops i (i-1)=true:=by
 unfold chain2 at h
 rw[Bool.and_eq_true] at h
 have h1:=List.all_eq_true.1 h.2 i (List.mem_range.2 his)
 rw[Bool.or_eq_true,decide_eq_true_eq] at h1
 rcases h1 with h1|h1
 ·omega
 ·exact h1
theorem reach_on {L:Array Bool} {a:Act} (hI:InvF F ops a0 L a w):∀ (f i j:Nat),i<ops.size→on L i=true→reachB ops f i j=true→on L j=true
 | 0,i,j,his,hi,h=>by
  have hox:ops[i]? = some ops[i]:=Array.getElem?_eq_getElem his
  unfold reachB depOn at h
  rw[hox] at h
  exact dep_on (ho:=hox) hI h hi
 | f+1,i,j,his,hi,h=>by
  have hox:ops[i]? = some ops[i]:=Array.getElem?_eq_getElem his
  unfold reachB at h
  rw[Bool.or_eq_true] at h
  have hd:∀ x,depOn ops i x=true→on L x=true:=fun x hx=>by
   unfold depOn at hx
   rw[hox] at hx
   exact dep_on (ho:=hox) hI hx hi
  rcases h with h|h
  ·exact hd j h
  ·obtain ⟨x,hx,h3⟩:=List.any_eq_true.1 h
   rw[Bool.and_eq_true] at h3
   exact reach_on hI f x j (by have:=List.mem_range.1 hx;omega) (hd x h3.1) h3.2
theorem tail_any2 {n:Nat} (hc:chain2 ops n=true) (hlt:∀ (i:Nat) (o:Oper),ops[i]? = some o→∀ e∈o.after,Region.binds .any e=true→e.on<i):∀ (fuel:Nat) (L:Array Bool) (a:Act) (w:World) (m:Nat),n≤m→m≤ops.size→L.size=ops.size→(∀ j,on L j=true↔j<m)→unl L=fuel→wpList P ops Q (ops.toList.drop m) a w→wpAny P .any ops Q fuel L a w:=by
 intro fuel
 induction fuel with
 | zero =>
  intro L a w m hnm hms hL hall hu h
  have hm:m=ops.size:=by
   rcases Nat.lt_or_ge m ops.size with h1|h1
   ·have:=unl_zero hu m (by omega)
    rw[hall] at this
    omega
   ·omega
  rw[hm,← Array.length_toList,List.drop_length] at h
  refine ⟨?_,h⟩
  apply List.eq_nil_iff_forall_not_mem.2
  intro i hi
  obtain ⟨h1,o,ho,-⟩:=mem_ready.1 hi
  have h2:=(hall i).2 (by rw[hm];exact (Array.getElem?_eq_some_iff.1 ho).1)
  unfold on at h2
  rw[Array.getD_eq_getD_getElem?] at h1 h2
  cases hh:L[i]? with
  | none=>rw[hh] at h1;cases h1
  | some b=>rw[hh] at h1 h2;rw[show b=false from h1] at h2;cases h2
 | succ fuel ih =>
  intro L a w m hnm hms hL hall hu h
  have hrdy:∀ i,i∈Region.ready .any ops L→i=m:=fun i hi=>by
   obtain ⟨h1,o,ho,hdep⟩:=mem_ready.1 hi
   have hoi:on L i=false:=by
    unfold on
    rw[Array.getD_eq_getD_getElem?] at h1 ⊢
    cases hh:L[i]? with
    | none=>rfl
    | some b=>rw[hh] at h1;exact h1
   have his:=(Array.getElem?_eq_some_iff.1 ho).1
   rcases Nat.lt_trichotomy i m with h2|h2|h2
   ·rw[(hall i).2 h2] at hoi;cases hoi
   ·exact h2
   ·have:=(hall (i-1)).1 (dep_ready ho hdep (chain2_dep hc (by omega) his))
    omega
  refine ⟨fun hr=>?_,fun i hi=>?_⟩
  ·rcases Nat.lt_or_ge m ops.size with h1|h1
   ·exfalso
    have ho:ops[m]? = some ops[m]:=Array.getElem?_eq_getElem _
    have hoff:on L m=false:=by
     cases hb:on L m with
     | false=>rfl
     | true=>have:=(hall m).1 hb;omega
    have:m∈Region.ready .any ops L:=mem_ready.2 ⟨?_,_,ho,fun e he hb=>(hall e.on).2 (hlt m _ ho e he hb)⟩
    ·rw[hr] at this;cases this
    ·unfold on at hoff
     rw[Array.getD_eq_getD_getElem?,Array.getElem?_eq_getElem (by rw[hL];exact h1)] at hoff ⊢
     exact hoff
   ·have hm:m=ops.size:=by omega
    rw[hm,← Array.length_toList,List.drop_length] at h
    exact h
  ·obtain rfl:=hrdy i hi
   obtain ⟨h1,o,ho,hdep⟩:=mem_ready.1 hi
   have his:=(Array.getElem?_eq_some_iff.1 ho).1
   have hdrop:ops.toList.drop i=o :: ops.toList.drop (i+1):=by
    rw[List.drop_eq_getElem_cons (by rw[Array.length_toList];exact his)]
    have:ops.toList[i]? = some o:=by rw[Array.getElem?_toList];exact ho
    rw[List.getElem?_eq_getElem (by rw[Array.length_toList];exact his)] at this
    rw[Option.some.inj this]
   rw[hdrop] at h
   have hop:wpOp P ops Q i (fun a' w'=>wpList P ops Q (ops.toList.drop (i+1)) a' w') a w:=by
    unfold wpOp
    rw[ho]
    exact h
   refine wpOp_mono (fun a' w' hq=>ih _ a' w' (i+1) (by omega) (by omega) (by rw[Array.size_setIfInBounds];exact hL) (fun j=>?_) (by have:=unl_set h1;omega) hq) hop
   rw[on_set (by rw[hL];omega)]
   constructor
   ·intro hj
    rw[Bool.or_eq_true] at hj
    rcases hj with hj|hj
    ·have:=(hall j).1 hj;omega
    ·have:i=j:=by simpa using hj
     omega
   ·intro hj
    by_cases h2:j<i
    ·rw[(hall j).2 h2,Bool.true_or]
    ·rw[show j=i by omega];simp
theorem flow_tail2 {id:Nat} (F:Flow) (n:Nat) (hn:n<ops.size) (hc:chain2 ops n=true) (hm:P.follows .mixedOrders=true) (R:RegF P Q F ops a0 n) (hB:∀ b,F.B b w.drew)
 (hp:∀ (V:Nat→Value) (w':World),(∀ i,i<n→F.kill i=[]→F.R i (V i) w')→(∀ b,F.killB b=[]→F.B b w')→wpList P ops Q (ops.toList.drop n) (putV V (ops.toList.take n) 0 a0) w'):(Code.region id ops true).wp P Q a0 w:=by
 have hlt:∀ (i:Nat) (o:Oper),ops[i]? = some o→∀ e∈o.after,Region.binds .any e=true→e.on<i:=fun i o ho=>(R.of ho).1
 have key:∀ (fuel:Nat) (L:Array Bool) (a:Act) (w:World),unl L=fuel→(∀ j,n≤j→on L j=false)→InvF F ops a0 L a w→wpAny P .any ops Q fuel L a w:=by
  intro fuel
  induction fuel with
  | zero =>
   intro L a w hu hoff hI
   have:=unl_zero hu n (by rw[hI.size];omega)
   rw[hoff n (Nat.le_refl _)] at this;cases this
  | succ fuel ih =>
   intro L a w hu hoff hI
   by_cases hall:∀ j,j<n→on L j=true
   ·have hall':∀ j,on L j=true↔j<n:=fun j=>⟨fun hj=>(by
     rcases Nat.lt_or_ge j n with h|h
     ·exact h
     ·rw[hoff j h] at hj;cases hj),hall j⟩
    obtain ⟨V,hV1,hV2⟩:=hI.all
    have ha:=hI.act R (by omega) hall' hV1
    have hkl:∀ l:List Nat,l=[]→∀ x∈l,on L x=false:=fun l hl x hx=>by rw[hl] at hx;cases hx
    have hfin:=hp V w (fun j hj hk=>hV2 j (hall j hj) (hkl _ hk)) (fun b hb=>hI.base b (hkl _ hb))
    rw[← ha] at hfin
    exact tail_any2 hc hlt _ L a w n (Nat.le_refl _) (by omega) hI.size hall' hu hfin
   ·refine ⟨fun hr=>?_,fun i hi=>?_⟩
    ·exact absurd (fun j hj=>hI.full R hr j (by omega)) hall
    ·obtain ⟨h1,o,ho,hdep⟩:=mem_ready.1 hi
     have his:i<ops.size:=(Array.getElem?_eq_some_iff.1 ho).1
     have hoi:on L i=false:=by
      unfold on
      rw[Array.getD_eq_getD_getElem?] at h1 ⊢
      cases hh:L[i]? with
      | none=>rfl
      | some b=>rw[hh] at h1;exact h1
     have hin:i<n:=by
      rcases Nat.lt_or_ge i n with h|h
      ·exact h
      ·exfalso
       rcases Nat.lt_or_ge n i with h2|h2
       ·have:=dep_ready ho hdep (chain2_dep hc h2 his)
        rw[hoff (i-1) (by omega)] at this
        cases this
       ·obtain rfl:i=n:=by omega
        refine hall fun j hj=>?_
        unfold chain2 at hc
        rw[Bool.and_eq_true] at hc
        have h3:=List.all_eq_true.1 hc.1 j (List.mem_range.2 hj)
        unfold reachB at h3
        rw[Bool.or_eq_true] at h3
        rcases h3 with h3|h3
        ·exact dep_ready ho hdep h3
        ·obtain ⟨x,hx,h4⟩:=List.any_eq_true.1 h3
         rw[Bool.and_eq_true] at h4
         exact reach_on hI 4 x j (by have:=List.mem_range.1 hx;omega) (dep_ready ho hdep h4.1) h4.2
     refine wpOp_mono (fun a' w' hI'=>ih _ a' w' (by have:=unl_set h1;omega) (fun j hj=>?_) hI') (stepF R hin (fun j hj=>?_) ho hoi hdep hI)
     ·rw[on_set (by rw[hI.size];exact his),hoff j hj]
      simp only[Bool.false_or,beq_eq_false_iff_ne]
      omega
     ·rcases Nat.lt_or_ge j n with h|h
      ·exact h
      ·rw[hoff j h] at hj;cases hj
 have hoff:∀ i,on (Array.replicate ops.size false) i=false:=fun i=>by
  unfold on
  rw[Array.getD_eq_getD_getElem?,Array.getElem?_replicate]
  by_cases h:i<ops.size
  ·rw[if_pos h];rfl
  ·rw[if_neg h];rfl
 refine wp_region_any hm (key _ _ a0 _ ?_ (fun j _=>hoff j) ⟨Array.size_replicate,(fun i o _ h=>by rw[hoff] at h;cases h),rfl,rfl,fun _ _=>rfl,⟨fun _=>undef,fun i d h=>(by rw[hoff] at h;cases h),fun i h=>(by rw[hoff] at h;cases h)⟩,fun b _=>hB b⟩)
 unfold unl
 rw[Array.toList_replicate,List.countP_replicate]
 simp
theorem Gw.tail2 {id:Nat} (G:Gw) (n:Nat) (hn:(decide (n<ops.size) && chain2 ops n)=true) (hm:P.follows .mixedOrders=true) (hc:chkF ops a0.tmps.size=true) (h:CertsF P Q G.flow ops a0 0 (ops.toList.take n)) (hB:G.B w.drew)
 (hp:∀ (V:Nat→Value) (w':World),(∀ i,i<n→G.R i (V i) w')→G.B w'→wpList P ops Q (ops.toList.drop n) (putV V (ops.toList.take n) 0 a0) w'):(Code.region id ops true).wp P Q a0 w:=by
 rw[Bool.and_eq_true,decide_eq_true_eq] at hn
 exact flow_tail2 G.flow n hn.1 hn.2 hm (Gw.reg hc h) (fun _=>hB) fun V w' h1 h2=>hp V w' (fun i hi=>h1 i hi rfl) (h2 0 rfl)
end RG
section
open Go.RowKit Go.Sort Go.Deep
variable {P:Nat} [NeZero P] {N:Nat}
structure CaI (w W:World) (k r:Nat) (X Y L:Bs):Prop where
 on:SP.Only r 0 32 w W
 r0:Row W k [.pointer (some ⟨r,0,none⟩)]
 r1:Row W (k+1) (bl33 X)
 r2:Row W (k+2) (bl33 Y)
 r3:Row W (k+3) [.int .u64 0,.int .u64 0,.int .u64 0,.int .u64 0]
 lg:Holds encB W r 0 L
theorem CaI.grow {w W W':World} {k r:Nat} {X Y L:Bs} (h:CaI w W k r X Y L) (hl:L.size=32) (hb:Below W.heap.size W W'):CaI w W' k r X Y L:=
 have hr:=Holds.lt h.lg (by omega)
 ⟨h.on.trans (SP.Only.of_below hb rfl hr),h.r0.below hb,h.r1.below hb,h.r2.below hb,h.r3.below hb,Holds.below h.lg hb hr⟩
theorem CaI.say {w W W':World} {k r:Nat} {X Y L L':Bs} (h:CaI w W k r X Y L) (hr:r<k) (hO:SP.Only r 0 32 W W') (hL:Holds encB W' r 0 L'):CaI w W' k r X Y L':=
 ⟨h.on.trans hO,h.r0.only hO (by omega),h.r1.only hO (by omega),h.r2.only hO (by omega),h.r3.only hO (by omega),hL⟩
theorem chAfter_c (O:Ord N) (r:Nat) (L X Y:Bs) (l1 l2:ByteArray) (h1:l1.size≤1048576) (h2:l2.size≤1048576) (hX:X.size=33) (hY:Y.size=33) (w:World) (hL:Holds encB w r 0 L) (hl:L.size=32) :
 Calls Tryz.prog 53 #[lgV r,.string l1,pvl X,.string l2,pvl Y] w (Ret fun e w'=>SP.Only r 0 32 w w'∧Holds encB w' r 0 (wentF (saidF l1.data.toList l2.data.toList L X Y))∧e=nv (chS N (saidF l1.data.toList l2.data.toList L X Y))):=by
 have hr:=Holds.lt hL (by omega)
 obtain ⟨L1,hL1⟩:∃ L1,Hid (SP.sayL L l1.data.toList X.toList=L1):=⟨_,rfl⟩
 have s1:L1.size=32:=by rw[← hL1.out];exact SP.sayL_size _ _ _
 obtain ⟨L2,hL2⟩:∃ L2,Hid (SP.sayL L1 l2.data.toList Y.toList=L2):=⟨_,rfl⟩
 have s2:L2.size=32:=by rw[← hL2.out];exact SP.sayL_size _ _ _
 have e2:saidF l1.data.toList l2.data.toList L X Y=L2:=by unfold saidF;rw[hL1.out,hL2.out]
 rw[e2]
 obtain ⟨k,hk⟩:∃ k,Hid (w.heap.size=k):=⟨_,rfl⟩
 obtain ⟨w1,hw1⟩:∃ w1,Hid (w.alloc (.cells #[.pointer (some ⟨r,0,none⟩)] 70)=w1):=⟨_,rfl⟩
 obtain ⟨w2,hw2⟩:∃ w2,Hid (w1.alloc (.cells (bl33 X).toArray 61)=w2):=⟨_,rfl⟩
 obtain ⟨w3,hw3⟩:∃ w3,Hid (w2.alloc (.cells (bl33 Y).toArray 61)=w3):=⟨_,rfl⟩
 obtain ⟨w4,hw4⟩:∃ w4,Hid (w3.alloc (.cells #[.int .u64 0,.int .u64 0,.int .u64 0,.int .u64 0] 52)=w4):=⟨_,rfl⟩
 have z1:w1.heap.size=k+1:=by rw[← hw1.out,World.size_alloc,hk.out]
 have z2:w2.heap.size=k+2:=by rw[← hw2.out,World.size_alloc,z1]
 have z3:w3.heap.size=k+3:=by rw[← hw3.out,World.size_alloc,z2]
 have hrk:r<k:=by rw[← hk.out];exact hr
 have HK:Hid (w.heap.size≤k):=by show _≤_;rw[hk.out];exact Nat.le_refl _
 have K4:Hid (CaI w w4 k r X Y L):=by
  have b1:Below w.heap.size w w1:=by rw[← hw1.out];exact below1 _ _
  have b2:Below w1.heap.size w1 w2:=by rw[← hw2.out];exact below1 _ _
  have b3:Below w2.heap.size w2 w3:=by rw[← hw3.out];exact below1 _ _
  have b4:Below w3.heap.size w3 w4:=by rw[← hw4.out];exact below1 _ _
  have r1:Row w1 k [.pointer (some ⟨r,0,none⟩)]:=by rw[← hw1.out,← hk.out];exact row_new w _ _
  have r2:Row w2 (k+1) (bl33 X):=by rw[← hw2.out,← z1];exact row_new w1 _ _
  have r3:Row w3 (k+2) (bl33 Y):=by rw[← hw3.out,← z2];exact row_new w2 _ _
  have r4:Row w4 (k+3) [.int .u64 0,.int .u64 0,.int .u64 0,.int .u64 0]:=by rw[← hw4.out,← z3];exact row_new w3 _ _
  have bb:Below w.heap.size w w4:=((b1.trans (b2.mono b1.size)).trans (b3.mono (Nat.le_trans b1.size b2.size))).trans (b4.mono (Nat.le_trans b1.size (Nat.le_trans b2.size b3.size)))
  exact ⟨SP.Only.of_below bb rfl hr,((r1.below b2).below b3).below b4,(r2.below b3).below b4,r3.below b4,r4,Holds.below hL bb hr⟩
 obtain ⟨vl,hvl⟩:∃ v,Hid (lgV r=v):=⟨_,rfl⟩
 obtain ⟨vX,hvX⟩:∃ v,Hid (pvl X=v):=⟨_,rfl⟩
 obtain ⟨vY,hvY⟩:∃ v,Hid (pvl Y=v):=⟨_,rfl⟩
 have B1:Hid ((Instr.box 70 vl).run Tryz.prog w=.ok (.pointer (some ⟨k,0,none⟩)) w1):=by rw[← hvl.out,← hw1.out,← hk.out];exact boxL r w
 have B2:Hid ((Instr.box 61 vX).run Tryz.prog w1=.ok (.pointer (some ⟨k+1,0,none⟩)) w2):=by rw[← hvX.out,← hw2.out,← z1];exact boxCP hX w1
 have B3:Hid ((Instr.box 61 vY).run Tryz.prog w2=.ok (.pointer (some ⟨k+2,0,none⟩)) w3):=by rw[← hvY.out,← hw3.out,← z2];exact boxCP hY w2
 have HZ:Hid (w3.heap.size=k+3):=z3
 rw[hvl.out,hvX.out,hvY.out]
 have HC:Hid (Ord N∧l1.size≤1048576∧l2.size≤1048576∧X.size=33∧Y.size=33):=⟨O,h1,h2,hX,hY⟩
 clear hL z1 z2 z3 hw1 hw2 hw3 hk e2 O h1 h2 hX hY
 go_enter Tryz.func53,Tryz.ntmps53
 go_wp2_with (first|(refine wpList_box (u:=vl) (v:=.pointer (some ⟨k,0,none⟩)) (w':=w1) rfl 70 (.tmp 0) rfl ?_ ?_ ?_;rfl;exact B1.out)|(refine wpList_box (u:=vX) (v:=.pointer (some ⟨k+1,0,none⟩)) (w':=w2) rfl 61 (.tmp 2) rfl ?_ ?_ ?_;rfl;exact B2.out)|(refine wpList_box (u:=vY) (v:=.pointer (some ⟨k+2,0,none⟩)) (w':=w3) rfl 61 (.tmp 4) rfl ?_ ?_ ?_;rfl;exact B3.out)|(refine wpList_al (v:=.pointer (some ⟨k+3,0,none⟩)) (w':=w4) rfl 52 10 rfl rfl ?_ ?_;(rw[← hw4.out,← HZ.out];kernel_rfl))|fail)
 refine (RG.gwL [RG.pE (.pointer (some ⟨k,0,none⟩)),RG.pE (.pointer (some ⟨k,0,none⟩)),RG.pE (.pointer (some ⟨r,0,none⟩)),RG.pE (.string l1),RG.pE (.slice (some ⟨k+1,0,none⟩) 33 33)] (fun W=>CaI w W k r X Y L) (fun W W' hb h=>h.grow hl hb)).tail2 5 (by kernel_rfl) (by kernel_rfl) (by kernel_rfl) ⟨
  RG.gw_o 5 (.pointer (some ⟨k,0,none⟩)) (.pointer (some ⟨k,0,none⟩)) rfl (fun _=>rfl),
  RG.gw_n 0 11 (.pointer (some ⟨k,0,none⟩)) (.pointer (some ⟨k,0,none⟩)) (fun x W h=>h) (fun _=>rfl),
  RG.gw_l1 66 1 12 k 0 (.pointer (some ⟨r,0,none⟩)) uLp (fun x W h=>h) (fun W hB=>hB.r0.2.1 0 _ rfl) (fun _=>rfl),
  RG.gw_o 1 (.string l1) (.string l1) rfl (fun _=>rfl),
  RG.gw_o 7 (.pointer (some ⟨k+1,0,none⟩)) (.slice (some ⟨k+1,0,none⟩) 33 33) rfl (fun _=>rfl),trivial⟩ (K4.out.grow hl ⟨rfl,rfl,rfl,Nat.le_refl _,fun _ _=>rfl⟩) ?_
 intro V w5 hR hB
 have hV2:V 2=.pointer (some ⟨r,0,none⟩):=hR 2 (by decide)
 have hV3:V 3=.string l1:=hR 3 (by decide)
 have hV4:V 4=.slice (some ⟨k+1,0,none⟩) 33 33:=hR 4 (by decide)
 dsimp only[RG.putV,Nat.reduceAdd,List.take,List.drop]
 simp only[Act.put,List.setIfInBounds_toArray,List.set_cons_succ,List.set_cons_zero]
 rw[hV2,hV3,hV4]
 have KB:=Hid.mk' hB
 clear hR hB hV2 hV3 hV4 K4
 generalize V 0=s0
 generalize V 1=s1'
 go_wp2_with fail
 refine (SP.Say_any r L l1 (some ⟨k+1,0,none⟩) 33 33 X.toList w5 HC.out.2.1 (sp_h KB.out.lg) hl (row_part HC.out.2.2.2.1 KB.out.r1)).mono ?_
 rintro e w6 ⟨rfl,hO,hH⟩
 rw[hL1.out] at hH
 have K6:Hid (CaI w w6 k r X Y L1):=KB.out.say hrk hO (sp_k hH)
 clear hO hH KB
 go_wp2_with fail
 refine (RG.gwL [RG.pE (.pointer (some ⟨k,0,none⟩)),RG.pE (.pointer (some ⟨k,0,none⟩)),RG.pE (.pointer (some ⟨r,0,none⟩)),RG.pE (.string l2),RG.pE (.slice (some ⟨k+2,0,none⟩) 33 33)] (fun W=>CaI w W k r X Y L1) (fun W W' hb h=>h.grow s1 hb)).tail2 5 (by kernel_rfl) (by kernel_rfl) (by kernel_rfl) ⟨
  RG.gw_o 5 (.pointer (some ⟨k,0,none⟩)) (.pointer (some ⟨k,0,none⟩)) rfl (fun _=>rfl),
  RG.gw_n 0 17 (.pointer (some ⟨k,0,none⟩)) (.pointer (some ⟨k,0,none⟩)) (fun x W h=>h) (fun _=>rfl),
  RG.gw_l1 66 1 18 k 0 (.pointer (some ⟨r,0,none⟩)) uLp (fun x W h=>h) (fun W hB=>hB.r0.2.1 0 _ rfl) (fun _=>rfl),
  RG.gw_o 3 (.string l2) (.string l2) rfl (fun _=>rfl),
  RG.gw_o 9 (.pointer (some ⟨k+2,0,none⟩)) (.slice (some ⟨k+2,0,none⟩) 33 33) rfl (fun _=>rfl),trivial⟩ (K6.out.grow s1 ⟨rfl,rfl,rfl,Nat.le_refl _,fun _ _=>rfl⟩) ?_
 intro V w7 hR hB
 have hV2:V 2=.pointer (some ⟨r,0,none⟩):=hR 2 (by decide)
 have hV3:V 3=.string l2:=hR 3 (by decide)
 have hV4:V 4=.slice (some ⟨k+2,0,none⟩) 33 33:=hR 4 (by decide)
 dsimp only[RG.putV,Nat.reduceAdd,List.take,List.drop]
 simp only[Act.put,List.setIfInBounds_toArray,List.set_cons_succ,List.set_cons_zero]
 rw[hV2,hV3,hV4]
 have KB:=Hid.mk' hB
 clear hR hB hV2 hV3 hV4 K6
 generalize V 0=s2'
 generalize V 1=s3
 go_wp2_with fail
 refine (SP.Say_any r L1 l2 (some ⟨k+2,0,none⟩) 33 33 Y.toList w7 HC.out.2.2.1 (sp_h KB.out.lg) s1 (row_part HC.out.2.2.2.2 KB.out.r2)).mono ?_
 rintro e w8 ⟨rfl,hO,hH⟩
 rw[hL2.out] at hH
 have K8:Hid (CaI w w8 k r X Y L2):=KB.out.say hrk hO (sp_k hH)
 clear hO hH KB
 have HS:=Hid.mk' (challS_c HC.out.1 r L2 w8 K8.out.lg s2)
 have hws:(wentF L2).size=32:=SP.askedL_size _ _
 obtain ⟨q,hq⟩:∃ m,Hid (chS N L2=m):=⟨_,rfl⟩
 obtain ⟨L3,hL3⟩:∃ m,Hid (wentF L2=m):=⟨_,rfl⟩
 rw[hq.out,hL3.out] at HS
 rw[hL3.out] at hws
 obtain ⟨d,hd1,hd2⟩:=Option.map_eq_some_iff.1 uLg
 have HD:Hid (Tryz.prog.underlying 70=some d∧d.isRow=true):=⟨hd1,hd2⟩
 clear hd1 hd2
 go_wp2_with (first|(refine wpList_load_mid rfl 70 (.tmp 5) rfl k 0 ?_ [.pointer (some ⟨r,0,none⟩)] d ?_ ?_ ?_ ?_ ?_;rfl;exact K8.out.r0.2.1;exact HD.out.1;exact HD.out.2;exact iLg;skip)|fail)
 refine HS.out.mono ?_
 rintro e w9 ⟨v,rfl,hO,hH,rfl⟩
 have K9:Hid (CaI w w9 k r X Y L3):=K8.out.say hrk hO hH
 clear hO hH K8 HS
 obtain ⟨wa,hwa⟩:∃ wa,Hid (w9.setCells (k+3) 0 (wn q)=wa):=⟨_,rfl⟩
 have KA:Hid (Row wa (k+3) (wn q)∧SP.Only r 0 32 w wa∧Holds encB wa r 0 L3):=by
  have hsz:=HZ.out
  rw[← hwa.out]
  exact ⟨K9.out.r3.put rfl,only_setCells K9.out.on hr (by have:=HK.out;omega) _,holds_set K9.out.lg (by omega)⟩
 obtain ⟨vm,hvm⟩:∃ vm,Hid (nv q=vm):=⟨_,rfl⟩
 rw[hvm.out]
 go_wp2_with (refine wpList_store_mid rfl 52 _ _ rfl (k+3) 0 (wn q).toArray ?_ ?_ ?_ ?_ ?_ ?_;rfl;exact hvm.out.symm;exact K9.out.r3.2.2;exact nSc;exact wn_one q;rw[show (wn q).toArray.toList=wn q from rfl,hwa.out])
 refine bodyPost_ret (results_cell 10 52 rfl KA.out.1 rfl rSc nSc) rfl ?_
 exact ⟨_,rfl,KA.out.2.1,by rw[hL3.out];exact KA.out.2.2,by rw[hq.out];rfl⟩
def pLog (label:List UInt8) (X:Bs):Bs:=SP.sayL (SP.sayL (SP.newL [112,114,111,100,117,99,116]) [108,97,98,101,108] label) [112,111,105,110,116] X.toList
theorem pLog_size (label:List UInt8) (X:Bs):(pLog label X).size=32:=SP.sayL_size _ _ _
structure PlI (w W:World) (k k5 r:Nat) (X L:Bs):Prop where
 bl:Below w.heap.size w W
 r3:Row W k (bl33 X)
 r4:Row W (k+1) [.pointer none]
 r5:Row W k5 [.pointer (some ⟨r,0,none⟩)]
 lg:Holds encB W r 0 L
structure PlN (w:World) (k k5 r:Nat):Prop where
 lr:w.heap.size≤r
 n3:k≠r
 n4:k+1≠r
 n5:k5≠r
theorem PlI.grow {w W W':World} {k k5 r:Nat} {X L:Bs} (h:PlI w W k k5 r X L) (hl:L.size=32) (hb:Below W.heap.size W W'):PlI w W' k k5 r X L:=
 ⟨h.bl.trans (hb.mono h.bl.size),h.r3.below hb,h.r4.below hb,h.r5.below hb,Holds.below h.lg hb (Holds.lt h.lg (by omega))⟩
theorem PlI.say {w W W':World} {k k5 r:Nat} {X L L':Bs} (h:PlI w W k k5 r X L) (n:PlN w k k5 r) (hO:SP.Only r 0 32 W W') (hL:Holds encB W' r 0 L'):PlI w W' k k5 r X L':=
 ⟨h.bl.trans (hO.below h.bl.size n.lr),h.r3.only hO n.n3,h.r4.only hO n.n4,h.r5.only hO n.n5,hL⟩
def RG.pP (x:List UInt8):RG.S1:=⟨fun v W=>∃ q l c,v=.slice q l c∧SP.PartOk W v x,fun _ _ _ hb ⟨q,l,c,h1,h2⟩=>⟨q,l,c,h1,h2.below hb⟩⟩
theorem pLog_c (label:ByteArray) (hlab:label.size≤1000000) (X:Bs) (hX:X.size=33) (w:World) :
 Calls Tryz.prog 22 #[.string label,pvl X] w (Ret fun e w'=>Below w.heap.size w w'∧∃ r,e=lgV r∧w.heap.size≤r∧r<w'.heap.size∧Holds encB w' r 0 (pLog label.data.toList X)):=by
 have hNL:=fun W=>newLogS_c ⟨#[112,114,111,100,117,99,116]⟩ W (by decide)
 obtain ⟨L0,hL0⟩:∃ L,L=SP.newL (⟨#[112,114,111,100,117,99,116]⟩:ByteArray).data.toList:=⟨_,rfl⟩
 have s0:L0.size=32:=by rw[hL0];exact SP.newL_size _
 rw[← hL0] at hNL
 have HN:=Hid.mk' hNL
 clear hNL
 have hS1:=fun (r:Nat) (W:World) (ta:Option Addr) (tl tc:Nat) (hL:Holds SP.encB W r 0 L0) (hT:SP.PartOk W (.slice ta tl tc) label.data.toList)=>SP.Say_any r L0 ⟨#[108,97,98,101,108]⟩ ta tl tc label.data.toList W (by decide) hL s0 hT
 obtain ⟨L1,hL1⟩:∃ L,L=SP.sayL L0 (⟨#[108,97,98,101,108]⟩:ByteArray).data.toList label.data.toList:=⟨_,rfl⟩
 have s1:L1.size=32:=by rw[hL1];exact SP.sayL_size _ _ _
 rw[← hL1] at hS1
 have hS2:=fun (r:Nat) (W:World) (ta:Option Addr) (tl tc:Nat) (hL:Holds SP.encB W r 0 L1) (hT:SP.PartOk W (.slice ta tl tc) X.toList)=>SP.Say_any r L1 ⟨#[112,111,105,110,116]⟩ ta tl tc X.toList W (by decide) hL s1 hT
 obtain ⟨L2,hL2⟩:∃ L,L=SP.sayL L1 (⟨#[112,111,105,110,116]⟩:ByteArray).data.toList X.toList:=⟨_,rfl⟩
 have s2:L2.size=32:=by rw[hL2];exact SP.sayL_size _ _ _
 rw[← hL2] at hS2
 have e2:pLog label.data.toList X=L2:=by
  have e0:SP.newL [112,114,111,100,117,99,116]=L0:=hL0.symm
  have e1:SP.sayL L0 [108,97,98,101,108] label.data.toList=L1:=hL1.symm
  unfold pLog
  rw[e0,e1]
  exact hL2.symm
 rw[e2]
 have HS:=Hid.mk' (And.intro hS1 hS2)
 clear e2 hL0 hL1 hL2 hS1 hS2
 obtain ⟨k,hk⟩:∃ k,Hid (w.heap.size=k):=⟨_,rfl⟩
 obtain ⟨w1,hw1⟩:∃ w1,Hid (w.alloc (.cells (bl33 X).toArray 61)=w1):=⟨_,rfl⟩
 obtain ⟨w2,hw2⟩:∃ w2,Hid (w1.alloc (.cells #[.pointer none] 70)=w2):=⟨_,rfl⟩
 have z1:w1.heap.size=k+1:=by rw[← hw1.out,World.size_alloc,hk.out]
 have z2:w2.heap.size=k+2:=by rw[← hw2.out,World.size_alloc,z1]
 have K2:Hid (Below w.heap.size w w2∧Row w2 k (bl33 X)∧Row w2 (k+1) [.pointer none]):=by
  have b1:Below w.heap.size w w1:=by rw[← hw1.out];exact below1 _ _
  have b2:Below w1.heap.size w1 w2:=by rw[← hw2.out];exact below1 _ _
  have r1:Row w1 k (bl33 X):=by rw[← hw1.out,← hk.out];exact row_new w _ _
  have r2:Row w2 (k+1) [.pointer none]:=by rw[← hw2.out,← z1];exact row_new w1 _ _
  exact ⟨b1.trans (b2.mono b1.size),r1.below b2,r2⟩
 obtain ⟨vX,hvX⟩:∃ v,Hid (pvl X=v):=⟨_,rfl⟩
 have B1:Hid ((Instr.box 61 vX).run Tryz.prog w=.ok (.pointer (some ⟨k,0,none⟩)) w1):=by rw[← hvX.out,← hw1.out,← hk.out];exact boxCP hX w
 have HZ:Hid (w1.heap.size=k+1∧w2.heap.size=k+2∧w.heap.size=k):=⟨z1,z2,hk.out⟩
 have HC:Hid (label.size≤1000000∧X.size=33):=⟨hlab,hX⟩
 rw[hvX.out]
 clear z1 z2 hw1 hk hlab hX
 go_enter Tryz.func22,Tryz.ntmps22
 go_wp2_with (first|(refine wpList_box (u:=vX) (v:=.pointer (some ⟨k,0,none⟩)) (w':=w1) rfl 61 (.tmp 1) rfl ?_ ?_ ?_;rfl;exact B1.out)|(refine wpList_al (v:=.pointer (some ⟨k+1,0,none⟩)) (w':=w2) rfl 70 4 rfl rfl ?_ ?_;(rw[← hw2.out,← HZ.out.1];kernel_rfl))|fail)
 refine (HN.out w2).mono ?_
 rintro e w3 ⟨v3,rfl,hb3,r,rfl,hr1,hr2,hH3⟩
 clear HN
 obtain ⟨k5,hk5⟩:∃ k,Hid (w3.heap.size=k):=⟨_,rfl⟩
 obtain ⟨w4,hw4⟩:∃ w4,Hid (w3.alloc (.cells #[.pointer none] 70)=w4):=⟨_,rfl⟩
 obtain ⟨w5,hw5⟩:∃ w5,Hid (w4.setCells k5 0 [.pointer (some ⟨r,0,none⟩)]=w5):=⟨_,rfl⟩
 have F4:Hid (Row w4 k5 [.pointer none]∧Below w3.heap.size w3 w4):=by rw[← hw4.out,← hk5.out];exact ⟨row_new w3 _ _,below1 _ _⟩
 have PN:Hid (PlN w k k5 r):=⟨by have:=HZ.out;omega,by have:=HZ.out;omega,by have:=HZ.out;omega,by rw[← hk5.out];omega⟩
 have K5:Hid (PlI w w5 k k5 r X L0):=by
  have b5:Below w3.heap.size w3 w5:=by rw[← hw5.out];exact RG.below_setCells (by rw[hk5.out];exact Nat.le_refl _) _ _ _ F4.out.2
  have b3:=K2.out.1.trans (hb3.mono K2.out.1.size)
  exact ⟨b3.trans (b5.mono b3.size),(K2.out.2.1.below hb3).below b5,(K2.out.2.2.below hb3).below b5,by rw[← hw5.out];exact F4.out.1.put rfl,Holds.below hH3 b5 hr2⟩
 obtain ⟨vl,hvl⟩:∃ v,Hid (lgV r=v):=⟨_,rfl⟩
 rw[hvl.out]
 clear hb3 hH3 K2 hr1 hr2
 go_upto_region 2 with (first|(refine wpList_al (v:=.pointer (some ⟨k5,0,none⟩)) (w':=w4) rfl 70 5 rfl rfl ?_ ?_;(rw[← hw4.out,← hk5.out];kernel_rfl))|(refine wpList_store_mid rfl 70 (.tmp 5) _ rfl k5 0 #[.pointer (some ⟨r,0,none⟩)] ?_ ?_ ?_ ?_ ?_ ?_;rfl;exact hvl.out.symm;exact F4.out.1.2.2;exact iLg;kernel_rfl;rw[show (#[.pointer (some ⟨r,0,none⟩)]:Array Value).toList=[.pointer (some ⟨r,0,none⟩)] from rfl,hw5.out])|fail)
 clear F4 hw4 hw5 hk5
 simp only[Act.put,List.setIfInBounds_toArray,List.set_cons_succ,List.set_cons_zero]
 refine (RG.gwL [RG.pE (.pointer (some ⟨k5,0,none⟩)),RG.pE (.pointer (some ⟨k5,0,none⟩)),RG.pE (.pointer (some ⟨r,0,none⟩)),RG.pE (.string label),RG.pP label.data.toList] (fun W=>PlI w W k k5 r X L0) (fun W W' hb h=>h.grow s0 hb)).plain 5 (by kernel_rfl) ⟨
  RG.gw_o 5 (.pointer (some ⟨k5,0,none⟩)) (.pointer (some ⟨k5,0,none⟩)) rfl (fun _=>rfl),
  RG.gw_n 0 7 (.pointer (some ⟨k5,0,none⟩)) (.pointer (some ⟨k5,0,none⟩)) (fun x W h=>h) (fun _=>rfl),
  RG.gw_l1 66 1 8 k5 0 (.pointer (some ⟨r,0,none⟩)) uLp (fun x W h=>h) (fun W hB=>hB.r5.2.1 0 _ rfl) (fun _=>rfl),
  RG.gw_o 0 (.string label) (.string label) rfl (fun _=>rfl),
  RG.cf_val (fun a W hp'=>by
   have hp:=RG.pre_of hp'
   have h1:a.eval (.tmp 10)=.string label:=hp.n 3 10 (by kernel_rfl) (by kernel_rfl)
   obtain ⟨c,W1,hcv,hc,hH1,hP1,hb1,hlt1⟩:=SP.conv_part label W (by have:=HC.out.1;omega)
   refine ⟨_,W1,?_,hb1,_,_,_,rfl,hP1⟩
   unfold execOp
   dsimp only
   rw[h1,Sem.run_bind,hcv]
   rfl),trivial⟩ K5.out ?_
 intro V w6 hR hB
 have hV2:V 2=.pointer (some ⟨r,0,none⟩):=hR 2 (by decide)
 obtain ⟨q4,l4,c4,hV4,hP4⟩:∃ q l c,V 4=.slice q l c∧SP.PartOk w6 (V 4) label.data.toList:=hR 4 (by decide)
 rw[hV4] at hP4
 dsimp only[RG.putV,Nat.reduceAdd,List.take,List.drop]
 simp only[Act.put,List.setIfInBounds_toArray,List.set_cons_succ,List.set_cons_zero]
 rw[hV2,hV4]
 have KB:Hid (PlI w w6 k k5 r X L0∧SP.PartOk w6 (.slice q4 l4 c4) label.data.toList):=⟨hB,hP4⟩
 clear hR hB hV2 hV4 hP4 K5
 generalize V 0=s0'
 generalize V 1=s1'
 generalize V 3=s3'
 go_wp2_with fail
 refine (HS.out.1 r w6 q4 l4 c4 (sp_h KB.out.1.lg) KB.out.2).mono ?_
 rintro e w7 ⟨rfl,hO,hH⟩
 have K7:Hid (PlI w w7 k k5 r X L1):=KB.out.1.say PN.out hO (sp_k hH)
 clear hO hH KB
 go_wp2_with fail
 refine (RG.gwL [RG.pE (.pointer (some ⟨k5,0,none⟩)),RG.pE (.pointer (some ⟨k5,0,none⟩)),RG.pE (.pointer (some ⟨r,0,none⟩)),RG.pE (.slice (some ⟨k,0,none⟩) 33 33)] (fun W=>PlI w W k k5 r X L1) (fun W W' hb h=>h.grow s1 hb)).tail2 4 (by kernel_rfl) (by kernel_rfl) (by kernel_rfl) ⟨
  RG.gw_o 5 (.pointer (some ⟨k5,0,none⟩)) (.pointer (some ⟨k5,0,none⟩)) rfl (fun _=>rfl),
  RG.gw_n 0 13 (.pointer (some ⟨k5,0,none⟩)) (.pointer (some ⟨k5,0,none⟩)) (fun x W h=>h) (fun _=>rfl),
  RG.gw_l1 66 1 14 k5 0 (.pointer (some ⟨r,0,none⟩)) uLp (fun x W h=>h) (fun W hB=>hB.r5.2.1 0 _ rfl) (fun _=>rfl),
  RG.gw_o 3 (.pointer (some ⟨k,0,none⟩)) (.slice (some ⟨k,0,none⟩) 33 33) rfl (fun _=>rfl),trivial⟩ (K7.out.grow s1 ⟨rfl,rfl,rfl,Nat.le_refl _,fun _ _=>rfl⟩) ?_
 intro V w8 hR hB
 have hV2:V 2=.pointer (some ⟨r,0,none⟩):=hR 2 (by decide)
 have hV3:V 3=.slice (some ⟨k,0,none⟩) 33 33:=hR 3 (by decide)
 dsimp only[RG.putV,Nat.reduceAdd,List.take,List.drop]
 simp only[Act.put,List.setIfInBounds_toArray,List.set_cons_succ,List.set_cons_zero]
 rw[hV2,hV3]
 have KB:=Hid.mk' hB
 clear hR hB hV2 hV3 K7
 generalize V 0=s4'
 generalize V 1=s5'
 go_wp2_with fail
 refine (HS.out.2 r w8 (some ⟨k,0,none⟩) 33 33 (sp_h KB.out.lg) (row_part HC.out.2 KB.out.r3)).mono ?_
 rintro e w9 ⟨rfl,hO,hH⟩
 have K9:Hid (PlI w w9 k k5 r X L2):=KB.out.say PN.out hO (sp_k hH)
 clear hO hH KB
 obtain ⟨d,hd1,hd2⟩:=Option.map_eq_some_iff.1 uLg
 have HD:Hid (Tryz.prog.underlying 70=some d∧d.isRow=true):=⟨hd1,hd2⟩
 clear hd1 hd2
 obtain ⟨wa,hwa⟩:∃ wa,Hid (w9.setCells (k+1) 0 [.pointer (some ⟨r,0,none⟩)]=wa):=⟨_,rfl⟩
 have KA:Hid (Below w.heap.size w wa∧Row wa (k+1) [.pointer (some ⟨r,0,none⟩)]∧r<wa.heap.size∧Holds encB wa r 0 L2):=by
  rw[← hwa.out]
  exact ⟨RG.below_setCells (by have:=HZ.out;omega) _ _ _ K9.out.bl,K9.out.r4.put rfl,by rw[RG.setCells_size];exact Holds.lt K9.out.lg (by omega),holds_set K9.out.lg (by have:=PN.out.n4;omega)⟩
 have R9:Hid (w9.rangeAt k5 0 [.pointer (some ⟨r,0,none⟩)]∧w9.there (k+1) 0 1):=⟨K9.out.r5.2.1,K9.out.r4.2.2⟩
 clear K9
 go_wp2_with (first|(refine wpList_load_mid rfl 70 (.tmp 5) rfl k5 0 ?_ [.pointer (some ⟨r,0,none⟩)] d ?_ ?_ ?_ ?_ ?_;rfl;exact R9.out.1;exact HD.out.1;exact HD.out.2;exact iLg;rw[show Value.agg [Value.pointer (some ⟨r,0,none⟩)].toArray=vl from hvl.out])|(refine wpList_store_mid rfl 70 (.tmp 4) _ rfl (k+1) 0 #[.pointer (some ⟨r,0,none⟩)] ?_ ?_ ?_ ?_ ?_ ?_;rfl;exact hvl.out.symm;exact R9.out.2;exact iLg;kernel_rfl;rw[show (#[.pointer (some ⟨r,0,none⟩)]:Array Value).toList=[.pointer (some ⟨r,0,none⟩)] from rfl,hwa.out])|fail)
 refine bodyPost_ret (results_cell 4 70 rfl KA.out.2.1 rfl uLg iLg) rfl ?_
 exact ⟨_,rfl,KA.out.1,r,rfl,PN.out.lr,KA.out.2.2.1,KA.out.2.2.2⟩
end
namespace SP
open Go.RowKit Go.Sort Go.Deep
end SP
section
open Go.RowKit Go.Sort Go.Deep
variable {P:Nat} [NeZero P] {N:Nat}
theorem undBB:Tryz.prog.underlying 22=some (.slice 23):=by kernel_rfl
theorem infoBB:(Tryz.prog.info? 23).map (fun i=>(i.size,i.bytes,i.zero.map fun z=>z.cells.size))=some (1,24,some 1):=by kernel_rfl
theorem addP0 (g o j:Nat):(⟨g,o,none⟩:Addr).add j=⟨g,o+j,none⟩:=by
 unfold Addr.add
 by_cases h0:j=0
 ·subst h0;rw[if_pos rfl];rfl
 ·rw[if_neg h0]
end
section
open Go.RowKit Go.Sort Go.Deep
section
variable {P:Program} {ops:Array Oper} {rest:List Oper} {op:Oper} {a:Act} {w w':World} {v:Value} {Q:Exit→Act→World→Prop}
end
theorem alloc_below (w:World) (o:Obj):Below w.heap.size w (w.alloc o):=(Below.refl _ _).alloc (Nat.le_refl _) _
end
section
open Go.RowKit Go.Sort Go.Deep
variable {P:Nat} [NeZero P] {N:Nat}
structure Sv where
 q:Option Addr
 n:Nat
 c:Nat
def Pt (W:World) (u:Value) (b:SP.Bs):Prop:=∃ q c,u=.slice q (Array.size b) c∧(b.size=0∨∃ g o,q=some ⟨g,o,none⟩∧g<W.heap.size∧Holds SP.encB W g o b)
theorem range_below {w w':World} {b o:Nat} {cs:List Value} (h:w.rangeAt b o cs) (hb:Below w.heap.size w w') (hlt:b<w.heap.size):w'.rangeAt b o cs:=fun j u hj=>by rw[hb.cell (p:=⟨b,o+j,none⟩) hlt];exact h j u hj
theorem nextcap_leP (n c:Nat) (h:c<n):Builtin.nextslicecap n c≤2*n+768:=by
 unfold Builtin.nextslicecap
 split
 ·omega
 ·split
  ·omega
  ·simp only[Builtin.growBy]
   repeat' split
   all_goals omega
theorem own_blockQ {base n m size c:Nat} {T e:TypeId} {i:TypeInfo} {z:Value} {W W':World} {v v':Value} {xs news:List Value} {a:Addr} (hT:Tryz.prog.underlying T=some (.slice e)) (hi:Tryz.prog.info? e=some i) (hz:i.zero=some z) (hsz:i.size=size) (hby:i.bytes≤1000)
 (hown:W.ownsRow base e size v n xs) (hs:Src Tryz.prog size T (.slice (some a) m c) m news W) (hn:n+m≤1000000000)
 (hr:(Builtin.append_ #[T,T] T #[v,.slice (some a) m c]).run Tryz.prog W=.ok v' W'):v'.ownBlock=v.ownBlock∨(v'.ownBlock=some W.heap.size∧Below W.heap.size W W'):=by
 subst hsz
 have hgrow:∀ (q:Option Addr) (cap:Nat) (olds:List Value),v=.slice q n cap→cap<n+m→(Builtin.firstCells i.size n (.slice q n cap)).run Tryz.prog W.drew=.ok olds.toArray W.drew→v'.ownBlock=v.ownBlock∨(v'.ownBlock=some W.heap.size∧Below W.heap.size W W'):=fun q cap olds hv hc hold=>by
  have h1:=nextcap_leP (n+m) cap hc
  have h2:Builtin.nextslicecap (n+m) cap*i.bytes≤(2*(n+m)+768)*1000:=Nat.mul_le_mul h1 hby
  have hap:=run_append_grow_src (P:=Tryz.prog) W T T T e i z hT hi hz q n cap olds hold (.slice (some a) m c) m news hs hc (by omega) (Nat.le_trans h2 (by clear h1 h2;omega))
  rw[hv,hap] at hr
  injection hr with hr1 hr2
  right
  refine ⟨by rw[← hr1];rfl,?_⟩
  rw[← hr2]
  exact (⟨rfl,rfl,rfl,Nat.le_refl _,fun _ _=>rfl⟩:Below W.heap.size W W.drew).trans (alloc_below W.drew _)
 rcases id hown with ⟨-,⟨rfl,rfl⟩|⟨g,cap,cur,rfl,g1,g2,g3,g4,g5,g6⟩⟩
 ·by_cases hm:m=0
  ·subst hm
   have hr':=hr
   obtain ⟨w1,hr2⟩:∃ w1,(Builtin.append_ #[T,T] T #[.slice none 0 0,.slice (some a) 0 c]).run Tryz.prog W=.ok (.slice none 0 0) w1:=by
    rcases hs.kind with ⟨e',hk⟩|hk<;>exact ⟨_,by simp[Builtin.append_,run_underlying hT,run_underlying hk,sizeOf,typeInfo,hi,hs.len,hs.cells];rfl⟩
   rw[hr2] at hr
   injection hr with hr1 hr2
   left
   rw[← hr1]
  ·exact hgrow none 0 [] rfl (by omega) (run_firstCells_none W.drew i.size 0 0 0)
 ·by_cases hroom:n+m≤cap
  ·have hap:=run_append_room_src (P:=Tryz.prog) W T T T e i hT hi g 0 n cap (.slice (some a) m c) m news hs hroom
    (fun j hj=>by
     have hj2:n*i.size+j<cur.size:=by
      rw[g5]
      have h1:j<m*i.size:=by rw[← hs.newsLen];exact hj
      have h2:(n+m)*i.size≤cap*i.size:=Nat.mul_le_mul_right _ hroom
      rw[Nat.add_mul] at h2
      omega
     simp[World.cell?,g2,Nat.zero_add,Array.getElem?_eq_getElem hj2])
    (fun j hj=>by simp[World.frozen?,g2])
   rw[hap] at hr
   injection hr with hr1 hr2
   left
   rw[← hr1]
   rfl
  ·refine hgrow (some ⟨g,0,none⟩) cap xs rfl (by omega) ?_
   exact run_firstCells_some W.drew i.size n ⟨g,0,none⟩ n cap xs hown.1 (fun j u hj=>by rw[World.cell?_drew];exact hown.cells (g:=g) rfl j u hj)
structure Ap1 (W W':World) (v v':Value):Prop where
 os:W'.os=W.os
 tape:W'.tape=W.tape
 output:W'.output=W.output
 size:W.heap.size≤W'.heap.size
 keep:∀ g,g<W.heap.size→v.ownBlock≠some g→W'.heap[g]? = W.heap[g]?
 mv:v'.ownBlock=v.ownBlock∨((∃ g,v'.ownBlock=some g∧W.heap.size≤g)∧∀ g,g<W.heap.size→W'.heap[g]? = W.heap[g]?)
theorem own_keep {W W':World} {base n k:Nat} {e:TypeId} {v:Value} {xs:List Value} (h:W.ownsRow base e k v n xs) (hk:∀ g,v.ownBlock=some g→W'.heap[g]? = W.heap[g]?):W'.ownsRow base e k v n xs:=by
 rcases h with ⟨h0,h1|⟨g,cap,cur,rfl,h2,h3,h4⟩⟩
 ·exact ⟨h0,Or.inl h1⟩
 ·exact ⟨h0,Or.inr ⟨g,cap,cur,rfl,h2,by rw[hk g rfl];exact h3,h4⟩⟩
theorem own_lt {W:World} {base n k g:Nat} {e:TypeId} {v:Value} {xs:List Value} (h:W.ownsRow base e k v n xs) (hg:v.ownBlock=some g):base≤g∧g<W.heap.size∧∃ cur,W.heap[g]? = some (.cells cur e (0,0)):=by
 rcases h with ⟨h0,⟨rfl,-⟩|⟨g',cap,cur,rfl,h2,h3,h4⟩⟩
 ·cases hg
 ·obtain rfl:g'=g:=Option.some.inj hg
  refine ⟨h2,?_,cur,h3⟩
  by_cases hg:g'<W.heap.size
  ·exact hg
  ·rw[Array.getElem?_eq_none (by omega)] at h3;cases h3
end
section
open Go.RowKit Go.Sort Go.Deep
variable {P:Nat} [NeZero P] {N:Nat}
theorem app_own {base n ga:Nat} {W:World} {v x:Value} {xs:List Value} (hown:W.ownsRow base 23 1 v n xs) (hx:x.oneCell'=true) (hcell:W.cell? ⟨ga,0,none⟩=some x) (hn:n≤1000) (hb:base≤W.heap.size) :
 ∃ v' W',(Builtin.append_ #[22,22] 22 #[v,.slice (some ⟨ga,0,none⟩) 1 1]).run Tryz.prog W=.ok v' W'∧W'.ownsRow base 23 1 v' (n+1) (xs++[x])∧Ap1 W W' v v':=by
 obtain ⟨i,hi,he⟩:=Option.map_eq_some_iff.1 infoBB
 simp only[Prod.mk.injEq] at he
 obtain ⟨h1,h2,h3⟩:=he
 obtain ⟨z,hz,hz2⟩:=Option.map_eq_some_iff.1 h3
 have hc:∀ (j:Nat) u,[x][j]? = some u→W.cell? ((⟨ga,0,none⟩:Addr).add j)=some u:=fun j u hj=>by
  rw[addP0,Nat.zero_add]
  have hj0:j=0:=by have:=(List.getElem?_eq_some_iff.1 hj).1;simp at this;omega
  subst hj0
  obtain rfl:x=u:=by simpa using hj
  exact hcell
 have h1x:∀ u∈[x],u.oneCell'=true:=fun u hu=>by
  obtain rfl:u=x:=by simpa using hu
  exact hx
 obtain ⟨v',W',r1,r2,r3,-⟩:=run_append_own (P:=Tryz.prog) W base 22 22 23 i z 1 24 undBB hi hz h1 h2 hz2 (by decide) v n xs hown ⟨ga,0,none⟩ 1 1 [x] rfl hc h1x (by unfold maxLen;omega) (by omega) hb
 have hq:=own_blockQ (c:=1) undBB hi hz h1 (by omega) hown (Src.ofSlice (P:=Tryz.prog) (size:=1) W undBB ⟨ga,0,none⟩ 1 1 [x] rfl hc h1x) (by omega) r1
 refine ⟨v',W',r1,r2,r3.os,r3.tape,r3.output,r3.size,fun g hg hv=>r3.block g hg (fun h=>hv h.symm),?_⟩
 rcases hq with h|⟨h,hbl⟩
 ·exact Or.inl h
 ·exact Or.inr ⟨⟨_,h,Nat.le_refl _⟩,fun g hg=>hbl.block g hg⟩
section
variable {Q Q':Nat→Prop} {W:World} {v:Value} {n:Nat}
theorem SmQ.mono2 {l:List (Nat × Bs)} (h:SmQ Q W v l) (hQ:∀ g,g<W.heap.size→Q g→Q' g):SmQ Q' W v l:=by
 obtain ⟨g,c,h1,h2,h3,h4,h5⟩:=h
 exact ⟨g,c,h1,h2,hQ g h4 h3,h4,h5⟩
theorem SLq.mono2 {a:Nat→Nat} (h:SLq Q W v n a) (hQ:∀ g,g<W.heap.size→Q g→Q' g):SLq Q' W v n a:=by
 obtain ⟨g,o,c,h1,h2,h3,h4,h5⟩:=h
 exact ⟨g,o,c,h1,h2,hQ g h4 h3,h4,h5⟩
theorem GLq.mono2 {T:Nat→List (Nat × Bs)} (h:GLq Q W v n T) (hQ:∀ g,g<W.heap.size→Q g→Q' g):GLq Q' W v n T:=by
 obtain ⟨g,o,c,h1,h2,h3,h4,h5⟩:=h
 refine ⟨g,o,c,h1,h2,hQ g h4 h3,h4,fun j hj=>?_⟩
 obtain ⟨x,h6,h7⟩:=h5 j hj
 exact ⟨x,h6,h7.mono2 hQ⟩
theorem GRq.mono2 {G H:Nat→List (Nat × Bs)} {U:List (Nat × Bs)} (h:GRq Q W v n G H U) (hQ:∀ g,g<W.heap.size→Q g→Q' g):GRq Q' W v n G H U:=by
 obtain ⟨vg,vh,vu,h1,h2,h3,h4⟩:=h.ex
 exact ⟨vg,vh,vu,h1,h2.mono2 hQ,h3.mono2 hQ,h4.mono2 hQ⟩
end
def ElQ (Q:Nat→Prop) (m:Nat) (W:World) (x:Value) (b:Bs):Prop:=∃ k c,x=.slice (some ⟨k,0,none⟩) m c∧m≤c∧b.size=m∧Q k∧k<W.heap.size∧Holds encB W k 0 b
section
variable {Q Q':Nat→Prop} {W W':World} {x:Value} {m:Nat} {b:Bs}
theorem ElQ.keep (h:ElQ Q m W x b) (hk:Kq Q W W'):ElQ Q m W' x b:=by
 obtain ⟨k,c,h1,h2,h3,h4,h5,h6⟩:=h
 refine ⟨k,c,h1,h2,h3,h4,Nat.lt_of_lt_of_le h5 hk.size,fun j hj=>?_⟩
 have e:=hk.block k h4 h5
 rw[World.cell?_of_block (a:=⟨k,0+j,none⟩) e,World.frozen?_of_block (a:=⟨k,0+j,none⟩) e]
 exact h6 j hj
theorem ElQ.mono2 (h:ElQ Q m W x b) (hQ:∀ g,g<W.heap.size→Q g→Q' g):ElQ Q' m W x b:=by
 obtain ⟨k,c,h1,h2,h3,h4,h5,h6⟩:=h
 exact ⟨k,c,h1,h2,h3,hQ k h5 h4,h5,h6⟩
theorem ElQ.one (h:ElQ Q m W x b):x.cells=#[x]∧x.oneCell'=true:=by
 obtain ⟨k,c,rfl,-⟩:=h
 exact ⟨rfl,rfl⟩
theorem ElQ.arg (h:ElQ Q 33 W x b):Arg33 W x b:=by
 obtain ⟨k,c,rfl,h2,h3,-,h5,h6⟩:=h
 exact ⟨_,33,c,rfl,h3,fun _=>⟨k,0,rfl,h2,h5,h6⟩⟩
end
theorem ptBytesQ_c {a:Bs} (ha:a.size=33) (w:World):Calls Tryz.prog 20 #[pvl a] w (Ret fun e w'=>Below w.heap.size w w'∧ElQ (w.heap.size≤·) 33 w' e a):=by
 have B1:=Hid.mk' (boxCP ha w)
 obtain ⟨w1,hw1⟩:∃ w1,Hid (w.alloc (.cells (bl33 a).toArray 61)=w1):=⟨_,rfl⟩
 rw[hw1.out] at B1
 have K:Hid (Row w1 w.heap.size (bl33 a)∧Below w.heap.size w w1):=by rw[← hw1.out];exact ⟨row_new w _ _,below1 w _⟩
 obtain ⟨va,hva⟩:∃ v,Hid (pvl a=v):=⟨_,rfl⟩
 have B1':Hid ((Instr.box 61 va).run Tryz.prog w=.ok (.pointer (some ⟨w.heap.size,0,none⟩)) w1):=by rw[← hva.out];exact B1
 rw[hva.out]
 have hs:=slCP w.heap.size
 clear B1 hw1
 go_enter Tryz.func20,Tryz.ntmps20
 go_wp2_with (first|(refine wpList_box (u:=va) (v:=.pointer (some ⟨w.heap.size,0,none⟩)) (w':=w1) rfl 61 (.tmp 0) rfl ?_ ?_ ?_;rfl;exact B1'.out))
 go_ret
 exact ⟨_,rfl,K.out.2,w.heap.size,33,rfl,by omega,ha,Nat.le_refl _,K.out.1.1,row_holds K.out.1⟩
structure TlL (Q:Nat→Prop) (base i:Nat) (W:World) (v:Value) (B:Nat→Bs):Prop where
 ex:∃ xs,W.ownsRow base 23 1 v i xs∧∀ j,j<i→∃ x,xs[j]? = some x∧ElQ Q 33 W x (B j)
def QH (r k:Nat) (vL vR:Value) (g:Nat):Prop:=g≠r∧(g<k∨k+4≤g)∧vL.ownBlock≠some g∧vR.ownBlock≠some g
structure Ph (w W:World) (r k iL iR n:Nat) (cL cR vL vR v va vb:Value) (Lb Rb:Nat→Bs) (L:Bs) (a b:Nat→Nat) (G H:Nat→List (Nat × Bs)) (U:List (Nat × Bs)):Prop where
 on:SP.Only r 0 32 w W
 rk:r<k
 wk:w.heap.size=k
 r0:Row W k [.pointer (some ⟨r,0,none⟩)]
 r1:∃ e:Array Value,v=.agg e∧e.size=3∧e.all (·.oneCell')=true∧Row W (k+1) e.toList
 r2:Row W (k+2) [.slice none 0 0,.slice none 0 0,.slice none 0 0,.slice none 0 0]
 r3:Row W (k+3) [cL,cR,.slice none 0 0,.slice none 0 0]
 tL:TlL (QH r k vL vR) (k+4) iL W vL Lb
 tR:TlL (QH r k vL vR) (k+4) iR W vR Rb
 ne:∀ g,vL.ownBlock=some g→vR.ownBlock≠some g
 la:SLq (QH r k vL vR) W va n a
 lb:SLq (QH r k vL vR) W vb n b
 gr:GRq (QH r k vL vR) W v n G H U
 lg:Holds encB W r 0 L
 ls:L.size=32
section
variable {w W W':World} {r k iL iR n:Nat} {cL cR vL vR v va vb:Value} {Lb Rb:Nat→Bs} {L:Bs} {a b:Nat→Nat} {G H:Nat→List (Nat × Bs)} {U:List (Nat × Bs)}
theorem TlL.lt {Q:Nat→Prop} {base i:Nat} {B:Nat→Bs} (h:TlL Q base i W v B) {g:Nat} (hg:v.ownBlock=some g):base≤g∧g<W.heap.size:=by
 obtain ⟨xs,h1,-⟩:=h.ex
 have:=own_lt h1 hg
 exact ⟨this.1,this.2.1⟩
theorem TlL.keep {Q:Nat→Prop} {base i:Nat} {B:Nat→Bs} (h:TlL Q base i W v B) (hk:Kq Q W W') (ho:∀ g,v.ownBlock=some g→W'.heap[g]? = W.heap[g]?):TlL Q base i W' v B:=by
 obtain ⟨xs,h1,h2⟩:=h.ex
 refine ⟨xs,own_keep h1 ho,fun j hj=>?_⟩
 obtain ⟨x,h3,h4⟩:=h2 j hj
 exact ⟨x,h3,h4.keep hk⟩
theorem TlL.mono2 {Q Q':Nat→Prop} {base i:Nat} {B:Nat→Bs} (h:TlL Q base i W v B) (hQ:∀ g,g<W.heap.size→Q g→Q' g):TlL Q' base i W v B:=by
 obtain ⟨xs,h1,h2⟩:=h.ex
 refine ⟨xs,h1,fun j hj=>?_⟩
 obtain ⟨x,h3,h4⟩:=h2 j hj
 exact ⟨x,h3,h4.mono2 hQ⟩
theorem Ph.qn (h:Ph w W r k iL iR n cL cR vL vR v va vb Lb Rb L a b G H U):∀ g,W.heap.size≤g→QH r k vL vR g:=fun g hg =>
 ⟨by have:=h.rk;have:=h.r0.1;omega,Or.inr (by have:=h.r3.1;omega),fun e=>by have:=h.tL.lt e;omega,fun e=>by have:=h.tR.lt e;omega⟩
theorem Ph.any (h:Ph w W r k iL iR n cL cR vL vR v va vb Lb Rb L a b G H U) (hO:SP.Only r 0 32 w W') (kq:Kq (QH r k vL vR) W W') (hk:∀ g,k≤g→g<k+4→W'.heap[g]? = W.heap[g]?) (hl:∀ g,vL.ownBlock=some g→W'.heap[g]? = W.heap[g]?) (hr:∀ g,vR.ownBlock=some g→W'.heap[g]? = W.heap[g]?) {L':Bs} (hL:Holds encB W' r 0 L') (hls:L'.size=32):Ph w W' r k iL iR n cL cR vL vR v va vb Lb Rb L' a b G H U:=by
 obtain ⟨e,e1,e2,e3,e4⟩:=h.r1
 exact ⟨hO,h.rk,h.wk,row_same h.r0 kq.size (hk k (by omega) (by omega)),⟨e,e1,e2,e3,row_same e4 kq.size (hk _ (by omega) (by omega))⟩,row_same h.r2 kq.size (hk _ (by omega) (by omega)),row_same h.r3 kq.size (hk _ (by omega) (by omega)),h.tL.keep kq hl,h.tR.keep kq hr,h.ne,h.la.keep kq,h.lb.keep kq,h.gr.keep kq,hL,hls⟩
theorem Ph.grow (h:Ph w W r k iL iR n cL cR vL vR v va vb Lb Rb L a b G H U) (hb:Below W.heap.size W W'):Ph w W' r k iL iR n cL cR vL vR v va vb Lb Rb L a b G H U:=by
 have hr:=Holds.lt h.lg (by rw[h.ls];decide)
 exact h.any (h.on.trans (SP.Only.of_below hb rfl hr)) (Kq.of_below hb) (fun g h1 h2=>hb.block g (by have:=h.r3.1;omega)) (fun g hg=>hb.block g (h.tL.lt hg).2) (fun g hg=>hb.block g (h.tR.lt hg).2) (Holds.below h.lg hb hr) h.ls
theorem Ph.drew (h:Ph w W r k iL iR n cL cR vL vR v va vb Lb Rb L a b G H U):Ph w W.drew r k iL iR n cL cR vL vR v va vb Lb Rb L a b G H U:=h.grow ⟨rfl,rfl,rfl,Nat.le_refl _,fun _ _=>rfl⟩
theorem Ph.say {L':Bs} (h:Ph w W r k iL iR n cL cR vL vR v va vb Lb Rb L a b G H U) (hO:SP.Only r 0 32 W W') (hL:Holds encB W' r 0 L') (hl:L'.size=32):Ph w W' r k iL iR n cL cR vL vR v va vb Lb Rb L' a b G H U:=by
 have hrk:=h.rk
 exact h.any (h.on.trans hO) (Kq.of_only hO fun g hg=>hg.1) (fun g h1 h2=>hO.block g (by have:=h.r3.1;omega) (by omega)) (fun g hg=>hO.block g (h.tL.lt hg).2 (by have:=(h.tL.lt hg).1;omega)) (fun g hg=>hO.block g (h.tR.lt hg).2 (by have:=(h.tR.lt hg).1;omega)) hL hl
theorem ap_only {vx v':Value} {k:Nat} (hO:SP.Only r 0 32 w W) (hA:Ap1 W W' vx v') (hk:w.heap.size=k) (hr:r<k) (hv:∀ g,vx.ownBlock=some g→k+4≤g):SP.Only r 0 32 w W':=by
 have hsz:=hO.size
 have hb:∀ j,j<k→W'.heap[j]? = W.heap[j]?:=fun j hj=>hA.keep j (by omega) fun e=>by have:=hv j e;omega
 exact ⟨hA.os.trans hO.os,hA.tape.trans hO.tape,hA.output.trans hO.output,Nat.le_trans hO.size hA.size,fun j hj hne=>(hb j (by omega)).trans (hO.block j hj hne),fun o ho=>by rw[World.cell?_of_block (a:=⟨r,o,none⟩) (hb r hr)];exact hO.cell o ho,fun o=>by rw[World.frozen?_of_block (a:=⟨r,o,none⟩) (hb r hr)];exact hO.froz o⟩
theorem holds_eq {W W':World} {r:Nat} {L:Bs} (h:Holds encB W r 0 L) (e:W'.heap[r]? = W.heap[r]?):Holds encB W' r 0 L:=fun j hj=>by
 rw[World.cell?_of_block (a:=⟨r,0+j,none⟩) e,World.frozen?_of_block (a:=⟨r,0+j,none⟩) e]
 exact h j hj
theorem TlL.app {Q Q':Nat→Prop} {base i:Nat} {B:Nat→Bs} {v' x:Value} {xs:List Value} (hxs:∀ j,j<i→∃ x,xs[j]? = some x∧ElQ Q 33 W x (B j)) (hlen:xs.length=i) (ho:W'.ownsRow base 23 1 v' (i+1) (xs++[x])) (hx:ElQ Q 33 W x (B i)) (hQ:∀ g,g<W.heap.size→Q g→Q' g) (kq:Kq Q' W W'):TlL Q' base (i+1) W' v' B:=by
 refine ⟨_,ho,fun j hj=>?_⟩
 by_cases e:j=i
 ·subst e
  exact ⟨x,by rw[List.getElem?_append_right (by omega),hlen];simp,(hx.mono2 hQ).keep kq⟩
 ·obtain ⟨y,h1,h2⟩:=hxs j (by omega)
  exact ⟨y,by rw[List.getElem?_append_left (by omega)];exact h1,(h2.mono2 hQ).keep kq⟩
theorem Ph.appL {x:Value} {ga:Nat} (h:Ph w W r k iL iR n cL cR vL vR v va vb Lb Rb L a b G H U) (hx:ElQ (QH r k vL vR) 33 W x (Lb iL)) (hc:W.cell? ⟨ga,0,none⟩=some x) (hi:iL≤900) :
 ∃ v' W',(Builtin.append_ #[22,22] 22 #[vL,.slice (some ⟨ga,0,none⟩) 1 1]).run Tryz.prog W=.ok v' W'∧Ph w W' r k (iL+1) iR n cL cR v' vR v va vb Lb Rb L a b G H U∧Ap1 W W' vL v':=by
 obtain ⟨xs,h1,h2⟩:=h.tL.ex
 obtain ⟨v',W',r1,r2,A⟩:=app_own h1 hx.one.2 hc (by omega) (by have:=h.r3.1;omega)
 have hQ:∀ g,g<W.heap.size→QH r k vL vR g→QH r k v' vR g:=fun g hg q=>⟨q.1,q.2.1,fun e=>by
  rcases A.mv with m|⟨⟨g',m,m2⟩,-⟩
  ·rw[m] at e;exact q.2.2.1 e
  ·rw[m] at e;have:=Option.some.inj e;omega,q.2.2.2⟩
 have kq:Kq (QH r k v' vR) W W':=⟨A.size,fun g q hg=>by
  rcases A.mv with m|⟨-,m⟩
  ·exact A.keep g hg (by rw[← m];exact q.2.2.1)
  ·exact m g hg⟩
 have hown:∀ g,vL.ownBlock=some g→k+4≤g:=fun g hg=>(h.tL.lt hg).1
 have hsz:=h.on.size
 have hwk:=h.wk
 have hrk:=h.rk
 have hbx:∀ g,k≤g→g<k+4→W'.heap[g]? = W.heap[g]?:=fun g g1 g2=>A.keep g (by have:=h.r3.1;omega) fun e=>by have:=hown g e;omega
 obtain ⟨e,e1,e2,e3,e4⟩:=h.r1
 refine ⟨v',W',r1,⟨ap_only h.on A h.wk h.rk hown,h.rk,h.wk,row_same h.r0 A.size (hbx k (by omega) (by omega)),⟨e,e1,e2,e3,row_same e4 A.size (hbx _ (by omega) (by omega))⟩,row_same h.r2 A.size (hbx _ (by omega) (by omega)),row_same h.r3 A.size (hbx _ (by omega) (by omega)),TlL.app h2 (by have:=h1.1;omega) r2 hx hQ kq,(h.tR.mono2 hQ).keep kq fun g hg=>A.keep g (h.tR.lt hg).2 fun e=>h.ne g e hg,fun g hg e=>?_,(h.la.mono2 hQ).keep kq,(h.lb.mono2 hQ).keep kq,(h.gr.mono2 hQ).keep kq,holds_eq h.lg (A.keep r (by omega) fun e=>by have:=hown r e;omega),h.ls⟩,A⟩
 rcases A.mv with m|⟨⟨g',m,m2⟩,-⟩
 ·rw[m] at hg;exact h.ne g hg e
 ·rw[m] at hg
  have:=Option.some.inj hg
  have:=(h.tR.lt e).2
  omega
theorem Ph.appR {x:Value} {ga:Nat} (h:Ph w W r k iL iR n cL cR vL vR v va vb Lb Rb L a b G H U) (hx:ElQ (QH r k vL vR) 33 W x (Rb iR)) (hc:W.cell? ⟨ga,0,none⟩=some x) (hi:iR≤900) :
 ∃ v' W',(Builtin.append_ #[22,22] 22 #[vR,.slice (some ⟨ga,0,none⟩) 1 1]).run Tryz.prog W=.ok v' W'∧Ph w W' r k iL (iR+1) n cL cR vL v' v va vb Lb Rb L a b G H U∧Ap1 W W' vR v':=by
 obtain ⟨xs,h1,h2⟩:=h.tR.ex
 obtain ⟨v',W',r1,r2,A⟩:=app_own h1 hx.one.2 hc (by omega) (by have:=h.r3.1;omega)
 have hQ:∀ g,g<W.heap.size→QH r k vL vR g→QH r k vL v' g:=fun g hg q=>⟨q.1,q.2.1,q.2.2.1,fun e=>by
  rcases A.mv with m|⟨⟨g',m,m2⟩,-⟩
  ·rw[m] at e;exact q.2.2.2 e
  ·rw[m] at e;have:=Option.some.inj e;omega⟩
 have kq:Kq (QH r k vL v') W W':=⟨A.size,fun g q hg=>by
  rcases A.mv with m|⟨-,m⟩
  ·exact A.keep g hg (by rw[← m];exact q.2.2.2)
  ·exact m g hg⟩
 have hown:∀ g,vR.ownBlock=some g→k+4≤g:=fun g hg=>(h.tR.lt hg).1
 have hsz:=h.on.size
 have hwk:=h.wk
 have hrk:=h.rk
 have hbx:∀ g,k≤g→g<k+4→W'.heap[g]? = W.heap[g]?:=fun g g1 g2=>A.keep g (by have:=h.r3.1;omega) fun e=>by have:=hown g e;omega
 obtain ⟨e,e1,e2,e3,e4⟩:=h.r1
 refine ⟨v',W',r1,⟨ap_only h.on A h.wk h.rk hown,h.rk,h.wk,row_same h.r0 A.size (hbx k (by omega) (by omega)),⟨e,e1,e2,e3,row_same e4 A.size (hbx _ (by omega) (by omega))⟩,row_same h.r2 A.size (hbx _ (by omega) (by omega)),row_same h.r3 A.size (hbx _ (by omega) (by omega)),(h.tL.mono2 hQ).keep kq fun g hg=>A.keep g (h.tL.lt hg).2 fun e=>h.ne g hg e,TlL.app h2 (by have:=h1.1;omega) r2 hx hQ kq,fun g hg e=>?_,(h.la.mono2 hQ).keep kq,(h.lb.mono2 hQ).keep kq,(h.gr.mono2 hQ).keep kq,holds_eq h.lg (A.keep r (by omega) fun e=>by have:=hown r e;omega),h.ls⟩,A⟩
 rcases A.mv with m|⟨⟨g',m,m2⟩,-⟩
 ·rw[m] at e;exact h.ne g hg e
 ·rw[m] at e
  have:=Option.some.inj e
  have:=(h.tL.lt hg).2
  omega
theorem row_cell {W:World} {K o:Nat} {vs:List Value} {x:Value} (h:Row W K vs) (ho:o<vs.length):Row (W.setCells K o [x]) K (vs.set o x):=by
 have ht:W.there K o 1:=fun t ht=>by
  have ht0:t=0:=by omega
  subst ht0
  have:=h.2.2 o ho
  rwa[Nat.zero_add] at this
 refine ⟨by rw[RG.setCells_size];exact h.1,fun j u hj=>?_,by rw[List.length_set];exact World.there_setCells h.2.2 _ _ _⟩
 rw[List.getElem?_set] at hj
 by_cases e:o=j
 ·subst e
  rw[if_pos rfl,if_pos ho] at hj
  obtain rfl:x=u:=by simpa using hj
  have:=World.rangeAt_setCells_same W K o [x] ht 0 x rfl
  rw[Nat.zero_add]
  exact this
 ·rw[if_neg e] at hj
  have hr:W.rangeAt K j [u]:=fun t y hy=>by
   have ht0:t=0:=by have:=(List.getElem?_eq_some_iff.1 hy).1;simp at this;omega
   subst ht0
   obtain rfl:u=y:=by simpa using hy
   have:=h.2.1 j u hj
   rw[Nat.zero_add] at this
   exact this
  have:=World.rangeAt_setCells_apart hr K o [x] (Or.inr (by simp;omega)) 0 u rfl
  rw[Nat.zero_add]
  exact this
theorem set_only {k K o:Nat} {vs:List Value} (h:SP.Only r 0 32 w W) (hk:w.heap.size=k) (hr:r<k) (hK:k≤K):SP.Only r 0 32 w (W.setCells K o vs):=only_setCells h (by omega) (by omega) _
theorem Ph.put (h:Ph w W r k iL iR n cL cR vL vR v va vb Lb Rb L a b G H U):Ph w ((W.setCells (k+3) 0 [vL]).setCells (k+3) 1 [vR]) r k iL iR n vL vR vL vR v va vb Lb Rb L a b G H U:=by
 have hrk:=h.rk
 have hne:∀ g,g≠k+3→((W.setCells (k+3) 0 [vL]).setCells (k+3) 1 [vR]).heap[g]? = W.heap[g]?:=fun g hg=>(RG.setCells_other (k+3) [vR] 1 _ g hg).trans (RG.setCells_other (k+3) [vL] 0 W g hg)
 have hsz:W.heap.size≤((W.setCells (k+3) 0 [vL]).setCells (k+3) 1 [vR]).heap.size:=by rw[RG.setCells_size,RG.setCells_size];exact Nat.le_refl _
 have kq:Kq (QH r k vL vR) W ((W.setCells (k+3) 0 [vL]).setCells (k+3) 1 [vR]):=⟨hsz,fun g q _=>hne g (by have:=q.2.1;omega)⟩
 obtain ⟨e,e1,e2,e3,e4⟩:=h.r1
 exact ⟨set_only (set_only h.on h.wk h.rk (by omega)) h.wk h.rk (by omega),h.rk,h.wk,row_same h.r0 hsz (hne _ (by omega)),⟨e,e1,e2,e3,row_same e4 hsz (hne _ (by omega))⟩,row_same h.r2 hsz (hne _ (by omega)),row_cell (row_cell h.r3 (Nat.zero_lt_succ _)) (Nat.succ_lt_succ (Nat.zero_lt_succ _)),h.tL.keep kq fun g hg=>hne g (by have:=(h.tL.lt hg).1;omega),h.tR.keep kq fun g hg=>hne g (by have:=(h.tR.lt hg).1;omega),h.ne,h.la.keep kq,h.lb.keep kq,h.gr.keep kq,holds_eq h.lg (hne r (by omega)),h.ls⟩
theorem Ph.next {m:Nat} {va' vb':Value} {e':Array Value} {a' b':Nat→Nat} {G' H':Nat→List (Nat × Bs)} (h:Ph w W r k iL iR n cL cR vL vR v va vb Lb Rb L a b G H U) (ha:SLq (QH r k vL vR) W va' m a') (hb:SLq (QH r k vL vR) W vb' m b') (hg:GRq (QH r k vL vR) W (.agg e') m G' H' U):Ph w (W.setCells (k+1) 0 e'.toList) r k iL iR m cL cR vL vR (.agg e') va' vb' Lb Rb L a' b' G' H' U:=by
 have hrk:=h.rk
 have hne:∀ g,g≠k+1→(W.setCells (k+1) 0 e'.toList).heap[g]? = W.heap[g]?:=fun g hg=>RG.setCells_other (k+1) _ 0 W g hg
 have hsz:W.heap.size≤(W.setCells (k+1) 0 e'.toList).heap.size:=by rw[RG.setCells_size];exact Nat.le_refl _
 have kq:Kq (QH r k vL vR) W (W.setCells (k+1) 0 e'.toList):=⟨hsz,fun g q _=>hne g (by have:=q.2.1;omega)⟩
 obtain ⟨e,e1,e2,e3,e4⟩:=h.r1
 obtain ⟨e'',f1,f2,f3⟩:=hg.ar
 obtain rfl:e'=e'':=by injection f1
 exact ⟨set_only h.on h.wk h.rk (by omega),h.rk,h.wk,row_same h.r0 hsz (hne _ (by omega)),⟨e',rfl,f2,f3,e4.put (by rw[Array.length_toList,Array.length_toList,f2,e2])⟩,row_same h.r2 hsz (hne _ (by omega)),row_same h.r3 hsz (hne _ (by omega)),h.tL.keep kq fun g hg=>hne g (by have:=(h.tL.lt hg).1;omega),h.tR.keep kq fun g hg=>hne g (by have:=(h.tR.lt hg).1;omega),h.ne,ha.keep kq,hb.keep kq,hg.keep kq,holds_eq h.lg (hne r (by omega)),h.ls⟩
end
end
section
open Go.RowKit Go.Sort Go.Deep SPA
variable {P:Nat} [NeZero P] {N:Nat} [NeZero N]
abbrev wP {P:Nat} [NeZero P] (X:OnP P):Bs:=wr X.1
theorem prS_val (a b:Nat→Fin N):∀ n,prS N (fun i=>(a i).val) (fun i=>(b i).val) n=(Md.pr a b n).val
 | 0=>(Nat.zero_mod N).symm
 | n+1=>by
  show sPl N (prS N _ _ n) (sTi N (b n).val (a n).val)=(Md.pr a b n+a n*b n).val
  rw[prS_val a b n,pl_val,ti_val]
  unfold sTi
  rw[Nat.mul_comm]
omit [NeZero N] in
theorem fldS_val (x y:Fin N) (n:Nat) (a:Nat→Fin N) (i:Nat):fldS N x.val y.val n (fun i=>(a i).val) i=(Md.fS x y n a i).val:=by
 show sPl N (sTi N (a i).val x.val) (sTi N (a (n+i)).val y.val)=(x*a i+y*a (n+i)).val
 rw[pl_val,ti_val,ti_val]
 unfold sTi
 rw[Nat.mul_comm (a i).val,Nat.mul_comm (a (n+i)).val]
omit [NeZero N] in
theorem gok_of {n c:Nat} {G H:Nat→List (Nat × Bs)} {U:List (Nat × Bs)} {g h:Nat→OnP P} {u:OnP P} (hn:0<n) (hc:0<c) (hcn:c*n≤64) (hG:Gd N n c G g) (hH:Gd N n c H h) (hU:Tl N U u) (h0:0<U.length) (h9:U.length≤16):GOk N n c G H U:=
 ⟨hn,hc,hcn,fun i hi=>⟨(hG.tl i hi).ok,hG.len i hi⟩,fun i hi=>⟨(hH.tl i hi).ok,hH.len i hi⟩,hU.ok,h0,h9⟩
omit [NeZero N] in
theorem Tl.point (C:Fld P) (O:Ord N) (hord:∀ r:EC.Pt P,EC.On r→EC.mul N r=none) {l:List (Nat × Bs)} {X:OnP P} (hT:Tl N l X) (h0:0<l.length) (h5:l.length≤512) {w:World} {v:Value} (h:Sm 0 w v l) :
 Calls Tryz.prog 19 #[v] w (Ret fun e w'=>Below w.heap.size w w'∧e=pvl (wr X.1)):=by
 have:=h.point C O hord h0 h5 hT.lt hT.pts
 rw[hT.sum] at this
 exact this
theorem iCP:(Tryz.prog.info? 61).map (·.size)=some 33:=by kernel_rfl
theorem side_c (C:Fld P) (O:Ord N) (hord:∀ r:EC.Pt P,EC.On r→EC.mul N r=none) {Q:Nat→Prop} {m c:Nat} {G H:Nat→List (Nat × Bs)} {U:List (Nat × Bs)} {g h:Nat→OnP P} {u:OnP P} (hm:0<m) (hc:0<c) (hcm:c*m≤64) (hG:Gd N m c G g) (hH:Gd N m c H h) (hU:Tl N U u) (h0:0<U.length) (h9:U.length≤16) (a b:Nat→Fin N) :
 ∃ l,(∀ (W:World) (v va vb:Value),GRq Q W v m G H U→SLq Q W va m (fun i=>(a i).val)→SLq Q W vb m (fun i=>(b i).val)→Calls Tryz.prog 18 #[v,va,vb] W (Ret fun e w'=>Below W.heap.size W w'∧Sm W.heap.size w' e l)) ∧
  (∀ (W:World) (v:Value),Sm 0 W v l→Calls Tryz.prog 19 #[v] W (Ret fun e w'=>Below W.heap.size W w'∧e=pvl (wr ((ptMd C hord).hd a b g h u m).1))):=by
 have hk:=gok_of hm hc hcm hG hH hU h0 h9
 obtain ⟨hT,hl⟩:=hid_tl C hord hG hH hU (d:=U.length) rfl a b
 rw[← prS_val] at hT hl
 refine ⟨_,fun W v va vb h1 h2 h3=>hideG_c O m c G H U hk _ _ (fun i _=>(a i).isLt) (fun i _=>(b i).isLt) v va vb W h1 h2 h3,fun W v hv=>hT.point C O hord (by rw[hl];omega) (by rw[hl];omega) hv⟩
end
section
open Go Go.RowKit
section
variable {P:Program} {ops:Array Oper} {Q:Exit→Act→World→Prop} {S:Array Bool→World→Prop}
theorem wanted_of {o:Oper} (hg:o.guard=none) (t:Array Value):Region.wanted o (yielded ops t)=true:=by
 unfold Region.wanted
 rw[hg]
def anyS (P:Program) (ops:Array Oper) (Q:Exit→Act→World→Prop) (S:Array Bool→World→Prop):Nat→Array Bool→Act→World→Prop
 | 0,listed,a,w=>Region.ready .any ops listed=[]∧Q .normal a w
 | fuel+1,listed,a,w=>(Region.ready .any ops listed=[]→Q .normal a w) ∧
  ∀ i∈Region.ready .any ops listed,wpOp P ops Q i (fun a' w'=>S (listed.setIfInBounds i true) w'∧anyS P ops Q S fuel (listed.setIfInBounds i true) a' w') a w
theorem anyS.any:∀ (fuel:Nat) (listed:Array Bool) (a:Act) (w:World),anyS P ops Q S fuel listed a w→wpAny P .any ops Q fuel listed a w
 | 0,_,_,_,h=>h
 | fuel+1,_,_,_,h=>⟨h.1,fun i hi=>wpOp_mono (fun a' w' h'=>anyS.any fuel _ a' w' h'.2) (h.2 i hi)⟩
def Bef (S:Array Bool→World→Prop) (p:Nat) (w:World):Prop:=∃ l:Array Bool,l.getD p false=false∧S l w
theorem anyS.first {p i:Nat} {oi op:Oper} {v:Value} (hi:ops[i]? = some oi) (hp:ops[p]? = some op) (hpi:∃ e∈op.after,Region.binds .any e=true∧e.on=i) (hne:p≠i) (hSi:∀ l w,S (Array.setIfInBounds l i true) w→S l w)
 (hsel:∀ (j:Nat) (o:Oper) cs b,ops[j]? = some o→o.op≠.select cs b) (hQ:∀ c a w,Q (.panic c) (a.put oi.dst v) w→Q (.panic c) a w) :
 ∀ (fuel:Nat) (listed:Array Bool) (a:Act) (w:World),listed.getD p false=false →
  (∀ j oj,ops[j]? = some oj→j≠i→listed.getD j true=false→(∀ e∈oj.after,Region.binds .any e=true→e.on≠i)→oi.apart ops oj=true) →
  i∈Region.ready .any ops listed→YieldsIf P ops (Bef S p) oi v a→Bef S p w→S (listed.setIfInBounds i true) w →
  anyS P ops Q S fuel (listed.setIfInBounds i true) (a.put oi.dst v) w→anyS P ops Q S (fuel+1) listed a w:=by
 intro fuel
 induction fuel with
 | zero =>
  intro listed a w _ _ hr hy hS hS2 H
  refine ⟨fun h=>absurd hr (by rw[h];exact List.not_mem_nil),fun j hj=>?_⟩
  by_cases hji:j=i
  ·subst hji;exact hy.wpOp hi hS ⟨hS2,H⟩
  ·exact absurd (ready_mono hj hji) (by rw[H.1];exact List.not_mem_nil)
 | succ fuel ih =>
  intro listed a w hl hfree hr hy hS hS2 H
  refine ⟨fun h=>absurd hr (by rw[h];exact List.not_mem_nil),fun j hj=>?_⟩
  by_cases hji:j=i
  ·subst hji;exact hy.wpOp hi hS ⟨hS2,H⟩
  ·obtain ⟨hjun,oj,hoj,hall⟩:=mem_ready.1 hj
   have hnot:∀ e∈oj.after,Region.binds .any e=true→e.on≠i:=fun e he hb heq=>by
    have h1:=hall e he hb
    have h0:=(mem_ready.1 hr).1
    rw[heq] at h1
    rcases Nat.lt_or_ge i listed.size with h'|h'
    ·simp[h'] at h0 h1;rw[h0] at h1;cases h1
    ·simp[Array.getElem?_eq_none h'] at h1
   have hjp:j≠p:=by
    intro h
    subst h
    rw[hp] at hoj
    obtain ⟨e,he,hb,hon⟩:=hpi
    injection hoj with hoj
    subst hoj
    exact hnot e he hb hon
   have h2:=wpOp_putIf hoj (hfree j oj hoj hji hjun hnot) (fun cs b=>hsel i oi cs b hi) (fun cs b=>hsel j oj cs b hoj) hQ hy (H.2 j (ready_mono hj hji))
   have hl':(listed.setIfInBounds j true).getD p false=false:=by rw[getD_set_ne false hjp];exact hl
   refine wpOp_mono (fun a' w' h3=>?_) h2
   have e2:(listed.setIfInBounds i true).setIfInBounds j true=(listed.setIfInBounds j true).setIfInBounds i true:=(Array.setIfInBounds_comm _ _ (Ne.symm hji))
   have hS3:=h3.2.1
   rw[e2] at hS3
   have hS':Bef S p w':=⟨_,by rw[getD_set_ne false hjp,getD_set_ne false (Ne.symm hne)];exact hl,h3.2.1⟩
   refine ⟨hSi _ _ hS3,ih (listed.setIfInBounds j true) a' w' hl' (fun k ok hk hki hun hno=>?_) (ready_mono hr (Ne.symm hji)) h3.1 hS' hS3 ?_⟩
   ·refine hfree k ok hk hki ?_ hno
    by_cases hjk:j=k
    ·subst hjk;exact hjun
    ·rw[getD_set_ne true hjk] at hun;exact hun
   ·rw[← e2]
    exact h3.2.2
theorem anyS.take {p i:Nat} {oi:Oper} {v:Value} {fuel:Nat} {listed:Array Bool} {a:Act} {w:World} (hi:ops[i]? = some oi) (hSi:∀ l w,S (Array.setIfInBounds l i true) w→S l w) (hy:YieldsIf P ops (Bef S p) oi v a) (hS:Bef S p w) (hS2:S (listed.setIfInBounds i true) w)
 (h:anyS P ops Q S fuel (listed.setIfInBounds i true) (a.put oi.dst v) w) (hp:waits ops p i=true:=by kernel_rfl) (hs:Region.noSelect ops=true:=by kernel_rfl)
 (hl:(listed.getD p false || p == i)=false:=by kernel_rfl) (hf:Region.free .any ops listed i=true:=by kernel_rfl) (hr:(Region.ready .any ops listed).contains i=true:=by kernel_rfl)
 (hQ:∀ c a w,Q (.panic c) (a.put oi.dst v) w→Q (.panic c) a w:=by exact fun _ _ _ h=>h):anyS P ops Q S (fuel+1) listed a w:=by
 rw[Bool.or_eq_false_iff] at hl
 unfold waits at hp
 cases ho:ops[p]? with
 | none=>rw[ho] at hp;cases hp
 | some op =>
  rw[ho] at hp
  obtain ⟨e,he,hb⟩:=Array.any_eq_true'.1 hp
  simp only[Bool.and_eq_true,beq_iff_eq] at hb
  exact anyS.first hi ho ⟨e,he,hb.1,hb.2⟩ (by simpa using hl.2) hSi (Region.noSelect_spec hs) hQ fuel listed a w hl.1 (Region.free_spec hi hf) (by simpa using hr) hy hS hS2 h
theorem anyS.step {i:Nat} {o:Oper} {fuel:Nat} {listed:Array Bool} {a:Act} {w:World} (ho:ops[i]? = some o) (hr:Region.ready .any ops listed=[i])
 (h:∀ K':Act→World→Prop,Shut (∀ a w,S (listed.setIfInBounds i true) w→anyS P ops Q S fuel (listed.setIfInBounds i true) a w→K' a w) →
  if Region.wanted o (yielded ops a.tmps)=true then Oper.wp P o a w K' Q else K' (a.put o.dst undef) w):anyS P ops Q S (fuel+1) listed a w:=by
 refine ⟨fun h0=>(by rw[hr] at h0;cases h0),fun j hj=>?_⟩
 rw[hr,List.mem_singleton] at hj
 subst hj
 exact wpOp_step ho (fun K' hK=>h K' (fun a w hS hW=>hK a w ⟨hS,hW⟩))
theorem anyS.done {listed:Array Bool} {a:Act} {w:World} (hr:Region.ready .any ops listed=[]) (h:Q .normal a w):∀ fuel,anyS P ops Q S fuel listed a w
 | 0=>⟨hr,h⟩
 | _+1=>⟨fun _=>h,by rw[hr];intro i hi;cases hi⟩
theorem anyS.begin {id:Nat} {a:Act} {w:World} (S:Array Bool→World→Prop) (hm:P.follows .mixedOrders=true) (h:anyS P ops Q S ops.size (Array.replicate ops.size false) a w.drew):(Code.region id ops true).wp P Q a w:=
 wp_region_any hm (anyS.any _ _ _ _ h)
section
variable {i p fuel:Nat} {o:Oper} {listed:Array Bool} {a:Act} {w w':World} {v:Value}
theorem anyS.ins {d:Option Tmp} {I:Sem Value} (ho:ops[i]? = some o) (hx:I.run P w=.ok v w') (hS:S (listed.setIfInBounds i true) w') (h:anyS P ops Q S fuel (listed.setIfInBounds i true) (a.put d v) w')
 (hr:Region.ready .any ops listed=[i]:=by kernel_rfl) (hg:o.guard=none:=by rfl) (he:execOp a.eval o=I >>= fun v=>pure (Next.value v):=by kernel_rfl) (hd:o.dst=d:=by kernel_rfl):anyS P ops Q S (fuel+1) listed a w:=by
 subst hd
 exact anyS.step ho hr fun K hK=>by
  rw[if_pos (wanted_of hg _)]
  unfold Oper.wp
  rw[he,Sem.run_bind,hx]
  exact hK.out _ _ hS h
theorem anyS.cal {d:Option Tmp} {f:FuncId} {args:Array Value} {R:Value→World→Prop} (ho:ops[i]? = some o) (hc:Calls P f args w (Ret R)) (h:∀ v w',R v w'→S (listed.setIfInBounds i true) w'∧anyS P ops Q S fuel (listed.setIfInBounds i true) (a.put d v) w')
 (hr:Region.ready .any ops listed=[i]:=by kernel_rfl) (hg:o.guard=none:=by rfl) (hx:(execOp a.eval o).run P w=.ok (.enter f args) w:=by kernel_rfl) (hd:o.dst=d:=by kernel_rfl):anyS P ops Q S (fuel+1) listed a w:=by
 subst hd
 exact anyS.step ho hr fun K hK=>by
  rw[if_pos (wanted_of hg _)]
  unfold Oper.wp
  rw[hx,Oper.upon_enter]
  refine hc.mono ?_
  rintro e w' ⟨v,rfl,hR⟩
  exact hK.out _ _ (h v w' hR).1 (h v w' hR).2
theorem anyS.sto {d:Option Tmp} (ho:ops[i]? = some o) (ty:TypeId) (x y:Operand) (hop:o.op=.store ty x y) (b off:Nat) (u:Value) (hv:u.cells=#[u]) (h1:u.oneCell'=true) (ht:w.there b off 1) (hi:(P.info? ty).map (·.size)=some 1)
 (hS:S (listed.setIfInBounds i true) (w.setCells b off [u])) (h:anyS P ops Q S fuel (listed.setIfInBounds i true) (a.put d undef) (w.setCells b off [u])) (hx:a.eval x=.pointer (some ⟨b,off,none⟩):=by kernel_rfl) (hy:a.eval y=u:=by kernel_rfl)
 (hr:Region.ready .any ops listed=[i]:=by kernel_rfl) (hg:o.guard=none:=by rfl) (hd:o.dst=d:=by kernel_rfl):anyS P ops Q S (fuel+1) listed a w:=by
 subst hd
 exact anyS.step ho hr fun K hK=>by
  rw[if_pos (wanted_of hg _)]
  have hr:=run_storeVar_mid (P:=P) w b off ty #[u] ht hi (by simp[h1])
  have e:storeVar ty ⟨b,off,none⟩ u=storeVar ty ⟨b,off,none⟩ (.agg #[u]):=by
   unfold storeVar
   rw[hv]
   rfl
  unfold Oper.wp execOp
  simp only[hop,hx,hy,Instr.storeAt,Instr.sureAddr,Sem.run_bind,Sem.run_pure,Result.andThen_ok,e,hr]
  exact hK.out _ _ hS h
theorem anyS.cel {d:Option Tmp} {x:Value} (ho:ops[i]? = some o) (p:Nat) (hSi:∀ l w,S (Array.setIfInBounds l i true) w→S l w) (T:TypeId) (t:Tmp) (b off:Nat) (hop:o.op=.load T (.tmp t)) (hu:(P.underlying T).map (·.isRow)=some false) (hc:∀ w,Bef S p w→w.cell? ⟨b,off,none⟩=some x) (hS:Bef S p w) (hS2:S (listed.setIfInBounds i true) w)
 (h:anyS P ops Q S fuel (listed.setIfInBounds i true) (a.put d x) w) (hx:a.eval (.tmp t)=.pointer (some ⟨b,off,none⟩):=by kernel_rfl) (hg:o.guard=none:=by rfl) (hp:waits ops p i=true:=by kernel_rfl) (hs:Region.noSelect ops=true:=by kernel_rfl)
 (hl:(listed.getD p false || p == i)=false:=by kernel_rfl) (hf:Region.free .any ops listed i=true:=by kernel_rfl) (hr:(Region.ready .any ops listed).contains i=true:=by kernel_rfl)
 (hQ:∀ c a w,Q (.panic c) (a.put o.dst x) w→Q (.panic c) a w:=by exact fun _ _ _ h=>h) (hd:o.dst=d:=by kernel_rfl):anyS P ops Q S (fuel+1) listed a w:=by
 subst hd
 exact anyS.take (p:=p) ho hSi (Or.inl ⟨wanted_of hg _,fun w hSw=>by
  unfold execOp
  rw[hop]
  dsimp only
  rw[hx,Sem.run_bind,RG.run_load1 (hc w hSw) hu]
  rfl⟩) hS hS2 h hp hs hl hf hr hQ
theorem anyS.row {d:Option Tmp} {cs:List Value} (ho:ops[i]? = some o) (p:Nat) (hSi:∀ l w,S (Array.setIfInBounds l i true) w→S l w) (T:TypeId) (t:Tmp) (b off:Nat) (dd:TypeDesc) (hop:o.op=.load T (.tmp t)) (hu:P.underlying T=some dd) (hdd:dd.isRow=true) (hi:(P.info? T).map (·.size)=some cs.length) (hc:∀ w,Bef S p w→w.rangeAt b off cs) (hS:Bef S p w) (hS2:S (listed.setIfInBounds i true) w)
 (h:anyS P ops Q S fuel (listed.setIfInBounds i true) (a.put d (.agg cs.toArray)) w) (hx:a.eval (.tmp t)=.pointer (some ⟨b,off,none⟩):=by kernel_rfl) (hg:o.guard=none:=by rfl) (hp:waits ops p i=true:=by kernel_rfl) (hs:Region.noSelect ops=true:=by kernel_rfl)
 (hl:(listed.getD p false || p == i)=false:=by kernel_rfl) (hf:Region.free .any ops listed i=true:=by kernel_rfl) (hr:(Region.ready .any ops listed).contains i=true:=by kernel_rfl)
 (hQ:∀ c a w,Q (.panic c) (a.put o.dst (.agg cs.toArray)) w→Q (.panic c) a w:=by exact fun _ _ _ h=>h) (hd:o.dst=d:=by kernel_rfl):anyS P ops Q S (fuel+1) listed a w:=by
 subst hd
 exact anyS.take (p:=p) ho hSi (yieldsIf_load_mid (wanted_of hg _) T (.tmp t) hop b off hx cs dd hc hu hdd hi) hS hS2 h hp hs hl hf hr hQ
theorem anyS.val {d:Option Tmp} {x:Value} (ho:ops[i]? = some o) (p:Nat) (hSi:∀ l w,S (Array.setIfInBounds l i true) w→S l w) (hS:Bef S p w) (hS2:S (listed.setIfInBounds i true) w) (h:anyS P ops Q S fuel (listed.setIfInBounds i true) (a.put d x) w) (hv:∀ w,(execOp a.eval o).run P w=.ok (.value x) w:=by intro _;kernel_rfl) (hg:o.guard=none:=by rfl) (hp:waits ops p i=true:=by kernel_rfl) (hs:Region.noSelect ops=true:=by kernel_rfl)
 (hl:(listed.getD p false || p == i)=false:=by kernel_rfl) (hf:Region.free .any ops listed i=true:=by kernel_rfl) (hr:(Region.ready .any ops listed).contains i=true:=by kernel_rfl)
 (hQ:∀ c a w,Q (.panic c) (a.put o.dst x) w→Q (.panic c) a w:=by exact fun _ _ _ h=>h) (hd:o.dst=d:=by kernel_rfl):anyS P ops Q S (fuel+1) listed a w:=by
 subst hd
 exact anyS.take (p:=p) ho hSi (Or.inl ⟨wanted_of hg _,fun w _=>hv w⟩) hS hS2 h hp hs hl hf hr hQ
theorem anyS.nxt {d:Option Tmp} {x:Value} (ho:ops[i]? = some o) (hS:S (listed.setIfInBounds i true) w) (h:anyS P ops Q S fuel (listed.setIfInBounds i true) (a.put d x) w) (hv:(execOp a.eval o).run P w=.ok (.value x) w:=by kernel_rfl) (hr:Region.ready .any ops listed=[i]:=by kernel_rfl) (hg:o.guard=none:=by rfl) (hd:o.dst=d:=by kernel_rfl):anyS P ops Q S (fuel+1) listed a w:=by
 subst hd
 exact anyS.step ho hr fun K hK=>by
  rw[if_pos (wanted_of hg _)]
  unfold Oper.wp
  rw[hv]
  exact hK.out _ _ hS h
end
end
end
section
open Go.RowKit Go.Sort Go.Deep SPA
variable {P:Nat} [NeZero P] {N:Nat} [NeZero N]
theorem uInn:(Tryz.prog.underlying 26).map (·.isRow)=some true:=by kernel_rfl
theorem iInn:(Tryz.prog.info? 26).map (·.size)=some 4:=by kernel_rfl
structure PhR (w:World) (r t:Nat) (Lb Rb:Nat→Bs) (L:Bs) (A B:Bs) (e:Value) (w':World):Prop where
 on:SP.Only r 0 32 w w'
 ex:∃ vL vR vA vB,e=.agg #[vL,vR,vA,vB]∧TlL (fun _=>True) w.heap.size t w' vL Lb∧TlL (fun _=>True) w.heap.size t w' vR Rb∧ElQ (w.heap.size≤·) 32 w' vA A∧ElQ (w.heap.size≤·) 32 w' vB B
 lg:Holds encB w' r 0 L
theorem uLL:(Tryz.prog.underlying 22).map (·.isRow)=some false:=by kernel_rfl
theorem iLL:(Tryz.prog.info? 22).map (·.size)=some 1:=by kernel_rfl
theorem bslB (k:Nat) (n c:Nat) (w:World):(Instr.buildSlice 22 1 #[(0,.slice (some ⟨k,0,none⟩) n c)]).run Tryz.prog w=.ok (.slice (some ⟨w.heap.size,0,none⟩) 1 1) (w.alloc (.cells #[.slice (some ⟨k,0,none⟩) n c] 23)):=by kernel_rfl
theorem bslQ {Q:Nat→Prop} {W:World} {x:Value} {b:Bs} (h:ElQ Q 33 W x b) (w:World):(Instr.buildSlice 22 1 #[(0,x)]).run Tryz.prog w=.ok (.slice (some ⟨w.heap.size,0,none⟩) 1 1) (w.alloc (.cells #[x] 23)):=by
 obtain ⟨k,c,rfl,-⟩:=h
 exact bslB k 33 c w
theorem TlL.one {Q:Nat→Prop} {base i:Nat} {W:World} {v:Value} {B:Nat→Bs} (h:TlL Q base i W v B):v.cells=#[v]∧v.oneCell'=true:=by
 obtain ⟨xs,⟨-,⟨rfl,-⟩|⟨g,cap,cur,rfl,-⟩⟩,-⟩:=h.ex<;>exact ⟨rfl,rfl⟩
theorem Ph.put' {w W W':World} {r k iL iR n:Nat} {cL cR vL vR v va vb:Value} {Lb Rb:Nat→Bs} {L:Bs} {a b:Nat→Nat} {G H:Nat→List (Nat × Bs)} {U:List (Nat × Bs)} (h:Ph w W r k iL iR n cL cR vL vR v va vb Lb Rb L a b G H U) (e:W'=(W.setCells (k+3) 0 [vL]).setCells (k+3) 1 [vR]):Ph w W' r k iL iR n vL vR vL vR v va vb Lb Rb L a b G H U:=e ▸ h.put
theorem anyS.fin {P:Program} {ops:Array Oper} {Q:Exit→Act→World→Prop} {S:Array Bool→World→Prop} {listed:Array Bool} {a:Act} {w:World} (hr:Region.ready .any ops listed=[]) (h:∀ W,W=w→Q .normal a W) (fuel:Nat):anyS P ops Q S fuel listed a w:=anyS.done hr (h w rfl) fuel
theorem chHalf (O:Ord N) (hP:NT.IsP N) (r:Nat) (L:Bs) (A B:OnP P) (X Y:Bs) (hX:X=wP A) (hY:Y=wP B):∃ (s:Bs) (c:Fin N),Hid (chF N L A B=(s,c)∧s.size=32)∧Hid (∀ W:World,Holds encB W r 0 L→L.size=32→Calls Tryz.prog 53 #[lgV r,.string ⟨#[108,101,102,116]⟩,pvl X,.string ⟨#[114,105,103,104,116]⟩,pvl Y] W (Ret fun e w'=>SP.Only r 0 32 W w'∧Holds encB w' r 0 s∧e=nv c.val)):=by
 subst hX hY
 have e:chF N L A B=(wentF (saidF [108,101,102,116] [114,105,103,104,116] L (wP A) (wP B)),askF N (saidF [108,101,102,116] [114,105,103,104,116] L (wP A) (wP B))):=by unfold chF;dsimp only
 have sA:=wr_size A.1
 have sB:=wr_size B.1
 refine ⟨_,_,⟨e,SP.askedL_size _ _⟩,fun W h1 h2=>?_⟩
 have hc:=chAfter_c O r L (wP A) (wP B) ⟨#[108,101,102,116]⟩ ⟨#[114,105,103,104,116]⟩ (by decide) (by decide) sA sB W h1 h2
 have e2:saidF (⟨#[108,101,102,116]⟩:ByteArray).data.toList (⟨#[114,105,103,104,116]⟩:ByteArray).data.toList L (wP A) (wP B)=saidF [108,101,102,116] [114,105,103,104,116] L (wP A) (wP B):=rfl
 rw[e2] at hc
 have hlt:∀ M,cha N M<N:=fun M=>redu_lt O _
 generalize saidF [108,101,102,116] [114,105,103,104,116] L (wP A) (wP B)=M at hc
 rw[chS_ask hP.1 M (hlt M)] at hc
 exact hc
theorem own_base {W:World} {base base' n k:Nat} {e:TypeId} {v:Value} {xs:List Value} (h:W.ownsRow base e k v n xs) (hb:base'≤base):W.ownsRow base' e k v n xs:=by
 rcases h with ⟨h0,h1|⟨g,cap,cur,rfl,h2,h3⟩⟩
 ·exact ⟨h0,Or.inl h1⟩
 ·exact ⟨h0,Or.inr ⟨g,cap,cur,rfl,Nat.le_trans hb h2,h3⟩⟩
theorem Ph.fin {w W:World} {r k t n:Nat} {vL vR v va vb vA vB:Value} {Lb Rb:Nat→Bs} {L A B:Bs} {a b:Nat→Nat} {G H:Nat→List (Nat × Bs)} {U:List (Nat × Bs)} (h:Ph w W r k t t n vL vR vL vR v va vb Lb Rb L a b G H U) (hA:ElQ (k+4≤·) 32 W vA A) (hB:ElQ (k+4≤·) 32 W vB B) :
 Row ((W.setCells (k+3) 2 [vA]).setCells (k+3) 3 [vB]) (k+3) [vL,vR,vA,vB]∧Row ((W.setCells (k+3) 2 [vA]).setCells (k+3) 3 [vB]) (k+2) [.slice none 0 0,.slice none 0 0,.slice none 0 0,.slice none 0 0]∧Row (((W.setCells (k+3) 2 [vA]).setCells (k+3) 3 [vB]).setCells (k+2) 0 [vL,vR,vA,vB]) (k+2) [vL,vR,vA,vB]∧PhR w r t Lb Rb L A B (.agg #[vL,vR,vA,vB]) (((W.setCells (k+3) 2 [vA]).setCells (k+3) 3 [vB]).setCells (k+2) 0 [vL,vR,vA,vB]):=by
 have hrk:=h.rk
 have hwk:=h.wk
 have r1:Row ((W.setCells (k+3) 2 [vA]).setCells (k+3) 3 [vB]) (k+3) [vL,vR,vA,vB]:=row_cell (row_cell h.r3 (Nat.lt_of_sub_eq_succ rfl)) (Nat.lt_of_sub_eq_succ rfl)
 have r2:Row ((W.setCells (k+3) 2 [vA]).setCells (k+3) 3 [vB]) (k+2) [.slice none 0 0,.slice none 0 0,.slice none 0 0,.slice none 0 0]:=row_set (row_set h.r2 (by omega)) (by omega)
 have hne:∀ g,g≠k+3→g≠k+2→(((W.setCells (k+3) 2 [vA]).setCells (k+3) 3 [vB]).setCells (k+2) 0 [vL,vR,vA,vB]).heap[g]? = W.heap[g]?:=fun g h3 h2=>(RG.setCells_other (k+2) _ 0 _ g h2).trans ((RG.setCells_other (k+3) _ 3 _ g h3).trans (RG.setCells_other (k+3) _ 2 W g h3))
 have hsz:W.heap.size≤(((W.setCells (k+3) 2 [vA]).setCells (k+3) 3 [vB]).setCells (k+2) 0 [vL,vR,vA,vB]).heap.size:=by rw[RG.setCells_size,RG.setCells_size,RG.setCells_size];exact Nat.le_refl _
 have kq:Kq (QH r k vL vR) W (((W.setCells (k+3) 2 [vA]).setCells (k+3) 3 [vB]).setCells (k+2) 0 [vL,vR,vA,vB]):=⟨hsz,fun g q _=>hne g (by have:=q.2.1;omega) (by have:=q.2.1;omega)⟩
 have kq4:Kq (k+4≤·) W (((W.setCells (k+3) 2 [vA]).setCells (k+3) 3 [vB]).setCells (k+2) 0 [vL,vR,vA,vB]):=⟨hsz,fun g q _=>hne g (by omega) (by omega)⟩
 have tl:∀ {vx:Value} {B:Nat→Bs},TlL (QH r k vL vR) (k+4) t W vx B→TlL (fun _=>True) w.heap.size t (((W.setCells (k+3) 2 [vA]).setCells (k+3) 3 [vB]).setCells (k+2) 0 [vL,vR,vA,vB]) vx B:=fun hx=>by
  have h1:=(hx.keep kq fun g hg=>hne g (by have:=(hx.lt hg).1;omega) (by have:=(hx.lt hg).1;omega)).mono2 (Q':=fun _=>True) fun _ _ _=>trivial
  obtain ⟨xs,h2,h3⟩:=h1.ex
  exact ⟨xs,own_base h2 (by omega),h3⟩
 refine ⟨r1,r2,r2.put rfl,set_only (set_only (set_only h.on h.wk h.rk (by omega)) h.wk h.rk (by omega)) h.wk h.rk (by omega),⟨_,_,_,_,rfl,tl h.tL,tl h.tR,(hA.keep kq4).mono2 fun g _ hg=>by omega,(hB.keep kq4).mono2 fun g _ hg=>by omega⟩,holds_eq h.lg (hne r (by omega) (by omega))⟩
omit [NeZero N] in
theorem scBytesQ_c (O:Ord N) {a:Nat} (ha:a<N) (w:World):Calls Tryz.prog 50 #[nv a] w (Ret fun e w'=>Below w.heap.size w w'∧ElQ (w.heap.size≤·) 32 w' e (bx a)):=by
 refine (sbytes_c O ha w).mono ?_
 rintro e w' ⟨v,rfl,k,hM,rfl⟩
 exact ⟨_,rfl,hM.bel,k,32,rfl,Nat.le_refl _,bx_size a,hM.le,hM.lt,cb_holds hM.range hM.there⟩
theorem iB1:(Tryz.prog.info? 23).map (·.size)=some 1:=by kernel_rfl
theorem nfB {b:Bool} (h:b=true):¬ b=false:=fun e=>by rw[h] at e;cases e
theorem quo2 (m:Nat):((m+m:Nat):Int).tdiv 2=(m:Int):=by rw[Int.tdiv_eq_ediv_of_nonneg (by omega)];omega
theorem provH_c (C:Fld P) (O:Ord N) (hord:∀ r:EC.Pt P,EC.On r→EC.mul N r=none) (hP:NT.IsP N) (t:Nat) (ht:t≤6) (q:Md.Ps Bs (Fin N) (OnP P)) (u:OnP P) (G0 H0:Nat→List (Nat × Bs)) (U:List (Nat × Bs)) (hG0:Gd N (2^t) 1 G0 q.g) (hH0:Gd N (2^t) 1 H0 q.h) (hU:Tl N U u) (hU0:0<U.length) (hU9:U.length≤16)
 (Lb Rb:Nat→Bs) (hLb:∀ j,Lb j=wP ((ptMd C hord).pLi (chF N) ivF u t q j)) (hRb:∀ j,Rb j=wP ((ptMd C hord).pTi (chF N) ivF u t q j)) (r:Nat) (v0 va0 vb0:Value) (w:World) (hL:Holds encB w r 0 q.s) (hls:q.s.size=32) (hv:GRq (·≠r) w v0 (2^t) G0 H0 U) (ha:SLq (·≠r) w va0 (2^t) (fun i=>(q.a i).val)) (hb:SLq (·≠r) w vb0 (2^t) (fun i=>(q.b i).val)) :
 Calls Tryz.prog 21 #[lgV r,v0,va0,vb0] w (Ret (PhR w r t Lb Rb ((ptMd C hord).pst (chF N) ivF u t q t).s (bx (((ptMd C hord).pst (chF N) ivF u t q t).a 0).val) (bx (((ptMd C hord).pst (chF N) ivF u t q t).b 0).val))):=by
 have hr:=Holds.lt hL (by rw[hls];decide)
 obtain ⟨k,hk⟩:∃ k,Hid (w.heap.size=k):=⟨_,rfl⟩
 obtain ⟨e0,he0,hes,hea⟩:=hv.ar
 subst he0
 obtain ⟨w1,hw1⟩:∃ w1,Hid (w.alloc (.cells #[.pointer (some ⟨r,0,none⟩)] 70)=w1):=⟨_,rfl⟩
 obtain ⟨w2,hw2⟩:∃ w2,Hid (w1.alloc (.cells e0 58)=w2):=⟨_,rfl⟩
 obtain ⟨w3,hw3⟩:∃ w3,Hid (w2.alloc (.cells #[.slice none 0 0,.slice none 0 0,.slice none 0 0,.slice none 0 0] 26)=w3):=⟨_,rfl⟩
 obtain ⟨w4,hw4⟩:∃ w4,Hid (w3.alloc (.cells #[.slice none 0 0,.slice none 0 0,.slice none 0 0,.slice none 0 0] 26)=w4):=⟨_,rfl⟩
 have z1:w1.heap.size=k+1:=by rw[← hw1.out,World.size_alloc,hk.out]
 have z2:w2.heap.size=k+2:=by rw[← hw2.out,World.size_alloc,z1]
 have z3:w3.heap.size=k+3:=by rw[← hw3.out,World.size_alloc,z2]
 have hrk:r<k:=by rw[← hk.out];exact hr
 have K4:Hid (∃ G H,Gd N (2^(t-0)) (2^0) G ((ptMd C hord).pst (chF N) ivF u t q 0).g∧Gd N (2^(t-0)) (2^0) H ((ptMd C hord).pst (chF N) ivF u t q 0).h∧Ph w w4 r k 0 0 (2^(t-0)) (.slice none 0 0) (.slice none 0 0) (.slice none 0 0) (.slice none 0 0) (.agg e0) va0 vb0 Lb Rb ((ptMd C hord).pst (chF N) ivF u t q 0).s (fun i=>(((ptMd C hord).pst (chF N) ivF u t q 0).a i).val) (fun i=>(((ptMd C hord).pst (chF N) ivF u t q 0).b i).val) G H U):=by
  have b1:Below w.heap.size w w1:=by rw[← hw1.out];exact below1 _ _
  have b2:Below w1.heap.size w1 w2:=by rw[← hw2.out];exact below1 _ _
  have b3:Below w2.heap.size w2 w3:=by rw[← hw3.out];exact below1 _ _
  have b4:Below w3.heap.size w3 w4:=by rw[← hw4.out];exact below1 _ _
  have r1:Row w1 k [.pointer (some ⟨r,0,none⟩)]:=by rw[← hw1.out,← hk.out];exact row_new w _ _
  have r2:Row w2 (k+1) e0.toList:=by rw[← hw2.out,← z1];exact row_new w1 e0.toList 58
  have r3:Row w3 (k+2) [.slice none 0 0,.slice none 0 0,.slice none 0 0,.slice none 0 0]:=by rw[← hw3.out,← z2];exact row_new w2 _ _
  have r4:Row w4 (k+3) [.slice none 0 0,.slice none 0 0,.slice none 0 0,.slice none 0 0]:=by rw[← hw4.out,← z3];exact row_new w3 _ _
  have bb:Below w.heap.size w w4:=((b1.trans (b2.mono b1.size)).trans (b3.mono (Nat.le_trans b1.size b2.size))).trans (b4.mono (Nat.le_trans b1.size (Nat.le_trans b2.size b3.size)))
  have qq:∀ g,g<w.heap.size→g≠r→QH r k (.slice none 0 0) (.slice none 0 0) g:=fun g hg hgr=>⟨hgr,Or.inl (by rw[← hk.out];exact hg),(fun e=>by cases e),(fun e=>by cases e)⟩
  have nilT:∀ (B:Nat→Bs) (Q:Nat→Prop),TlL Q (k+4) 0 w4 (.slice none 0 0) B:=fun B Q=>⟨[],⟨rfl,Or.inl ⟨rfl,rfl⟩⟩,fun j hj=>absurd hj (Nat.not_lt_zero _)⟩
  have kq:∀ {Q:Nat→Prop},Kq Q w w4:=Kq.of_below bb
  exact ⟨G0,H0,hG0,hH0,SP.Only.of_below bb rfl hr,hrk,hk.out,((r1.below b2).below b3).below b4,⟨e0,rfl,hes,hea,(r2.below b3).below b4⟩,r3.below b4,r4,nilT _ _,nilT _ _,(fun g e=>by cases e),(ha.mono2 qq).keep kq,(hb.mono2 qq).keep kq,(hv.mono2 qq).keep kq,Holds.below hL bb hr,hls⟩
 obtain ⟨vl,hvl⟩:∃ v,Hid (lgV r=v):=⟨_,rfl⟩
 obtain ⟨vG,hvG⟩:∃ v,Hid (Value.agg e0=v):=⟨_,rfl⟩
 have B1:Hid ((Instr.box 70 vl).run Tryz.prog w=.ok (.pointer (some ⟨k,0,none⟩)) w1):=by rw[← hvl.out,← hw1.out,← hk.out];exact boxL r w
 have B2:Hid ((Instr.box 58 vG).run Tryz.prog w1=.ok (.pointer (some ⟨k+1,0,none⟩)) w2):=by
  obtain ⟨a1,a2,a3,ea⟩:∃ a b c,e0=#[a,b,c]:=by
   obtain ⟨x1,x2,x3,e,-⟩:=hv.ex
   injection e with e
   exact ⟨x1,x2,x3,e⟩
  rw[← hvG.out,← hw2.out,← z1,ea]
  exact boxG a1 a2 a3 w1
 have HZ:Hid (w2.heap.size=k+2∧w3.heap.size=k+3∧w.heap.size=k):=⟨z2,z3,hk.out⟩
 have HLR:Hid ((∀ j,Lb j=wP ((ptMd C hord).pLi (chF N) ivF u t q j))∧∀ j,Rb j=wP ((ptMd C hord).pTi (chF N) ivF u t q j)):=⟨hLb,hRb⟩
 clear hLb hRb
 have HF:Hid (Fld P∧Ord N∧NT.IsP N∧Tl N U u∧0<U.length∧U.length≤16∧t≤6):=⟨C,O,hP,hU,hU0,hU9,ht⟩
 obtain ⟨d,hd1,hd2⟩:=Option.map_eq_some_iff.1 uGr
 have HD:Hid (Tryz.prog.underlying 58=some d∧d.isRow=true):=⟨hd1,hd2⟩
 rw[hvG.out] at K4
 rw[hvl.out,hvG.out]
 clear hd1 hd2 z1 z2 z3 hw1 hw2 hk hL hls hv ha hb hG0 hH0 hU hU0 hU9 hes hea hr O hP hvG
 go_enter Tryz.func21,Tryz.ntmps21
 go_wp2_with (first|(refine wpList_box (u:=vl) (v:=.pointer (some ⟨k,0,none⟩)) (w':=w1) rfl 70 (.tmp 0) rfl ?_ ?_ ?_;rfl;exact B1.out)|(refine wpList_box (u:=vG) (v:=.pointer (some ⟨k+1,0,none⟩)) (w':=w2) rfl 58 (.tmp 1) rfl ?_ ?_ ?_;rfl;exact B2.out)|(refine wpList_al (v:=.pointer (some ⟨k+2,0,none⟩)) (w':=w3) rfl 26 8 rfl rfl ?_ ?_;(rw[← hw3.out,← HZ.out.1];kernel_rfl))|(refine wpList_al (v:=.pointer (some ⟨k+3,0,none⟩)) (w':=w4) rfl 26 9 rfl rfl ?_ ?_;(rw[← hw4.out,← HZ.out.2.1];kernel_rfl))|fail)
 clear B1 B2 hw3 hw4
 simp only[Act.put,List.setIfInBounds_toArray,List.set_cons_succ,List.set_cons_zero]
 go_loopg [2,3] t (fun m s2 s3 W=>∃ i:Nat,i+m=t∧Hid (∃ vL vR v G H,Gd N (2^(t-i)) (2^i) G ((ptMd C hord).pst (chF N) ivF u t q i).g∧Gd N (2^(t-i)) (2^i) H ((ptMd C hord).pst (chF N) ivF u t q i).h∧Ph w W r k i i (2^(t-i)) vL vR vL vR v s2 s3 Lb Rb ((ptMd C hord).pst (chF N) ivF u t q i).s (fun j=>(((ptMd C hord).pst (chF N) ivF u t q i).a j).val) (fun j=>(((ptMd C hord).pst (chF N) ivF u t q i).b j).val) G H U))
 case atStart=>exact ⟨0,by omega,_,_,_,K4.out⟩
 case round =>
  clear K4
  obtain ⟨i,hik,KM⟩:=hrel
  by_cases hi:i<t
  ·obtain ⟨vL,vR,v,G,H,hG,hH,hPh⟩:=KM.out
   clear KM
   have HI:=Hid.mk' hi
   obtain ⟨m,hm⟩:∃ m,m=2^(t-(i+1)):=⟨_,rfl⟩
   have hn2:2^(t-i)=m+m:=by rw[hm,show t-i=t-(i+1)+1 by omega,Nat.pow_succ];omega
   have hm0:0<m:=by rw[hm];exact Nat.pow_pos (by decide)
   obtain ⟨c,hc⟩:∃ c,c=2^i:=⟨_,rfl⟩
   have hc0:0<c:=by rw[hc];exact Nat.pow_pos (by decide)
   have hcm:c*(m+m)≤64:=by
    rw[← hn2,hc,← Nat.pow_add,show i+(t-i)=t by omega]
    exact Nat.le_trans (Nat.pow_le_pow_right (by decide) HF.out.2.2.2.2.2.2) (by decide)
   have hcm2:c*m≤64:=by have:=Nat.mul_le_mul_left c (show m≤m+m by omega);omega
   have hm64:m≤64:=by have:=Nat.mul_le_mul_right m hc0;omega
   have eS:(ptMd C hord).pst (chF N) ivF u t q (i+1)=(ptMd C hord).pstep (chF N) ivF u m ((ptMd C hord).pst (chF N) ivF u t q i):=by rw[hm];rfl
   have eL:(ptMd C hord).pLi (chF N) ivF u t q i=(ptMd C hord).pL u m ((ptMd C hord).pst (chF N) ivF u t q i):=by rw[hm];rfl
   have eT:(ptMd C hord).pTi (chF N) ivF u t q i=(ptMd C hord).pT u m ((ptMd C hord).pst (chF N) ivF u t q i):=by rw[hm];rfl
   have HE:Hid (2^(t-(i+1))=m∧2^(i+1)=c+c):=⟨hm.symm,by rw[Nat.pow_succ,hc];omega⟩
   rw[hn2,← hc] at hG hH
   rw[hn2] at hPh
   clear hm hn2 hc
   generalize (ptMd C hord).pst (chF N) ivF u t q i=qi at hG hH hPh eS eL eT
   have HS:Hid ((ptMd C hord).pst (chF N) ivF u t q (i+1)=(ptMd C hord).pstep (chF N) ivF u m qi∧(ptMd C hord).pLi (chF N) ivF u t q i=(ptMd C hord).pL u m qi∧(ptMd C hord).pTi (chF N) ivF u t q i=(ptMd C hord).pT u m qi):=⟨eS,eL,eT⟩
   clear eS eL eT
   obtain ⟨ga,oa,ca,rfl,hca,-⟩:=id hPh.la
   obtain ⟨gb,ob,cb',rfl,hcb,-⟩:=id hPh.lb
   have sG:=Hid.mk' (And.intro hG (And.intro hH (And.intro hm0 (And.intro hc0 (And.intro hcm (And.intro hm64 hcm2))))))
   obtain ⟨l1,cH1,cP1⟩:=side_c (Q:=QH r k vL vR) C HF.out.2.1 hord hm0 hc0 hcm2 hG.high hH.low HF.out.2.2.2.1 HF.out.2.2.2.2.1 HF.out.2.2.2.2.2.1 qi.a (fun j=>qi.b (m+j))
   obtain ⟨l2,cH2,cP2⟩:=side_c (Q:=QH r k vL vR) C HF.out.2.1 hord hm0 hc0 hcm2 hG.low hH.high HF.out.2.2.2.1 HF.out.2.2.2.2.1 HF.out.2.2.2.2.2.1 (fun j=>qi.a (m+j)) qi.b
   obtain ⟨X,hX⟩:∃ X,X=wP ((ptMd C hord).pL u m qi):=⟨_,rfl⟩
   obtain ⟨Y,hY⟩:∃ Y,Y=wP ((ptMd C hord).pT u m qi):=⟨_,rfl⟩
   have sX:X.size=33:=by rw[hX];exact wr_size _
   have sY:Y.size=33:=by rw[hY];exact wr_size _
   have cP1':∀ (W:World) (v:Value),Sm 0 W v l1→Calls Tryz.prog 19 #[v] W (Ret fun e w'=>Below W.heap.size W w'∧e=pvl X):=by rw[hX];exact cP1
   have cP2':∀ (W:World) (v:Value),Sm 0 W v l2→Calls Tryz.prog 19 #[v] W (Ret fun e w'=>Below W.heap.size W w'∧e=pvl Y):=by rw[hY];exact cP2
   clear cP1 cP2
   obtain ⟨PH,hPH⟩:∃ PH:World→Prop,Hid (∀ W,PH W↔Ph w W r k i i (m+m) vL vR vL vR v (.slice (some ⟨ga,oa,none⟩) (m+m) ca) (.slice (some ⟨gb,ob,none⟩) (m+m) cb') Lb Rb qi.s (fun j=>(qi.a j).val) (fun j=>(qi.b j).val) G H U):=⟨_,fun _=>Iff.rfl⟩
   have hPg:Hid (∀ W W':World,Below W.heap.size W W'→PH W→PH W'):=fun W W' hb h=>(hPH.out W').2 (((hPH.out W).1 h).grow hb)
   have K0:Hid (PH wr):=(hPH.out wr).2 hPh
   have cCr:Hid (∀ W,PH W→Calls Tryz.prog 52 #[v] W (Ret (CrR (QH r k vL vR) W m G H U))):=fun W h=>crossed_c m hm0 (by omega) G H U v W ((hPH.out W).1 h).gr
   have cS:Hid ((∀ W (x:Value),PH W→GRq (QH r k vL vR) W x m (fun i=>G (m+i)) H U→Calls Tryz.prog 18 #[x,.slice (some ⟨ga,oa,none⟩) m ca,.slice (some ⟨gb,ob+m*4,none⟩) m (cb'-m)] W (Ret fun e w'=>Below W.heap.size W w'∧Sm W.heap.size w' e l1))∧(∀ W (x:Value),PH W→GRq (QH r k vL vR) W x m G (fun i=>H (m+i)) U→Calls Tryz.prog 18 #[x,.slice (some ⟨ga,oa+m*4,none⟩) m (ca-m),.slice (some ⟨gb,ob,none⟩) m cb'] W (Ret fun e w'=>Below W.heap.size W w'∧Sm W.heap.size w' e l2))):=
    ⟨fun W x h hx=>cH1 W x _ _ hx ((hPH.out W).1 h).la.low ((hPH.out W).1 h).lb.high,fun W x h hx=>cH2 W x _ _ hx ((hPH.out W).1 h).la.high ((hPH.out W).1 h).lb.low⟩
   have cP:Hid ((∀ (W:World) (v:Value),Sm 0 W v l1→Calls Tryz.prog 19 #[v] W (Ret fun e w'=>Below W.heap.size W w'∧e=pvl X))∧(∀ (W:World) (v:Value),Sm 0 W v l2→Calls Tryz.prog 19 #[v] W (Ret fun e w'=>Below W.heap.size W w'∧e=pvl Y))):=⟨cP1',cP2'⟩
   have hsl1:=slS_hi ga oa (m+m) ca m (by omega)
   have hsl2:=slS_lo gb ob (m+m) cb' m (by omega) hcb
   have hsl3:=slS_lo ga oa (m+m) ca m (by omega) hca
   have hsl4:=slS_hi gb ob (m+m) cb' m (by omega)
   rw[Nat.add_sub_cancel] at hsl2 hsl3
   have HXY:Hid (X.size=33∧Y.size=33∧X=wP ((ptMd C hord).pL u m qi)∧Y=wP ((ptMd C hord).pT u m qi)):=⟨sX,sY,hX,hY⟩
   obtain ⟨sx,cx,hsc,cCh⟩:∃ (s:Bs) (c:Fin N),Hid (chF N qi.s ((ptMd C hord).pL u m qi) ((ptMd C hord).pT u m qi)=(s,c)∧s.size=32)∧Hid (∀ W:World,Holds encB W r 0 qi.s→qi.s.size=32→Calls Tryz.prog 53 #[lgV r,.string ⟨#[108,101,102,116]⟩,pvl X,.string ⟨#[114,105,103,104,116]⟩,pvl Y] W (Ret fun e w'=>SP.Only r 0 32 W w'∧Holds encB w' r 0 s∧e=nv c.val)):=chHalf HF.out.2.1 HF.out.2.2.1 r qi.s _ _ X Y hX hY
   obtain ⟨e1,he1,hes1,hea1,hrw1⟩:=hPh.r1
   have HV:Hid (v=.agg e1∧e1.size=3∧e1.all (·.oneCell')=true):=⟨he1,hes1,hea1⟩
   have R1:Hid (wr.rangeAt (k+1) 0 e1.toList∧(Tryz.prog.info? 58).map (·.size)=some e1.toList.length):=⟨hrw1.2.1,by rw[Array.length_toList,hes1];exact iGr⟩
   obtain ⟨n,hn⟩:∃ n,Hid (m+m=n):=⟨_,rfl⟩
   have hq:(n:Int).tdiv 2=(m:Int):=by rw[← hn.out];exact quo2 m
   have hgt:(1:Int)<(n:Int):=by rw[← hn.out];omega
   rw[hn.out] at hsl1 hsl2 hsl3 hsl4
   rw[hn.out]
   clear hPh cH1 cH2 cP1' cP2' sX sY hX hY he1 hes1 hea1 hrw1 hG hH hcm hcm2 hca hcb hc0 hi
   go_wp2_with (first|(refine wpList_load_mid rfl 58 (.tmp 5) rfl (k+1) 0 ?_ e1.toList d ?_ ?_ ?_ ?_ ?_;rfl;exact R1.out.1;exact HD.out.1;exact HD.out.2;exact R1.out.2;rw[show Value.agg e1.toList.toArray=v from HV.out.1.symm])|fail)
   clear hq hgt
   refine (cCr.out wr K0.out).mono ?_
   rintro e W1 ⟨uu,rfl,hb1,f1,f2,rfl,hf1,hf2,ha1,ha2,hg1,hg2⟩
   have K1:Hid (PH W1):=hPg.out wr W1 hb1 K0.out
   obtain ⟨b1,hb1e⟩:∃ b,Hid (W1.heap.size=b):=⟨_,rfl⟩
   obtain ⟨W2,hW2⟩:∃ W,Hid (W1.alloc (.cells #[.slice none 0 0,.slice none 0 0,.slice none 0 0] 58)=W):=⟨_,rfl⟩
   obtain ⟨W3,hW3⟩:∃ W,Hid (W2.alloc (.cells #[.slice none 0 0,.slice none 0 0,.slice none 0 0] 58)=W):=⟨_,rfl⟩
   obtain ⟨W4,hW4⟩:∃ W,Hid (W3.setCells b1 0 f1.toList=W):=⟨_,rfl⟩
   obtain ⟨W5,hW5⟩:∃ W,Hid (W4.setCells (b1+1) 0 f2.toList=W):=⟨_,rfl⟩
   have zz:W2.heap.size=b1+1:=by rw[← hW2.out,World.size_alloc,hb1e.out]
   have hlf1:f1.toList.length=3:=by rw[Array.length_toList];exact hf1
   have hlf2:f2.toList.length=3:=by rw[Array.length_toList];exact hf2
   have F3:Below W1.heap.size W1 W3∧Row W3 b1 [.slice none 0 0,.slice none 0 0,.slice none 0 0]∧Row W3 (b1+1) [.slice none 0 0,.slice none 0 0,.slice none 0 0]:=by
    have bA:Below W1.heap.size W1 W2:=by rw[← hW2.out];exact below1 _ _
    have bB:Below W2.heap.size W2 W3:=by rw[← hW3.out];exact below1 _ _
    have rA:Row W2 b1 [.slice none 0 0,.slice none 0 0,.slice none 0 0]:=by rw[← hW2.out,← hb1e.out];exact row_new W1 _ _
    have rB:Row W3 (b1+1) [.slice none 0 0,.slice none 0 0,.slice none 0 0]:=by rw[← hW3.out,← zz];exact row_new W2 _ _
    exact ⟨bA.trans (bB.mono bA.size),rA.below bB,rB⟩
   have F4:Below W1.heap.size W1 W4∧Row W4 b1 f1.toList∧Row W4 (b1+1) [.slice none 0 0,.slice none 0 0,.slice none 0 0]:=by
    rw[← hW4.out]
    exact ⟨RG.below_setCells (by rw[hb1e.out];exact Nat.le_refl _) _ _ _ F3.1,F3.2.1.put (by rw[hlf1];rfl),row_set F3.2.2 (by omega)⟩
   have F5:Below W1.heap.size W1 W5∧Row W5 b1 f1.toList∧Row W5 (b1+1) f2.toList:=by
    rw[← hW5.out]
    exact ⟨RG.below_setCells (by rw[hb1e.out];omega) _ _ _ F4.1,row_set F4.2.1 (by omega),F4.2.2.put (by rw[hlf2];rfl)⟩
   have K5:Hid (PH W5∧Row W5 b1 f1.toList∧Row W5 (b1+1) f2.toList∧GRq (QH r k vL vR) W5 (.agg f1.toList.toArray) m (fun i=>G (m+i)) H U∧GRq (QH r k vL vR) W5 (.agg f2.toList.toArray) m G (fun i=>H (m+i)) U):=⟨hPg.out W1 W5 F5.1 K1.out,F5.2.1,F5.2.2,hg1.keep (Kq.of_below F5.1),hg2.keep (Kq.of_below F5.1)⟩
   have HT:Hid ((W2.heap.size=b1+1∧W3.there b1 0 f1.size∧W4.there (b1+1) 0 f2.size)∧f1.all (·.oneCell')=true∧f2.all (·.oneCell')=true∧(Tryz.prog.info? 58).map (·.size)=some f1.size∧(Tryz.prog.info? 58).map (·.size)=some f2.size∧(Tryz.prog.info? 58).map (·.size)=some f1.toList.length∧(Tryz.prog.info? 58).map (·.size)=some f2.toList.length):=⟨⟨zz,by rw[hf1];exact F3.2.1.2.2,by rw[hf2];exact F4.2.2.2.2⟩,ha1,ha2,by rw[hf1];exact iGr,by rw[hf2];exact iGr,by rw[hlf1];exact iGr,by rw[hlf2];exact iGr⟩
   obtain ⟨y1,hy1⟩:∃ y,Hid (Value.agg f1=y):=⟨_,rfl⟩
   obtain ⟨y2,hy2⟩:∃ y,Hid (Value.agg f2=y):=⟨_,rfl⟩
   rw[hy1.out,hy2.out]
   clear hb1 hf1 hf2 ha1 ha2 hg1 hg2 zz hlf1 hlf2 F3 F4 F5 K1 K0 R1
   go_wp2_with (first|(refine wpList_al (v:=.pointer (some ⟨b1,0,none⟩)) (w':=W2) rfl 58 11 rfl rfl ?_ ?_;(rw[← hW2.out,← hb1e.out];kernel_rfl))|(refine wpList_al (v:=.pointer (some ⟨b1+1,0,none⟩)) (w':=W3) rfl 58 12 rfl rfl ?_ ?_;(rw[← hW3.out,← HT.out.1.1];kernel_rfl))|(refine wpList_store_mid rfl 58 (.tmp 11) _ rfl b1 0 f1 ?_ ?_ ?_ ?_ ?_ ?_;rfl;exact hy1.out.symm;exact HT.out.1.2.1;exact HT.out.2.2.2.1;exact HT.out.2.1;rw[hW4.out])|(refine wpList_store_mid rfl 58 (.tmp 12) _ rfl (b1+1) 0 f2 ?_ ?_ ?_ ?_ ?_ ?_;rfl;exact hy2.out.symm;exact HT.out.1.2.2;exact HT.out.2.2.2.2.1;exact HT.out.2.2.1;rw[hW5.out])|fail)
   clear hW2 hW3 hW4 hW5 hb1e
   simp only[Act.put,List.setIfInBounds_toArray,List.set_cons_succ,List.set_cons_zero]
   refine (RG.gwL [RG.pE (.agg f1.toList.toArray),RG.pE (.slice (some ⟨ga,oa,none⟩) n ca),RG.pE (.int .i64 m),RG.pE (.slice (some ⟨ga,oa,none⟩) m ca),RG.pE (.slice (some ⟨gb,ob,none⟩) n cb'),RG.pE (.int .i64 m),RG.pE (.slice (some ⟨gb,ob+m*4,none⟩) m (cb'-m)),RG.pM (fun _=>True) l1,RG.pE (pvl X),RG.pN W5.heap.size z33] (fun W=>Below W5.heap.size W5 W) (fun W W' hb h=>h.trans (hb.mono h.size))).tail2 10 (by kernel_rfl) (by kernel_rfl) (by kernel_rfl) ⟨
    RG.gw_lo 58 11 b1 0 f1.toList uGr HT.out.2.2.2.2.2.1 rfl (fun W hB=>RG.range_below K5.out.2.1.2.1 hB K5.out.2.1.1) (fun _=>rfl),
    RG.gw_o 2 (.slice (some ⟨ga,oa,none⟩) n ca) (.slice (some ⟨ga,oa,none⟩) n ca) rfl (fun _=>rfl),
    RG.gw_o 10 (.int .i64 m) (.int .i64 m) rfl (fun _=>rfl),
    RG.gw_x 1 29 2 30 (.slice (some ⟨ga,oa,none⟩) n ca) (.int .i64 m) (.slice (some ⟨ga,oa,none⟩) m ca) (Instr.sliceAt 46 (.slice (some ⟨ga,oa,none⟩) n ca) none (some (.int .i64 m)) none) hsl1 (fun x W h=>h) (fun x W h=>h) (fun _=>rfl),
    RG.gw_o 3 (.slice (some ⟨gb,ob,none⟩) n cb') (.slice (some ⟨gb,ob,none⟩) n cb') rfl (fun _=>rfl),
    RG.gw_o 10 (.int .i64 m) (.int .i64 m) rfl (fun _=>rfl),
    RG.gw_x 4 32 5 33 (.slice (some ⟨gb,ob,none⟩) n cb') (.int .i64 m) (.slice (some ⟨gb,ob+m*4,none⟩) m (cb'-m)) (Instr.sliceAt 46 (.slice (some ⟨gb,ob,none⟩) n cb') (some (.int .i64 m)) none none) hsl2 (fun x W h=>h) (fun x W h=>h) (fun _=>rfl),
    RG.gw_c3 0 28 3 31 6 34 18 (fun x y z=>#[x,y,z]) (fun x y z W hx hy hz hB=>by
     obtain rfl:x=.agg f1.toList.toArray:=hx
     obtain rfl:y=(.slice (some ⟨ga,oa,none⟩) m ca):=hy
     obtain rfl:z=(.slice (some ⟨gb,ob+m*4,none⟩) m (cb'-m)):=hz
     refine (cS.out.1 W _ (hPg.out W5 W hB K5.out.1) (K5.out.2.2.2.1.keep (Kq.of_below hB))).mono ?_
     rintro e W' ⟨uu,rfl,hb,hs⟩
     exact ⟨_,rfl,hb,hs.q.mono fun _ _=>trivial⟩),
    RG.gw_c1 7 35 19 (fun x=>#[x]) (fun x W hx hB=>by
     have hx:SmQ (fun _=>True) W x l1:=hx
     refine (cP.out.1 W x hx.sm).mono ?_
     rintro e W' ⟨uu,rfl,hb,rfl⟩
     exact ⟨_,rfl,hb,rfl⟩),
    RG.gw_a z33 61 (fun W W' hR hB=>⟨_,rfl,hB.size,hR⟩),trivial⟩ (Below.refl _ _).drew ?_
   intro V W7a hR hB
   have hV8:V 8=pvl X:=hR 8 (by decide)
   obtain ⟨k13,hV9,hbk,hbr⟩:∃ k,V 9=.pointer (some ⟨k,0,none⟩)∧W5.heap.size≤k∧Row W7a k z33:=hR 9 (by decide)
   obtain ⟨W7,hW7⟩:∃ W,Hid (W7a.setCells k13 0 (bl33 X)=W):=⟨_,rfl⟩
   have hlx:(bl33 X).length=33:=bl33_length HXY.out.1
   have bW7:Below W5.heap.size W5 W7:=by rw[← hW7.out];exact RG.below_setCells hbk _ _ _ hB
   have rW7:Row W7 k13 (bl33 X):=by rw[← hW7.out];exact hbr.put (by rw[hlx];rfl)
   have HTW7:Hid (W7a.there k13 0 (bl33 X).toArray.size∧(Tryz.prog.info? 61).map (·.size)=some (bl33 X).toArray.size):=by
    rw[List.size_toArray,hlx]
    exact ⟨hbr.2.2,iCP⟩
   dsimp only[RG.putV,Nat.reduceAdd,List.take,List.drop]
   simp only[Act.put,List.setIfInBounds_toArray,List.set_cons_succ,List.set_cons_zero]
   obtain ⟨xW7,hxW7⟩:∃ x,Hid (pvl X=x):=⟨_,rfl⟩
   rw[hV8,hV9,hxW7.out]
   have HN3a:Hid (k+3<k13):=Nat.lt_of_lt_of_le ((hPH.out W5).1 K5.out.1).r3.1 hbk
   have HN13:Hid (∀ g,vL.ownBlock=some g∨vR.ownBlock=some g→g<k13):=fun g hg=>by
    have h:=(hPH.out W5).1 K5.out.1
    rcases hg with hg|hg
    ·exact Nat.lt_of_lt_of_le (h.tL.lt hg).2 hbk
    ·exact Nat.lt_of_lt_of_le (h.tR.lt hg).2 hbk
   have K7:Hid (PH W7∧Row W7 (b1+1) f2.toList∧GRq (QH r k vL vR) W7 (.agg f2.toList.toArray) m G (fun i=>H (m+i)) U∧Row W7 k13 (bl33 X)):=⟨hPg.out W5 W7 bW7 K5.out.1,K5.out.2.2.1.below bW7,K5.out.2.2.2.2.keep (Kq.of_below bW7),rW7⟩
   clear hR hB hV8 hV9 hbk hbr hlx bW7 rW7 K5 hsl1 hsl2
   generalize V 0=s0
   generalize V 1=s1
   generalize V 2=s2
   generalize V 3=s3
   generalize V 4=s4
   generalize V 5=s5
   generalize V 6=s6
   generalize V 7=s7
   go_wp2_with (first|(refine wpList_store_mid rfl 61 (.tmp 13) _ rfl k13 0 (bl33 X).toArray ?_ ?_ ?_ ?_ ?_ ?_;rfl;exact hxW7.out.symm;exact HTW7.out.1;exact HTW7.out.2;exact bl33_one X;rw[show (bl33 X).toArray.toList=bl33 X from rfl,hW7.out])|fail)
   clear hW7 HTW7
   simp only[Act.put,List.setIfInBounds_toArray,List.set_cons_succ,List.set_cons_zero]
   refine (RG.gwL [RG.pE (.agg f2.toList.toArray),RG.pE (.slice (some ⟨ga,oa,none⟩) n ca),RG.pE (.int .i64 m),RG.pE (.slice (some ⟨ga,oa+m*4,none⟩) m (ca-m)),RG.pE (.slice (some ⟨gb,ob,none⟩) n cb'),RG.pE (.int .i64 m),RG.pE (.slice (some ⟨gb,ob,none⟩) m cb'),RG.pM (fun _=>True) l2,RG.pE (pvl Y),RG.pN W7.heap.size z33] (fun W=>Below W7.heap.size W7 W) (fun W W' hb h=>h.trans (hb.mono h.size))).tail2 10 (by kernel_rfl) (by kernel_rfl) (by kernel_rfl) ⟨
    RG.gw_lo 58 12 (b1+1) 0 f2.toList uGr HT.out.2.2.2.2.2.2 rfl (fun W hB=>RG.range_below K7.out.2.1.2.1 hB K7.out.2.1.1) (fun _=>rfl),
    RG.gw_o 2 (.slice (some ⟨ga,oa,none⟩) n ca) (.slice (some ⟨ga,oa,none⟩) n ca) rfl (fun _=>rfl),
    RG.gw_o 10 (.int .i64 m) (.int .i64 m) rfl (fun _=>rfl),
    RG.gw_x 1 38 2 39 (.slice (some ⟨ga,oa,none⟩) n ca) (.int .i64 m) (.slice (some ⟨ga,oa+m*4,none⟩) m (ca-m)) (Instr.sliceAt 46 (.slice (some ⟨ga,oa,none⟩) n ca) (some (.int .i64 m)) none none) hsl3 (fun x W h=>h) (fun x W h=>h) (fun _=>rfl),
    RG.gw_o 3 (.slice (some ⟨gb,ob,none⟩) n cb') (.slice (some ⟨gb,ob,none⟩) n cb') rfl (fun _=>rfl),
    RG.gw_o 10 (.int .i64 m) (.int .i64 m) rfl (fun _=>rfl),
    RG.gw_x 4 41 5 42 (.slice (some ⟨gb,ob,none⟩) n cb') (.int .i64 m) (.slice (some ⟨gb,ob,none⟩) m cb') (Instr.sliceAt 46 (.slice (some ⟨gb,ob,none⟩) n cb') none (some (.int .i64 m)) none) hsl4 (fun x W h=>h) (fun x W h=>h) (fun _=>rfl),
    RG.gw_c3 0 37 3 40 6 43 18 (fun x y z=>#[x,y,z]) (fun x y z W hx hy hz hB=>by
     obtain rfl:x=.agg f2.toList.toArray:=hx
     obtain rfl:y=(.slice (some ⟨ga,oa+m*4,none⟩) m (ca-m)):=hy
     obtain rfl:z=(.slice (some ⟨gb,ob,none⟩) m cb'):=hz
     refine (cS.out.2 W _ (hPg.out W7 W hB K7.out.1) (K7.out.2.2.1.keep (Kq.of_below hB))).mono ?_
     rintro e W' ⟨uu,rfl,hb,hs⟩
     exact ⟨_,rfl,hb,hs.q.mono fun _ _=>trivial⟩),
    RG.gw_c1 7 44 19 (fun x=>#[x]) (fun x W hx hB=>by
     have hx:SmQ (fun _=>True) W x l2:=hx
     refine (cP.out.2 W x hx.sm).mono ?_
     rintro e W' ⟨uu,rfl,hb,rfl⟩
     exact ⟨_,rfl,hb,rfl⟩),
    RG.gw_a z33 61 (fun W W' hR hB=>⟨_,rfl,hB.size,hR⟩),trivial⟩ (Below.refl _ _).drew ?_
   intro V W9a hR hB
   have hV8:V 8=pvl Y:=hR 8 (by decide)
   obtain ⟨k14,hV9,hbk,hbr⟩:∃ k,V 9=.pointer (some ⟨k,0,none⟩)∧W7.heap.size≤k∧Row W9a k z33:=hR 9 (by decide)
   obtain ⟨W9,hW9⟩:∃ W,Hid (W9a.setCells k14 0 (bl33 Y)=W):=⟨_,rfl⟩
   have hlx:(bl33 Y).length=33:=bl33_length HXY.out.2.1
   have bW9:Below W7.heap.size W7 W9:=by rw[← hW9.out];exact RG.below_setCells hbk _ _ _ hB
   have rW9:Row W9 k14 (bl33 Y):=by rw[← hW9.out];exact hbr.put (by rw[hlx];rfl)
   have HTW9:Hid (W9a.there k14 0 (bl33 Y).toArray.size∧(Tryz.prog.info? 61).map (·.size)=some (bl33 Y).toArray.size):=by
    rw[List.size_toArray,hlx]
    exact ⟨hbr.2.2,iCP⟩
   dsimp only[RG.putV,Nat.reduceAdd,List.take,List.drop]
   simp only[Act.put,List.setIfInBounds_toArray,List.set_cons_succ,List.set_cons_zero]
   obtain ⟨xW9,hxW9⟩:∃ x,Hid (pvl Y=x):=⟨_,rfl⟩
   rw[hV8,hV9,hxW9.out]
   have K9:Hid (PH W9∧Row W9 k13 (bl33 X)∧Row W9 k14 (bl33 Y)∧W9.heap.size≤W9.heap.size):=⟨hPg.out W7 W9 bW9 K7.out.1,K7.out.2.2.2.below bW9,rW9,Nat.le_refl _⟩
   have HN3:Hid (k+3<k13∧k+3<k14):=⟨HN3a.out,Nat.lt_of_lt_of_le ((hPH.out W7).1 K7.out.1).r3.1 hbk⟩
   have HN14:Hid (∀ g,vL.ownBlock=some g∨vR.ownBlock=some g→g<k14):=fun g hg=>by
    have h:=(hPH.out W7).1 K7.out.1
    rcases hg with hg|hg
    ·exact Nat.lt_of_lt_of_le (h.tL.lt hg).2 hbk
    ·exact Nat.lt_of_lt_of_le (h.tR.lt hg).2 hbk
   clear hR hB hV8 hV9 hbk hbr hlx bW9 rW9 K7 hsl3 hsl4 HT cS cP
   generalize V 0=z0
   generalize V 1=z1
   generalize V 2=z2
   generalize V 3=z3
   generalize V 4=z4
   generalize V 5=z5
   generalize V 6=z6
   generalize V 7=z7
   go_wp2_with (first|(refine wpList_store_mid rfl 61 (.tmp 14) _ rfl k14 0 (bl33 Y).toArray ?_ ?_ ?_ ?_ ?_ ?_;rfl;exact hxW9.out.symm;exact HTW9.out.1;exact HTW9.out.2;exact bl33_one Y;rw[show (bl33 Y).toArray.toList=bl33 Y from rfl,hW9.out])|fail)
   clear hW9 HTW9
   simp only[Act.put,List.setIfInBounds_toArray,List.set_cons_succ,List.set_cons_zero]
   obtain ⟨dP,hdP1,hdP2⟩:=Option.map_eq_some_iff.1 uCP
   have i33X:(Tryz.prog.info? 61).map (·.size)=some (bl33 X).length:=by rw[bl33_length HXY.out.1];exact iCP
   have i33Y:(Tryz.prog.info? 61).map (·.size)=some (bl33 Y).length:=by rw[bl33_length HXY.out.2.1];exact iCP
   have hSg:∀ W W':World,Below W.heap.size W W'→k+3<W.heap.size→k13<W.heap.size→k14<W.heap.size→(W.cell? ⟨k+3,0,none⟩=some vL∧W.cell? ⟨k+3,1,none⟩=some vR∧W.rangeAt k13 0 (bl33 X)∧W.rangeAt k14 0 (bl33 Y))→(W'.cell? ⟨k+3,0,none⟩=some vL∧W'.cell? ⟨k+3,1,none⟩=some vR∧W'.rangeAt k13 0 (bl33 X)∧W'.rangeAt k14 0 (bl33 Y)):=fun W W' hb h3 h13 h14 h=>⟨by rw[hb.cell (p:=⟨k+3,0,none⟩) h3];exact h.1,by rw[hb.cell (p:=⟨k+3,1,none⟩) h3];exact h.2.1,RG.range_below h.2.2.1 hb h13,RG.range_below h.2.2.2 hb h14⟩
   have hSk:∀ W W':World,W'.heap[k+3]? = W.heap[k+3]?→W'.heap[k13]? = W.heap[k13]?→W'.heap[k14]? = W.heap[k14]?→(W.cell? ⟨k+3,0,none⟩=some vL∧W.cell? ⟨k+3,1,none⟩=some vR∧W.rangeAt k13 0 (bl33 X)∧W.rangeAt k14 0 (bl33 Y))→(W'.cell? ⟨k+3,0,none⟩=some vL∧W'.cell? ⟨k+3,1,none⟩=some vR∧W'.rangeAt k13 0 (bl33 X)∧W'.rangeAt k14 0 (bl33 Y)):=fun W W' e3 e13 e14 h=>⟨by rw[World.cell?_of_block (a:=⟨k+3,0,none⟩) e3];exact h.1,by rw[World.cell?_of_block (a:=⟨k+3,1,none⟩) e3];exact h.2.1,fun j u hj=>by rw[World.cell?_of_block (a:=⟨k13,0+j,none⟩) e13];exact h.2.2.1 j u hj,fun j u hj=>by rw[World.cell?_of_block (a:=⟨k14,0+j,none⟩) e14];exact h.2.2.2 j u hj⟩
   have P9:=(hPH.out W9).1 K9.out.1
   have hk3:=P9.r3.1
   have S9:W9.drew.cell? ⟨k+3,0,none⟩=some vL∧W9.drew.cell? ⟨k+3,1,none⟩=some vR∧W9.drew.rangeAt k13 0 (bl33 X)∧W9.drew.rangeAt k14 0 (bl33 Y):=⟨P9.r3.2.1 0 _ rfl,P9.r3.2.1 1 _ rfl,K9.out.2.1.2.1,K9.out.2.2.1.2.1⟩
   have z9:k+3<W9.drew.heap.size∧k13<W9.drew.heap.size∧k14<W9.drew.heap.size:=⟨P9.r3.1,K9.out.2.1.1,K9.out.2.2.1.1⟩
   have P9:=P9.drew
   have eLb:Lb i=X:=by rw[HLR.out.1 i,HS.out.2.1];exact HXY.out.2.2.1.symm
   have eRb:Rb i=Y:=by rw[HLR.out.2 i,HS.out.2.2];exact HXY.out.2.2.2.symm
   have hSi:∀ (i:Nat),i≠13→i≠15→∀ (l:Array Bool) (W:World),(((l.setIfInBounds i true).getD 13 false=false→W.cell? ⟨k+3,0,none⟩=some vL)∧((l.setIfInBounds i true).getD 15 false=false→W.cell? ⟨k+3,1,none⟩=some vR)∧W.rangeAt k13 0 (bl33 X)∧W.rangeAt k14 0 (bl33 Y))→((l.getD 13 false=false→W.cell? ⟨k+3,0,none⟩=some vL)∧(l.getD 15 false=false→W.cell? ⟨k+3,1,none⟩=some vR)∧W.rangeAt k13 0 (bl33 X)∧W.rangeAt k14 0 (bl33 Y)):=fun i h1 h2 l W h=>⟨fun e=>h.1 (by rw[getD_set_ne false h1];exact e),fun e=>h.2.1 (by rw[getD_set_ne false h2];exact e),h.2.2⟩
   have mS:∀ (l:Array Bool) (W:World),(W.cell? ⟨k+3,0,none⟩=some vL∧W.cell? ⟨k+3,1,none⟩=some vR∧W.rangeAt k13 0 (bl33 X)∧W.rangeAt k14 0 (bl33 Y))→((l.getD 13 false=false→W.cell? ⟨k+3,0,none⟩=some vL)∧(l.getD 15 false=false→W.cell? ⟨k+3,1,none⟩=some vR)∧W.rangeAt k13 0 (bl33 X)∧W.rangeAt k14 0 (bl33 Y)):=fun l W h=>⟨fun _=>h.1,fun _=>h.2.1,h.2.2⟩
   refine anyS.begin (fun l W=>(l.getD 13 false=false→W.cell? ⟨k+3,0,none⟩=some vL)∧(l.getD 15 false=false→W.cell? ⟨k+3,1,none⟩=some vR)∧W.rangeAt k13 0 (bl33 X)∧W.rangeAt k14 0 (bl33 Y)) (by kernel_rfl) ?_
   have bS:∀ (p:Nat),Bef (fun l W=>(Array.getD l 13 false=false→World.cell? W ⟨k+3,0,none⟩=some vL)∧(Array.getD l 15 false=false→World.cell? W ⟨k+3,1,none⟩=some vR)∧World.rangeAt W k13 0 (bl33 X)∧World.rangeAt W k14 0 (bl33 Y)) p W9.drew:=fun p=>⟨#[],by simp,mS _ _ S9⟩
   refine anyS.val (i:=0) (d:=some 46) (x:=.pointer (some ⟨k+3,0,none⟩)) rfl 13 (hSi 0 (by decide) (by decide)) (bS 13) (mS _ _ S9) ?_
   simp only[Act.put,List.setIfInBounds_toArray,List.set_cons_succ,List.set_cons_zero]
   refine anyS.cel (i:=1) (d:=some 47) (x:=vL) rfl 13 (hSi 1 (by decide) (by decide)) 22 46 (k+3) 0 rfl uLL (fun W ⟨l,e,h⟩=>h.1 e) (bS 13) (mS _ _ S9) ?_
   simp only[Act.put,List.setIfInBounds_toArray,List.set_cons_succ,List.set_cons_zero]
   refine anyS.row (i:=2) (d:=some 48) (cs:=bl33 X) rfl 13 (hSi 2 (by decide) (by decide)) 61 13 k13 0 dP rfl hdP1 hdP2 i33X (fun W ⟨l,e,h⟩=>h.2.2.1) (bS 13) (mS _ _ S9) ?_
   simp only[Act.put,List.setIfInBounds_toArray,List.set_cons_succ,List.set_cons_zero]
   refine anyS.val (i:=6) (d:=some 52) (x:=.pointer (some ⟨k+3,1,none⟩)) rfl 13 (hSi 6 (by decide) (by decide)) (bS 13) (mS _ _ S9) ?_
   simp only[Act.put,List.setIfInBounds_toArray,List.set_cons_succ,List.set_cons_zero]
   refine anyS.cel (i:=7) (d:=some 53) (x:=vR) rfl 15 (hSi 7 (by decide) (by decide)) 22 52 (k+3) 1 rfl uLL (fun W ⟨l,e,h⟩=>h.2.1 e) (bS 15) (mS _ _ S9) ?_
   simp only[Act.put,List.setIfInBounds_toArray,List.set_cons_succ,List.set_cons_zero]
   refine anyS.row (i:=8) (d:=some 54) (cs:=bl33 Y) rfl 14 (hSi 8 (by decide) (by decide)) 61 14 k14 0 dP rfl hdP1 hdP2 i33Y (fun W ⟨l,e,h⟩=>h.2.2.2) (bS 14) (mS _ _ S9) ?_
   simp only[Act.put,List.setIfInBounds_toArray,List.set_cons_succ,List.set_cons_zero]
   clear bS
   refine anyS.cal (i:=3) (d:=some 49) rfl (ptBytesQ_c HXY.out.1 W9.drew) (fun xa Wa hRa=>?_)
   have Pa:=P9.grow hRa.1
   have Sa:=hSg _ _ hRa.1 z9.1 z9.2.1 z9.2.2 S9
   have za:k+3<Wa.heap.size∧k13<Wa.heap.size∧k14<Wa.heap.size:=by have:=hRa.1.size;omega
   have Ea:ElQ (QH r k vL vR) 33 Wa xa X:=hRa.2.mono2 fun g _ hg=>P9.qn g hg
   refine ⟨mS _ _ Sa,?_⟩
   clear hRa
   simp only[Act.put,List.setIfInBounds_toArray,List.set_cons_succ,List.set_cons_zero]
   have bb:=below1 Wa (.cells #[xa] 23)
   have hbs:=bslQ Ea Wa
   have Pb:=Pa.grow bb
   have Sb:=hSg _ _ bb za.1 za.2.1 za.2.2 Sa
   have zb:k+3<(Wa.alloc (.cells #[xa] 23)).heap.size∧k13<(Wa.alloc (.cells #[xa] 23)).heap.size∧k14<(Wa.alloc (.cells #[xa] 23)).heap.size:=by have:=bb.size;omega
   have cb1:(Wa.alloc (.cells #[xa] 23)).cell? ⟨Wa.heap.size,0,none⟩=some xa:=(row_new Wa [xa] 23).2.1 0 _ rfl
   refine anyS.ins (i:=4) (d:=some 50) (v:=.slice (some ⟨Wa.heap.size,0,none⟩) 1 1) (w':=Wa.alloc (.cells #[xa] 23)) (I:=Instr.buildSlice 22 1 #[(0,xa)]) rfl hbs (mS _ _ Sb) ?_
   simp only[Act.put,List.setIfInBounds_toArray,List.set_cons_succ,List.set_cons_zero]
   obtain ⟨vL',Wc,apL,Pc,A1⟩:=Pb.appL (ga:=Wa.heap.size) (x:=xa) (by rw[eLb];exact Ea.keep (Kq.of_below bb)) cb1 (by omega)
   have Sc:=hSk _ _ (A1.keep (k+3) zb.1 fun e=>by have:=(Pb.tL.lt e).1;omega) (A1.keep k13 zb.2.1 fun e=>by have:=HN13.out _ (Or.inl e);omega) (A1.keep k14 zb.2.2 fun e=>by have:=HN14.out _ (Or.inl e);omega) Sb
   have zc:k+3<Wc.heap.size∧k13<Wc.heap.size∧k14<Wc.heap.size:=by have:=A1.size;omega
   refine anyS.ins (i:=5) (d:=some 51) (v:=vL') (w':=Wc) (I:=Builtin.append_ #[22,22] 22 #[vL,.slice (some ⟨Wa.heap.size,0,none⟩) 1 1]) rfl apL (mS _ _ Sc) ?_
   simp only[Act.put,List.setIfInBounds_toArray,List.set_cons_succ,List.set_cons_zero]
   clear apL cb1 hbs Ea Sa Sb Pa Pb A1 za zb bb
   refine anyS.val (i:=12) (d:=some 58) (x:=.pointer (some ⟨k+3,0,none⟩)) rfl 13 (hSi 12 (by decide) (by decide)) ⟨#[],by simp,mS _ _ Sc⟩ (mS _ _ Sc) ?_
   simp only[Act.put,List.setIfInBounds_toArray,List.set_cons_succ,List.set_cons_zero]
   refine anyS.cal (i:=9) (d:=some 55) rfl (ptBytesQ_c HXY.out.2.1 Wc) (fun xd Wd hRd=>?_)
   have Pd:=Pc.grow hRd.1
   have Sd:=hSg _ _ hRd.1 zc.1 zc.2.1 zc.2.2 Sc
   have zd:k+3<Wd.heap.size∧k13<Wd.heap.size∧k14<Wd.heap.size:=by have:=hRd.1.size;omega
   have Ed:ElQ (QH r k vL' vR) 33 Wd xd Y:=hRd.2.mono2 fun g _ hg=>Pc.qn g hg
   refine ⟨mS _ _ Sd,?_⟩
   clear hRd
   simp only[Act.put,List.setIfInBounds_toArray,List.set_cons_succ,List.set_cons_zero]
   have bd:=below1 Wd (.cells #[xd] 23)
   have hbs2:=bslQ Ed Wd
   have Pe:=Pd.grow bd
   have Se:=hSg _ _ bd zd.1 zd.2.1 zd.2.2 Sd
   have ze:k+3<(Wd.alloc (.cells #[xd] 23)).heap.size∧k13<(Wd.alloc (.cells #[xd] 23)).heap.size∧k14<(Wd.alloc (.cells #[xd] 23)).heap.size:=by have:=bd.size;omega
   have ce1:(Wd.alloc (.cells #[xd] 23)).cell? ⟨Wd.heap.size,0,none⟩=some xd:=(row_new Wd [xd] 23).2.1 0 _ rfl
   refine anyS.ins (i:=10) (d:=some 56) (v:=.slice (some ⟨Wd.heap.size,0,none⟩) 1 1) (w':=Wd.alloc (.cells #[xd] 23)) (I:=Instr.buildSlice 22 1 #[(0,xd)]) rfl hbs2 (mS _ _ Se) ?_
   simp only[Act.put,List.setIfInBounds_toArray,List.set_cons_succ,List.set_cons_zero]
   have hR2:ElQ (QH r k vL' vR) 33 (Wd.alloc (.cells #[xd] 23)) xd (Rb i):=by rw[eRb];exact Ed.keep (Kq.of_below bd)
   have hi9:i≤900:=by omega
   have hApp:=Pe.appR (ga:=Wd.heap.size) (x:=xd) hR2 ce1 hi9
   clear hR2 hi9
   obtain ⟨vR',Wf,apR,Pf,A2⟩:=hApp
   have Sf:=hSk _ _ (A2.keep (k+3) ze.1 fun e=>by have:=(Pe.tR.lt e).1;omega) (A2.keep k13 ze.2.1 fun e=>by have:=HN13.out _ (Or.inr e);omega) (A2.keep k14 ze.2.2 fun e=>by have:=HN14.out _ (Or.inr e);omega) Se
   have zf:k13<Wf.heap.size∧k14<Wf.heap.size:=by have:=A2.size;omega
   refine anyS.ins (i:=11) (d:=some 57) (v:=vR') (w':=Wf) (I:=Builtin.append_ #[22,22] 22 #[vR,.slice (some ⟨Wd.heap.size,0,none⟩) 1 1]) rfl apR (mS _ _ Sf) ?_
   simp only[Act.put,List.setIfInBounds_toArray,List.set_cons_succ,List.set_cons_zero]
   clear apR ce1 hbs2 Ed Sd Se Pd Pe A2 zd ze bd Pc zc Sc
   have oneL:=Pf.tL.one
   have oneR:=Pf.tR.one
   have th0:Wf.there (k+3) 0 1:=fun j hj=>Pf.r3.2.2 j (Nat.lt_of_lt_of_le hj (Nat.succ_le_succ (Nat.zero_le _)))
   have th1:Wf.there (k+3) 1 1:=fun j hj=>by
    have hj0:j=0:=by omega
    subst hj0
    exact Pf.r3.2.2 1 (Nat.succ_lt_succ (Nat.zero_lt_succ _))
   have n13:k13≠k+3:=by have:=HN3.out.1;omega
   have n14:k14≠k+3:=by have:=HN3.out.2;omega
   have rg:∀ (o:Nat) (x:Value) (W:World),W.rangeAt k13 0 (bl33 X)∧W.rangeAt k14 0 (bl33 Y)→(W.setCells (k+3) o [x]).rangeAt k13 0 (bl33 X)∧(W.setCells (k+3) o [x]).rangeAt k14 0 (bl33 Y):=fun o x W h=>⟨World.rangeAt_setCells_apart h.1 _ _ _ (Or.inl n13),World.rangeAt_setCells_apart h.2 _ _ _ (Or.inl n14)⟩
   have c1':(Wf.setCells (k+3) 0 [vL']).cell? ⟨k+3,1,none⟩=some vR:=(row_cell (x:=vL') (o:=0) Pf.r3 (Nat.zero_lt_succ _)).2.1 1 _ rfl
   refine anyS.sto (i:=13) (d:=none) rfl 22 (.tmp 58) (.tmp 51) rfl (k+3) 0 vL' oneL.1 oneL.2 th0 iLL ⟨fun e=>absurd e (nfB (by kernel_rfl)),fun _=>c1',rg _ _ _ Sf.2.2⟩ ?_
   simp only[Act.put,List.setIfInBounds_toArray,List.set_cons_succ,List.set_cons_zero]
   refine anyS.nxt (i:=14) (d:=some 59) (x:=.pointer (some ⟨k+3,1,none⟩)) rfl ⟨fun e=>absurd e (nfB (by kernel_rfl)),fun _=>c1',rg _ _ _ Sf.2.2⟩ ?_
   simp only[Act.put,List.setIfInBounds_toArray,List.set_cons_succ,List.set_cons_zero]
   refine anyS.sto (i:=15) (d:=none) rfl 22 (.tmp 59) (.tmp 57) rfl (k+3) 1 vR' oneR.1 oneR.2 (World.there_setCells th1 _ _ _) iLL ⟨fun e=>absurd e (nfB (by kernel_rfl)),fun e=>absurd e (nfB (by kernel_rfl)),rg _ _ _ (rg _ _ _ Sf.2.2)⟩ ?_
   simp only[Act.put,List.setIfInBounds_toArray,List.set_cons_succ,List.set_cons_zero]
   refine anyS.fin (by kernel_rfl) (fun Wg eg=>?_) _
   have Pg:=Pf.put' eg
   have Sg':Wg.rangeAt k13 0 (bl33 X)∧Wg.rangeAt k14 0 (bl33 Y):=by rw[eg];exact rg 1 vR' _ (rg 0 vL' _ Sf.2.2)
   have zg:k13<Wg.heap.size∧k14<Wg.heap.size:=by rw[eg,RG.setCells_size,RG.setCells_size];exact zf
   clear Pf Sf oneL oneR th0 th1 rg c1' zf mS hSi S9 P9 z9 hSg hSk eg
   have KG:=Hid.mk' (And.intro Pg (And.intro Sg' zg))
   clear Pg Sg' zg
   obtain ⟨dL,hdL1,hdL2⟩:=Option.map_eq_some_iff.1 uLg
   have HDL:Hid ((Tryz.prog.underlying 70=some dL∧dL.isRow=true)∧Tryz.prog.underlying 61=some dP∧dP.isRow=true):=⟨⟨hdL1,hdL2⟩,hdP1,hdP2⟩
   have HI33:Hid ((Tryz.prog.info? 61).map (·.size)=some (bl33 X).length∧(Tryz.prog.info? 61).map (·.size)=some (bl33 Y).length):=⟨i33X,i33Y⟩
   clear hdL1 hdL2 hdP1 hdP2 i33X i33Y eLb eRb hk3
   obtain ⟨pX,hpX⟩:∃ v,Hid (pvl X=v):=⟨_,rfl⟩
   obtain ⟨pY,hpY⟩:∃ v,Hid (pvl Y=v):=⟨_,rfl⟩
   have hCh:Hid (Calls Tryz.prog 53 #[vl,.string ⟨#[108,101,102,116]⟩,pX,.string ⟨#[114,105,103,104,116]⟩,pY] Wg (Ret fun e w'=>SP.Only r 0 32 Wg w'∧Holds encB w' r 0 sx∧e=nv cx.val)):=by
    rw[← hvl.out,← hpX.out,← hpY.out]
    exact cCh.out Wg KG.out.1.lg KG.out.1.ls
   go_wp2_with (first|(refine wpList_load_mid rfl 70 (.tmp 4) rfl k 0 ?_ [.pointer (some ⟨r,0,none⟩)] dL ?_ ?_ ?_ ?_ ?_;rfl;exact KG.out.1.r0.2.1;exact HDL.out.1.1;exact HDL.out.1.2;exact iLg;rw[show Value.agg [Value.pointer (some ⟨r,0,none⟩)].toArray=vl from hvl.out])|(refine wpList_load_mid rfl 61 (.tmp 13) rfl k13 0 ?_ (bl33 X) dP ?_ ?_ ?_ ?_ ?_;rfl;exact KG.out.2.1.1;exact HDL.out.2.1;exact HDL.out.2.2;exact HI33.out.1;rw[show Value.agg (bl33 X).toArray=pX from hpX.out])|(refine wpList_load_mid rfl 61 (.tmp 14) rfl k14 0 ?_ (bl33 Y) dP ?_ ?_ ?_ ?_ ?_;rfl;exact KG.out.2.1.2;exact HDL.out.2.1;exact HDL.out.2.2;exact HI33.out.2;rw[show Value.agg (bl33 Y).toArray=pY from hpY.out])|fail)
   refine hCh.out.mono ?_
   rintro e Wh ⟨uu,rfl,hOh,hHh,rfl⟩
   have Ph8:Hid (Ph w Wh r k (i+1) (i+1) (m+m) vL' vR' vL' vR' v (.slice (some ⟨ga,oa,none⟩) (m+m) ca) (.slice (some ⟨gb,ob,none⟩) (m+m) cb') Lb Rb sx (fun j=>(qi.a j).val) (fun j=>(qi.b j).val) G H U):=KG.out.1.say hOh hHh hsc.out.2
   clear hOh hHh hCh KG HDL HI33 cCh
   obtain ⟨x,hxe⟩:∃ x,Hid (cx.val=x):=⟨_,rfl⟩
   obtain ⟨xi,hxie⟩:∃ x,Hid ((ivF cx).val=x):=⟨_,rfl⟩
   have hIn:Hid (∀ W:World,Calls Tryz.prog 54 #[nv x] W (Ret fun e w'=>Below W.heap.size W w'∧e=nv xi)):=by
    rw[← hxe.out,← hxie.out]
    exact fun W=>sInv2_c HF.out.2.1 cx.val cx.isLt W
   rw[hxe.out]
   obtain ⟨b5,hb5⟩:∃ b,Hid (Wh.heap.size=b):=⟨_,rfl⟩
   obtain ⟨Wi,hWi⟩:∃ W,Hid (Wh.alloc (.cells #[.int .u64 0,.int .u64 0,.int .u64 0,.int .u64 0] 52)=W):=⟨_,rfl⟩
   obtain ⟨Wj,hWj⟩:∃ W,Hid (Wi.setCells b5 0 (wn x)=W):=⟨_,rfl⟩
   have Fi:Hid (Row Wi b5 [.int .u64 0,.int .u64 0,.int .u64 0,.int .u64 0]∧Below Wh.heap.size Wh Wi):=by rw[← hWi.out,← hb5.out];exact ⟨row_new Wh _ _,below1 _ _⟩
   have bj:Below Wh.heap.size Wh Wj:=by rw[← hWj.out];exact RG.below_setCells (by rw[hb5.out];exact Nat.le_refl _) _ _ _ Fi.out.2
   have Kj:Hid (Ph w Wj r k (i+1) (i+1) (m+m) vL' vR' vL' vR' v (.slice (some ⟨ga,oa,none⟩) (m+m) ca) (.slice (some ⟨gb,ob,none⟩) (m+m) cb') Lb Rb sx (fun j=>(qi.a j).val) (fun j=>(qi.b j).val) G H U∧Row Wj b5 (wn x)):=⟨Ph8.out.grow bj,by rw[← hWj.out];exact Fi.out.1.put rfl⟩
   obtain ⟨vx,hvx⟩:∃ v,Hid (nv x=v):=⟨_,rfl⟩
   have hIn':Hid (∀ W:World,Calls Tryz.prog 54 #[vx] W (Ret fun e w'=>Below W.heap.size W w'∧e=nv xi)):=by rw[← hvx.out];exact hIn.out
   obtain ⟨dS,hdS1,hdS2⟩:=Option.map_eq_some_iff.1 rSc
   have HDS:Hid (Tryz.prog.underlying 52=some dS∧dS.isRow=true):=⟨hdS1,hdS2⟩
   rw[hvx.out]
   clear bj Ph8 hIn hdS1 hdS2
   go_wp2_with (first|(refine wpList_al (v:=.pointer (some ⟨b5,0,none⟩)) (w':=Wi) rfl 52 15 rfl rfl ?_ ?_;(rw[← hWi.out,← hb5.out];kernel_rfl))|(refine wpList_store_mid rfl 52 (.tmp 15) _ rfl b5 0 (wn x).toArray ?_ ?_ ?_ ?_ ?_ ?_;rfl;exact hvx.out.symm;exact Fi.out.1.2.2;exact nSc;exact wn_one x;rw[show (wn x).toArray.toList=wn x from rfl,hWj.out])|(refine wpList_load_mid rfl 52 (.tmp 15) rfl b5 0 ?_ (wn x) dS ?_ ?_ ?_ ?_ ?_;rfl;exact Kj.out.2.2.1;exact HDS.out.1;exact HDS.out.2;exact nSc;rw[show Value.agg (wn x).toArray=vx from hvx.out])|fail)
   refine (hIn'.out Wj).mono ?_
   rintro e Wk ⟨uu,rfl,hbk,rfl⟩
   obtain ⟨b6,hb6⟩:∃ b,Hid (Wk.heap.size=b):=⟨_,rfl⟩
   obtain ⟨Wl,hWl⟩:∃ W,Hid (Wk.alloc (.cells #[.int .u64 0,.int .u64 0,.int .u64 0,.int .u64 0] 52)=W):=⟨_,rfl⟩
   obtain ⟨Wm,hWm⟩:∃ W,Hid (Wl.setCells b6 0 (wn xi)=W):=⟨_,rfl⟩
   have Fl:Hid (Row Wl b6 [.int .u64 0,.int .u64 0,.int .u64 0,.int .u64 0]∧Below Wk.heap.size Wk Wl):=by rw[← hWl.out,← hb6.out];exact ⟨row_new Wk _ _,below1 _ _⟩
   have bm:Below Wj.heap.size Wj Wm:=by
    have:Below Wk.heap.size Wk Wm:=by rw[← hWm.out];exact RG.below_setCells (by rw[hb6.out];exact Nat.le_refl _) _ _ _ Fl.out.2
    exact hbk.trans (this.mono hbk.size)
   have Km:Hid (Ph w Wm r k (i+1) (i+1) (m+m) vL' vR' vL' vR' v (.slice (some ⟨ga,oa,none⟩) (m+m) ca) (.slice (some ⟨gb,ob,none⟩) (m+m) cb') Lb Rb sx (fun j=>(qi.a j).val) (fun j=>(qi.b j).val) G H U∧Row Wm b5 (wn x)∧Row Wm b6 (wn xi)):=⟨Kj.out.1.grow bm,Kj.out.2.below bm,by rw[← hWm.out];exact Fl.out.1.put rfl⟩
   obtain ⟨vi,hvi⟩:∃ v,Hid (nv xi=v):=⟨_,rfl⟩
   rw[hvi.out]
   clear bm hbk Kj Fi hIn' hWi hWj hb5
   go_wp2_with (first|(refine wpList_al (v:=.pointer (some ⟨b6,0,none⟩)) (w':=Wl) rfl 52 16 rfl rfl ?_ ?_;(rw[← hWl.out,← hb6.out];kernel_rfl))|(refine wpList_store_mid rfl 52 (.tmp 16) _ rfl b6 0 (wn xi).toArray ?_ ?_ ?_ ?_ ?_ ?_;rfl;exact hvi.out.symm;exact Fl.out.1.2.2;exact nSc;exact wn_one xi;rw[show (wn xi).toArray.toList=wn xi from rfl,hWm.out])|fail)
   clear Fl hWl hWm hb6
   simp only[Act.put,List.setIfInBounds_toArray,List.set_cons_succ,List.set_cons_zero]
   have hxN:x<N:=by rw[← hxe.out];exact cx.isLt
   have hxiN:xi<N:=by rw[← hxie.out];exact (ivF cx).isLt
   have hsI:sIn N x=xi:=by rw[← hxe.out,← hxie.out];rfl
   have hgk:GOk N (m+m) c G H U:=gok_of (by have:=sG.out.2.2.1;omega) sG.out.2.2.2.1 sG.out.2.2.2.2.1 sG.out.1 sG.out.2.1 HF.out.2.2.2.1 HF.out.2.2.2.2.1 HF.out.2.2.2.2.2.1
   have PW:Hid (∀ W,Below Wm.heap.size Wm W→Ph w W r k (i+1) (i+1) (m+m) vL' vR' vL' vR' v (.slice (some ⟨ga,oa,none⟩) (m+m) ca) (.slice (some ⟨gb,ob,none⟩) (m+m) cb') Lb Rb sx (fun j=>(qi.a j).val) (fun j=>(qi.b j).val) G H U):=fun W hb=>Km.out.1.grow hb
   have cF:Hid ((∀ W,Below Wm.heap.size Wm W→Calls Tryz.prog 55 #[(.slice (some ⟨ga,oa,none⟩) n ca),nv x,nv xi] W (Ret fun e w'=>Below W.heap.size W w'∧SLq (QH r k vL' vR') w' e m (fldS N x xi m (fun j=>(qi.a j).val))))∧(∀ W,Below Wm.heap.size Wm W→Calls Tryz.prog 55 #[(.slice (some ⟨gb,ob,none⟩) n cb'),nv xi,nv x] W (Ret fun e w'=>Below W.heap.size W w'∧SLq (QH r k vL' vR') w' e m (fldS N xi x m (fun j=>(qi.b j).val))))∧(∀ W,Below Wm.heap.size Wm W→Calls Tryz.prog 56 #[v,nv x] W (Ret fun e w'=>Below W.heap.size W w'∧GRq (QH r k vL' vR') w' e m (fldT N xi x m G) (fldT N x xi m H) U))):=by
    rw[← hn.out]
    refine ⟨fun W hb=>?_,fun W hb=>?_,fun W hb=>?_⟩
    ·refine (fldS_c HF.out.2.1 m (by have:=sG.out.2.2.2.2.2.1;omega) _ x xi hxN hxiN (fun j _=>(qi.a j).isLt) _ W (PW.out W hb).la).mono ?_
     rintro e w' ⟨uu,rfl,h1,h2⟩
     exact ⟨_,rfl,h1,h2.mono fun g hg=>(PW.out W hb).qn g hg⟩
    ·refine (fldS_c HF.out.2.1 m (by have:=sG.out.2.2.2.2.2.1;omega) _ xi x hxiN hxN (fun j _=>(qi.b j).isLt) _ W (PW.out W hb).lb).mono ?_
     rintro e w' ⟨uu,rfl,h1,h2⟩
     exact ⟨_,rfl,h1,h2.mono fun g hg=>(PW.out W hb).qn g hg⟩
    ·have:=foldG_c HF.out.2.1 m c sG.out.2.2.1 G H U hgk x hxN v W (PW.out W hb).qn (PW.out W hb).gr
     rw[hsI] at this
     exact this
   obtain ⟨ev,hev,hevs,heva,hevr⟩:=Km.out.1.r1
   have HEV:Hid (v=.agg ev∧Row Wm (k+1) ev.toList∧(Tryz.prog.info? 58).map (·.size)=some ev.toList.length∧ev.size=3):=⟨hev,hevr,by rw[Array.length_toList,hevs];exact iGr,hevs⟩
   clear hev hevs heva hevr hxN hxiN hsI hgk
   refine (RG.gwL [RG.pE (.slice (some ⟨ga,oa,none⟩) n ca),RG.pE (nv x),RG.pE (nv xi),RG.pS (QH r k vL' vR') m (fldS N x xi m (fun j=>(qi.a j).val)),RG.pE (.slice (some ⟨gb,ob,none⟩) n cb'),RG.pE (nv xi),RG.pE (nv x),RG.pS (QH r k vL' vR') m (fldS N xi x m (fun j=>(qi.b j).val)),RG.pE (.agg ev.toList.toArray),RG.pE (nv x),RG.pR (QH r k vL' vR') m (fldT N xi x m G) (fldT N x xi m H) U] (fun W=>Below Wm.heap.size Wm W) (fun W W' hb h=>h.trans (hb.mono h.size))).tail2 11 (by kernel_rfl) (by kernel_rfl) (by kernel_rfl) ⟨
    RG.gw_o 2 (.slice (some ⟨ga,oa,none⟩) n ca) (.slice (some ⟨ga,oa,none⟩) n ca) (by kernel_rfl) (fun _=>rfl),
    RG.gw_lo 52 15 b5 0 (wn x) rSc nSc (by kernel_rfl) (fun W hB=>RG.range_below Km.out.2.1.2.1 hB Km.out.2.1.1) (fun _=>rfl),
    RG.gw_lo 52 16 b6 0 (wn xi) rSc nSc (by kernel_rfl) (fun W hB=>RG.range_below Km.out.2.2.2.1 hB Km.out.2.2.1) (fun _=>rfl),
    RG.gw_c3 0 66 1 67 2 68 55 (fun x y z=>#[x,y,z]) (fun a1 a2 a3 W h1 h2 h3 hB=>by
     obtain rfl:a1=(.slice (some ⟨ga,oa,none⟩) n ca):=h1
     obtain rfl:a2=nv x:=h2
     obtain rfl:a3=nv xi:=h3
     refine (cF.out.1 W hB).mono ?_
     rintro e W' ⟨uu,rfl,hb,hs⟩
     exact ⟨_,rfl,hb,hs⟩),
    RG.gw_o 3 (.slice (some ⟨gb,ob,none⟩) n cb') (.slice (some ⟨gb,ob,none⟩) n cb') (by kernel_rfl) (fun _=>rfl),
    RG.gw_lo 52 16 b6 0 (wn xi) rSc nSc (by kernel_rfl) (fun W hB=>RG.range_below Km.out.2.2.2.1 hB Km.out.2.2.1) (fun _=>rfl),
    RG.gw_lo 52 15 b5 0 (wn x) rSc nSc (by kernel_rfl) (fun W hB=>RG.range_below Km.out.2.1.2.1 hB Km.out.2.1.1) (fun _=>rfl),
    RG.gw_c3 4 70 5 71 6 72 55 (fun x y z=>#[x,y,z]) (fun a1 a2 a3 W h1 h2 h3 hB=>by
     obtain rfl:a1=(.slice (some ⟨gb,ob,none⟩) n cb'):=h1
     obtain rfl:a2=nv xi:=h2
     obtain rfl:a3=nv x:=h3
     refine (cF.out.2.1 W hB).mono ?_
     rintro e W' ⟨uu,rfl,hb,hs⟩
     exact ⟨_,rfl,hb,hs⟩),
    RG.gw_lo 58 5 (k+1) 0 ev.toList uGr HEV.out.2.2.1 (by kernel_rfl) (fun W hB=>RG.range_below HEV.out.2.1.2.1 hB HEV.out.2.1.1) (fun _=>rfl),
    RG.gw_lo 52 15 b5 0 (wn x) rSc nSc (by kernel_rfl) (fun W hB=>RG.range_below Km.out.2.1.2.1 hB Km.out.2.1.1) (fun _=>rfl),
    RG.gw_c2 8 74 9 75 56 (fun x y=>#[x,y]) (fun a1 a2 W h1 h2 hB=>by
     obtain rfl:a1=v:=(show a1=.agg ev.toList.toArray from h1).trans HEV.out.1.symm
     obtain rfl:a2=nv x:=h2
     refine (cF.out.2.2 W hB).mono ?_
     rintro e W' ⟨uu,rfl,hb,hs⟩
     exact ⟨_,rfl,hb,hs⟩),trivial⟩ (Below.refl _ _).drew ?_
   intro V Wn hR hB
   have hV3:SLq (QH r k vL' vR') Wn (V 3) m (fldS N x xi m (fun j=>(qi.a j).val)):=hR 3 (by decide)
   have hV7:SLq (QH r k vL' vR') Wn (V 7) m (fldS N xi x m (fun j=>(qi.b j).val)):=hR 7 (by decide)
   have hV10:GRq (QH r k vL' vR') Wn (V 10) m (fldT N xi x m G) (fldT N x xi m H) U:=hR 10 (by decide)
   obtain ⟨ef,hef,hefs,hefa⟩:=hV10.ar
   rw[hef] at hV10
   dsimp only[RG.putV,Nat.reduceAdd,List.take,List.drop]
   simp only[Act.put,List.setIfInBounds_toArray,List.set_cons_succ,List.set_cons_zero]
   rw[hef]
   generalize V 3=na at hV3 ⊢
   generalize V 7=nb at hV7 ⊢
   have Pn:=(PW.out Wn hB).next hV3 hV7 hV10
   obtain ⟨Wo,hWo⟩:∃ W,Hid (Wn.setCells (k+1) 0 ef.toList=W):=⟨_,rfl⟩
   rw[hWo.out] at Pn
   have HTo:Hid (Wn.there (k+1) 0 ef.size∧(Tryz.prog.info? 58).map (·.size)=some ef.size∧ef.all (·.oneCell')=true):=by
    refine ⟨?_,by rw[hefs];exact iGr,hefa⟩
    rw[hefs]
    have:=(HEV.out.2.1.below hB).2.2
    rw[Array.length_toList,HEV.out.2.2.2] at this
    exact this
   have hpst:(ptMd C hord).pstep (chF N) ivF u m qi=⟨sx,Md.fS cx (ivF cx) m qi.a,Md.fS (ivF cx) cx m qi.b,(ptMd C hord).fP (ivF cx) cx m qi.g,(ptMd C hord).fP cx (ivF cx) m qi.h⟩:=by
    unfold Md.pstep
    rw[hsc.out.1]
   have KEND:Hid (∃ vL vR v G H,Gd N (2^(t-(i+1))) (2^(i+1)) G ((ptMd C hord).pst (chF N) ivF u t q (i+1)).g∧Gd N (2^(t-(i+1))) (2^(i+1)) H ((ptMd C hord).pst (chF N) ivF u t q (i+1)).h∧Ph w Wo r k (i+1) (i+1) (2^(t-(i+1))) vL vR vL vR v na nb Lb Rb ((ptMd C hord).pst (chF N) ivF u t q (i+1)).s (fun j=>(((ptMd C hord).pst (chF N) ivF u t q (i+1)).a j).val) (fun j=>(((ptMd C hord).pst (chF N) ivF u t q (i+1)).b j).val) G H U):=by
    show ∃ vL vR v G H,_
    rw[HS.out.1,hpst,HE.out.1,HE.out.2]
    have ea:fldS N x xi m (fun j=>(qi.a j).val)=fun j=>(Md.fS cx (ivF cx) m qi.a j).val:=by
     rw[← hxe.out,← hxie.out]
     funext j
     exact fldS_val cx (ivF cx) m qi.a j
    have eb:fldS N xi x m (fun j=>(qi.b j).val)=fun j=>(Md.fS (ivF cx) cx m qi.b j).val:=by
     rw[← hxe.out,← hxie.out]
     funext j
     exact fldS_val (ivF cx) cx m qi.b j
    rw[ea,eb] at Pn
    have g1:=sG.out.1.fold C hord (ivF cx) cx
    have g2:=sG.out.2.1.fold C hord cx (ivF cx)
    rw[hxe.out,hxie.out] at g1 g2
    exact ⟨_,_,_,_,_,g1,g2,Pn⟩
   obtain ⟨vf,hvf⟩:∃ v,Hid (Value.agg ef=v):=⟨_,rfl⟩
   rw[hvf.out]
   clear hR hB hV3 hV7 hV10 hef hefs hefa Pn hpst cF PW Km
   generalize V 0=q0
   generalize V 1=q1
   generalize V 2=q2
   generalize V 4=q4
   generalize V 5=q5
   generalize V 6=q6
   generalize V 8=q8
   generalize V 9=q9
   go_wp2_with (first|(refine wpList_store_mid rfl 58 (.tmp 5) _ rfl (k+1) 0 ef ?_ ?_ ?_ ?_ ?_ ?_;rfl;exact hvf.out.symm;exact HTo.out.1;exact HTo.out.2.1;exact HTo.out.2.2;rw[hWo.out])|fail)
   go_roundg (gk-1)
   case measure=>have:=HI.out;omega
   case rel=>exact ⟨i+1,by have:=HI.out;omega,KEND⟩
  ·have hit:i=t:=by omega
   subst hit
   obtain ⟨vL,vR,v,G,H,-,-,hPh⟩:=KM.out
   clear KM
   rw[Nat.sub_self,Nat.pow_zero] at hPh
   obtain ⟨ga,oa,ca,rfl,-,-,hga,hra⟩:=id hPh.la
   obtain ⟨gb,ob,cb',rfl,-,-,hgb,hrb⟩:=id hPh.lb
   have hra:=hra 0 (by decide)
   have hrb:=hrb 0 (by decide)
   obtain ⟨a0,ha0⟩:∃ a,Hid ((((ptMd C hord).pst (chF N) ivF u i q i).a 0).val=a):=⟨_,rfl⟩
   obtain ⟨b0,hb0⟩:∃ a,Hid ((((ptMd C hord).pst (chF N) ivF u i q i).b 0).val=a):=⟨_,rfl⟩
   have hra:wr.rangeAt ga (oa+4*0) (wn a0):=by rw[← ha0.out];exact hra
   have hrb:wr.rangeAt gb (ob+4*0) (wn b0):=by rw[← hb0.out];exact hrb
   have HAB:Hid (a0<N∧b0<N):=⟨by rw[← ha0.out];exact Fin.isLt _,by rw[← hb0.out];exact Fin.isLt _⟩
   have KP:=Hid.mk' hPh
   have KR:Hid (wr.rangeAt ga (oa+4*0) (wn a0)∧wr.rangeAt gb (ob+4*0) (wn b0)∧ga<wr.heap.size∧gb<wr.heap.size):=⟨hra,hrb,hga,hgb⟩
   have hz:k+4≤wr.heap.size:=hPh.r3.1
   have HZ4:=Hid.mk' hz
   have cB:Hid ((∀ W,wr.heap.size≤W.heap.size→Calls Tryz.prog 50 #[nv a0] W (Ret fun e w'=>Below W.heap.size W w'∧ElQ (k+4≤·) 32 w' e (bx a0)))∧∀ W,wr.heap.size≤W.heap.size→Calls Tryz.prog 50 #[nv b0] W (Ret fun e w'=>Below W.heap.size W w'∧ElQ (k+4≤·) 32 w' e (bx b0))):=by
    refine ⟨fun W hW=>?_,fun W hW=>?_⟩
    ·refine (scBytesQ_c HF.out.2.1 HAB.out.1 W).mono ?_
     rintro e w' ⟨uu,rfl,h1,h2⟩
     exact ⟨_,rfl,h1,h2.mono2 fun g _ hg=>by omega⟩
    ·refine (scBytesQ_c HF.out.2.1 HAB.out.2 W).mono ?_
     rintro e w' ⟨uu,rfl,h1,h2⟩
     exact ⟨_,rfl,h1,h2.mono2 fun g _ hg=>by omega⟩
   have hia:=at33 ga oa 1 ca 0 (by decide)
   have hib:=at33 gb ob 1 cb' 0 (by decide)
   clear hPh hra hrb hga hgb hz hi
   go_wp2_with fail
   refine (RG.gwL [RG.pE (.slice (some ⟨ga,oa,none⟩) 1 ca),RG.pE (.pointer (some ⟨ga,oa+4*0,none⟩)),RG.pE (nv a0),⟨fun v W=>ElQ (k+4≤·) 32 W v (bx a0),fun _ _ _ hb h=>h.keep (Kq.of_below hb)⟩,RG.pE (.slice (some ⟨gb,ob,none⟩) 1 cb'),RG.pE (.pointer (some ⟨gb,ob+4*0,none⟩)),RG.pE (nv b0),⟨fun v W=>ElQ (k+4≤·) 32 W v (bx b0),fun _ _ _ hb h=>h.keep (Kq.of_below hb)⟩,RG.pE (.pointer (some ⟨k+3,2,none⟩))] (fun W=>Below wr.heap.size wr W) (fun W W' hb h=>h.trans (hb.mono h.size))).tail2 9 (by kernel_rfl) (by kernel_rfl) (by kernel_rfl) ⟨
    RG.gw_o 2 (.slice (some ⟨ga,oa,none⟩) 1 ca) (.slice (some ⟨ga,oa,none⟩) 1 ca) (by kernel_rfl) (fun _=>rfl),
    RG.gw_y 0 77 (.slice (some ⟨ga,oa,none⟩) 1 ca) (.pointer (some ⟨ga,oa+4*0,none⟩)) (Instr.indexAt 46 (.slice (some ⟨ga,oa,none⟩) 1 ca) (.int .i64 0)) hia (fun x W h=>h) (fun _=>rfl),
    RG.gw_lr 52 1 78 ga (oa+4*0) (wn a0) rSc nSc (fun x W h=>h) (fun W hB=>RG.range_below KR.out.1 hB KR.out.2.2.1) (fun _=>rfl),
    RG.gw_c1 2 79 50 (fun x=>#[x]) (fun x W hx hB=>by
     obtain rfl:x=nv a0:=hx
     exact cB.out.1 W hB.size),
    RG.gw_o 3 (.slice (some ⟨gb,ob,none⟩) 1 cb') (.slice (some ⟨gb,ob,none⟩) 1 cb') (by kernel_rfl) (fun _=>rfl),
    RG.gw_y 4 81 (.slice (some ⟨gb,ob,none⟩) 1 cb') (.pointer (some ⟨gb,ob+4*0,none⟩)) (Instr.indexAt 46 (.slice (some ⟨gb,ob,none⟩) 1 cb') (.int .i64 0)) hib (fun x W h=>h) (fun _=>rfl),
    RG.gw_lr 52 5 82 gb (ob+4*0) (wn b0) rSc nSc (fun x W h=>h) (fun W hB=>RG.range_below KR.out.2.1 hB KR.out.2.2.2) (fun _=>rfl),
    RG.gw_c1 6 83 50 (fun x=>#[x]) (fun x W hx hB=>by
     obtain rfl:x=nv b0:=hx
     exact cB.out.2 W hB.size),
    RG.gw_o 9 (.pointer (some ⟨k+3,0,none⟩)) (.pointer (some ⟨k+3,2,none⟩)) (by kernel_rfl) (fun _=>rfl),trivial⟩ (Below.refl _ _).drew ?_
   intro V Wa hR hB
   have hV3:ElQ (k+4≤·) 32 Wa (V 3) (bx a0):=hR 3 (by decide)
   have hV7:ElQ (k+4≤·) 32 Wa (V 7) (bx b0):=hR 7 (by decide)
   have hV8:V 8=.pointer (some ⟨k+3,2,none⟩):=hR 8 (by decide)
   dsimp only[RG.putV,Nat.reduceAdd,List.take,List.drop]
   simp only[Act.put,List.setIfInBounds_toArray,List.set_cons_succ,List.set_cons_zero]
   rw[hV8]
   generalize V 3=vA at hV3 ⊢
   generalize V 7=vB at hV7 ⊢
   have Pa:=KP.out.grow hB
   have KF:=Pa.fin hV3 hV7
   obtain ⟨Wb,hWb⟩:∃ W,Hid (Wa.setCells (k+3) 2 [vA]=W):=⟨_,rfl⟩
   obtain ⟨Wc,hWc⟩:∃ W,Hid (Wb.setCells (k+3) 3 [vB]=W):=⟨_,rfl⟩
   obtain ⟨Wd,hWd⟩:∃ W,Hid (Wc.setCells (k+2) 0 [vL,vR,vA,vB]=W):=⟨_,rfl⟩
   have th2:Wa.there (k+3) 2 1:=fun j hj=>by
    have hj0:j=0:=by omega
    subst hj0
    exact Pa.r3.2.2 2 (Nat.lt_of_sub_eq_succ rfl)
   have th3:Wa.there (k+3) 3 1:=fun j hj=>by
    have hj0:j=0:=by omega
    subst hj0
    exact Pa.r3.2.2 3 (Nat.lt_of_sub_eq_succ rfl)
   have TH:Hid (Wa.there (k+3) 2 1∧Wb.there (k+3) 3 1):=⟨th2,by rw[← hWb.out];exact World.there_setCells th3 _ _ _⟩
   rw[hWb.out,hWc.out,hWd.out] at KF
   have KF:=Hid.mk' KF
   have ON:Hid ((vA.cells=#[vA]∧vA.oneCell'=true)∧(vB.cells=#[vB]∧vB.oneCell'=true)∧(#[vL,vR,vA,vB]:Array Value).all (·.oneCell')=true):=⟨hV3.one,hV7.one,by simp[hV3.one.2,hV7.one.2,Pa.tL.one.2,Pa.tR.one.2]⟩
   obtain ⟨dI,hdI1,hdI2⟩:=Option.map_eq_some_iff.1 uInn
   have HDI:Hid (Tryz.prog.underlying 26=some dI∧dI.isRow=true):=⟨hdI1,hdI2⟩
   obtain ⟨vO,hvO⟩:∃ v,Hid (Value.agg #[vL,vR,vA,vB]=v):=⟨_,rfl⟩
   clear hR hB hV3 hV7 hV8 Pa th2 th3 hdI1 hdI2 hia hib cB KR KP
   generalize V 0=q0
   generalize V 1=q1
   generalize V 2=q2
   generalize V 4=q4
   generalize V 5=q5
   generalize V 6=q6
   go_wp2_with (first|(refine wpList_st1 rfl 23 (.tmp 85) _ rfl (k+3) 2 vA ?_ ?_ ON.out.1.1 ON.out.1.2 TH.out.1 iB1 ?_;rfl;rfl;rw[hWb.out])|(refine wpList_st1 rfl 23 (.tmp 86) _ rfl (k+3) 3 vB ?_ ?_ ON.out.2.1.1 ON.out.2.1.2 TH.out.2 iB1 ?_;rfl;rfl;rw[hWc.out])|(refine wpList_load_mid rfl 26 (.tmp 9) rfl (k+3) 0 ?_ [vL,vR,vA,vB] dI ?_ ?_ ?_ ?_ ?_;rfl;exact KF.out.1.2.1;exact HDI.out.1;exact HDI.out.2;exact iInn;rw[show Value.agg [vL,vR,vA,vB].toArray=vO from hvO.out])|(refine wpList_store_mid rfl 26 (.tmp 8) _ rfl (k+2) 0 #[vL,vR,vA,vB] ?_ ?_ ?_ ?_ ?_ ?_;rfl;exact hvO.out.symm;exact KF.out.2.1.2.2;exact iInn;exact ON.out.2.2;rw[show (#[vL,vR,vA,vB]:Array Value).toList=[vL,vR,vA,vB] from rfl,hWd.out])|fail)
   refine bodyPost_ret (results_cell 8 26 rfl KF.out.2.2.1 rfl uInn iInn) rfl ?_
   refine ⟨_,rfl,?_⟩
   have:=KF.out.2.2.2
   rw[← ha0.out,← hb0.out] at this
   exact this
end
section
open Go.RowKit Go.Sort Go.Deep SPA
variable {P:Nat} [NeZero P] {N:Nat}
def hvA (n:Nat):Value:=if n=1 then .tuple #[.int .i64 0,.bool true] else if n=2 then .tuple #[.int .i64 1,.bool true] else if n=4 then .tuple #[.int .i64 2,.bool true] else if n=8 then .tuple #[.int .i64 3,.bool true] else if n=16 then .tuple #[.int .i64 4,.bool true] else if n=32 then .tuple #[.int .i64 5,.bool true] else if n=64 then .tuple #[.int .i64 6,.bool true] else .tuple #[.int .i64 0,.bool false]
theorem halv_c (n:Nat) (hn:n=1∨n=2∨n=4∨n=8∨n=16∨n=32∨n=64∨n=128) (w:World):Calls Tryz.prog 14 #[.int .i64 n] w (Ret fun e w'=>Below w.heap.size w w'∧e=hvA n):=by
 obtain ⟨NN,hNN⟩:∃ NN,NN=n:=⟨_,rfl⟩
 rcases hn with rfl|rfl|rfl|rfl|rfl|rfl|rfl|rfl
 all_goals
  go_enter Tryz.func14,Tryz.ntmps14
  go_wp2
  go_loopg [5] 7 (fun m s5 W=>W=w∧((m=7∧s5=.int .i64 0)∨(m=6∧s5=.int .i64 1∧1<NN)∨(m=5∧s5=.int .i64 2∧2<NN)∨(m=4∧s5=.int .i64 3∧4<NN)∨(m=3∧s5=.int .i64 4∧8<NN)∨(m=2∧s5=.int .i64 5∧16<NN)∨(m=1∧s5=.int .i64 6∧32<NN)∨(m=0∧s5=.int .i64 7∧64<NN)))
  case atStart=>exact ⟨rfl,Or.inl ⟨rfl,rfl⟩⟩
  case round =>
   obtain ⟨rfl,h⟩:=hrel
   rcases h with ⟨rfl,rfl⟩|⟨rfl,rfl,hl⟩|⟨rfl,rfl,hl⟩|⟨rfl,rfl,hl⟩|⟨rfl,rfl,hl⟩|⟨rfl,rfl,hl⟩|⟨rfl,rfl,hl⟩|⟨rfl,rfl,hl⟩
   all_goals
    first
     | (exfalso;omega)
     | skip
   all_goals
    go_wp2
    first
     | (go_ret2;exact ⟨_,rfl,Below.refl _ _,rfl⟩)
     | (go_roundg 6;(case measure=>omega);(case rel=>exact ⟨rfl,by simp[hNN]⟩))
     | (go_roundg 5;(case measure=>omega);(case rel=>exact ⟨rfl,by simp[hNN]⟩))
     | (go_roundg 4;(case measure=>omega);(case rel=>exact ⟨rfl,by simp[hNN]⟩))
     | (go_roundg 3;(case measure=>omega);(case rel=>exact ⟨rfl,by simp[hNN]⟩))
     | (go_roundg 2;(case measure=>omega);(case rel=>exact ⟨rfl,by simp[hNN]⟩))
     | (go_roundg 1;(case measure=>omega);(case rel=>exact ⟨rfl,by simp[hNN]⟩))
     | (go_roundg 0;(case measure=>omega);(case rel=>exact ⟨rfl,by simp[hNN]⟩))
end
section
open Go.RowKit Go.Sort Go.Deep SPA
variable {P:Nat} [NeZero P] {N:Nat} [NeZero N]
noncomputable def gPt (C:Fld P) (lb:ByteArray) (i:Nat):OnP P:=⟨.some (hpt P lb (num4 i).toList),hpt_on C lb _⟩
noncomputable def lPt (C:Fld P) (lb:ByteArray) (x:List UInt8):OnP P:=⟨.some (hpt P lb x),hpt_on C lb x⟩
noncomputable def uPt (C:Fld P):OnP P:=lPt C ⟨#[105,110,110,101,114]⟩ []
omit [NeZero N] in
theorem tl_pt (C:Fld P) (h1:1<N) (lb:ByteArray) (i:Nat):Tl N [(1,hpN P lb i)] (gPt C lb i):=Tl.one C h1 (gPt C lb i)
omit [NeZero N] in
theorem tl_lb (C:Fld P) (h1:1<N) (lb:ByteArray) (x:List UInt8):Tl N [(1,wr (.some (hpt P lb x):EC.Pt P))] (lPt C lb x):=Tl.one C h1 (lPt C lb x)
omit [NeZero N] in
theorem gd_left (C:Fld P) (h1:1<N) (n:Nat):Gd N n 1 (gGT P) (gPt C ⟨#[108,101,102,116]⟩):=⟨fun i _=>tl_pt C h1 _ i,fun _ _=>rfl⟩
omit [NeZero N] in
theorem gd_right (C:Fld P) (h1:1<N) (n:Nat):Gd N n 1 (hGT P) (gPt C ⟨#[114,105,103,104,116]⟩):=⟨fun i _=>tl_pt C h1 _ i,fun _ _=>rfl⟩
omit [NeZero N] in
theorem tl_inner (C:Fld P) (h1:1<N):Tl N (uGT P) (uPt C):=tl_lb C h1 _ _
noncomputable def hidX (C:Fld P) (hord:∀ r:EC.Pt P,EC.On r→EC.mul N r=none) (a b:Nat→Fin N) (n:Nat):OnP P:=(ptMd C hord).hd a b (gPt C ⟨#[108,101,102,116]⟩) (gPt C ⟨#[114,105,103,104,116]⟩) (uPt C) n
noncomputable abbrev qBeg (C:Fld P) (label:List UInt8) (X:Bs) (a b:Nat→Fin N):Md.Ps Bs (Fin N) (OnP P):=⟨pLog label X,a,b,gPt C ⟨#[108,101,102,116]⟩,gPt C ⟨#[114,105,103,104,116]⟩⟩
omit [NeZero N] in
theorem allS_y (O:Ord N) (n cap:Nat) (hn:n≤512) (q:Option Addr) (L:Nat→Bs) (a:Nat→Nat) (w:World) (hA:Args w q n L) (ha:∀ j,j<n→rq N (L j)=some (a j)):Calls Tryz.prog 15 #[(.func (.func 16) #[] #[]),.slice q n cap] w (Ret fun e w'=>Below w.heap.size w w'∧∃ k,e=.tuple #[.slice (some ⟨k,0,none⟩) n n,.bool true]∧SLq (w.heap.size≤·) w' (.slice (some ⟨k,0,none⟩) n n) n a):=by
 refine (allOf_c O n cap hn q L w hA).mono ?_
 rintro e w' ⟨v,rfl,h⟩
 rcases h with ⟨⟨j,h1,h2⟩,-⟩|⟨-,k,Cs,hM,hR,rfl⟩
 ·rw[ha j h1] at h2;cases h2
 ·refine ⟨_,rfl,hM.bel,k,rfl,k,0,n,rfl,Nat.le_refl _,hM.le,hM.lt,fun j hj t u hu=>?_⟩
  have ht:t<4:=(List.getElem?_eq_some_iff.1 hu).1
  have h3:=hR.row j t hj ht
  rw[ha j hj] at h3
  have:=hM.range (4*j+t) u (by rw[h3];exact hu)
  rw[show 0+(4*j+t)=0+4*j+t by omega] at this
  exact this
theorem hv_pow (t:Nat) (ht:t≤6):hvA (2^t)=.tuple #[.int .i64 t,.bool true]:=by
 match t,ht with
 | 0,_=>rfl
 | 1,_=>rfl
 | 2,_=>rfl
 | 3,_=>rfl
 | 4,_=>rfl
 | 5,_=>rfl
 | 6,_=>rfl
 | n+7,h=>omega
theorem pow_of (t:Nat) (ht:t≤6):2^t=1∨2^t=2∨2^t=4∨2^t=8∨2^t=16∨2^t=32∨2^t=64∨2^t=128:=by
 match t,ht with
 | 0,_=>decide
 | 1,_=>decide
 | 2,_=>decide
 | 3,_=>decide
 | 4,_=>decide
 | 5,_=>decide
 | 6,_=>decide
 | n+7,h=>omega
theorem args_below {w w1:World} {q:Option Addr} {n:Nat} {L:Nat→Bs} (h:Args w q n L) (hb:Below w.heap.size w w1):Args w1 q n L:=fun hn=>by
 obtain ⟨g,h1,h2,h3⟩:=h hn
 refine ⟨g,h1,Nat.lt_of_lt_of_le h2 hb.size,fun j hj=>?_⟩
 obtain ⟨v,h4,h5⟩:=h3 j hj
 exact ⟨v,by rw[hb.cell (p:=⟨g,j,none⟩) h2];exact h4,h5.below hb⟩
structure PiR (w:World) (t:Nat) (Xp:Bs) (Lb Rb:Nat→Bs) (A B:Bs) (e:Value) (w':World):Prop where
 bl:Below w.heap.size w w'
 ex:∃ vp vL vR vA vB,e=.tuple #[vp,.agg #[vL,vR,vA,vB],.int .i64 0]∧ElQ (fun _=>True) 33 w' vp Xp∧TlL (fun _=>True) w.heap.size t w' vL Lb∧TlL (fun _=>True) w.heap.size t w' vR Rb∧ElQ (fun _=>True) 32 w' vA A∧ElQ (fun _=>True) 32 w' vB B
theorem anyS.sta {P:Program} {ops:Array Oper} {Q:Exit→Act→World→Prop} {S:Array Bool→World→Prop} {i fuel:Nat} {o:Oper} {listed:Array Bool} {a:Act} {w:World} {d:Option Tmp} (ho:ops[i]? = some o) (ty:TypeId) (x y:Operand) (hop:o.op=.store ty x y) (b off:Nat) (us:Array Value) (h1:us.all (·.oneCell')=true) (ht:w.there b off us.size) (hi:(P.info? ty).map (·.size)=some us.size)
 (hS:S (listed.setIfInBounds i true) (w.setCells b off us.toList)) (h:anyS P ops Q S fuel (listed.setIfInBounds i true) (a.put d undef) (w.setCells b off us.toList)) (hx:a.eval x=.pointer (some ⟨b,off,none⟩):=by kernel_rfl) (hy:a.eval y=.agg us:=by kernel_rfl)
 (hr:Region.ready .any ops listed=[i]:=by kernel_rfl) (hg:o.guard=none:=by rfl) (hd:o.dst=d:=by kernel_rfl):anyS P ops Q S (fuel+1) listed a w:=by
 subst hd
 exact anyS.step ho hr fun K hK=>by
  rw[if_pos (wanted_of hg _)]
  have hr:=run_storeVar_mid (P:=P) w b off ty us ht hi h1
  unfold Oper.wp execOp
  simp only[hop,hx,hy,Instr.storeAt,Instr.sureAddr,Sem.run_bind,Sem.run_pure,Result.andThen_ok,hr]
  exact hK.out _ _ hS h
theorem results_tct {P:Program} {fn:Func} {tmps:Array Value} {W:World} {k:Nat} {vs:List Value} {x y:Value} (s t u:Tmp) (T:TypeId) (hr:fn.results=#[.tmp s,.cell t T,.tmp u]) (h:Row W k vs) (hs:tmps[s]? = some x) (ht:tmps[t]? = some (.pointer (some ⟨k,0,none⟩))) (hu':tmps[u]? = some y)
 (hu:(P.underlying T).map (·.isRow)=some true) (hi:(P.info? T).map (·.size)=some vs.length):(results fn tmps).run P W=.ok (.tuple #[x,.agg vs.toArray,y]) W:=by
 obtain ⟨d,hu,hd⟩:=Option.map_eq_some_iff.1 hu
 have h1:=run_loadVar_mid (P:=P) W k 0 T vs d h.2.1 hu hd hi
 have h2:tmps.getD t undef=.pointer (some ⟨k,0,none⟩):=by rw[Array.getD_eq_getD_getElem?,ht];rfl
 have h3:tmps.getD s undef=x:=by rw[Array.getD_eq_getD_getElem?,hs];rfl
 have h4:tmps.getD u undef=y:=by rw[Array.getD_eq_getD_getElem?,hu'];rfl
 unfold results
 rw[hr]
 simp only[Array.mapM_eq_mapM_toList,List.mapM_cons,List.mapM_nil,h2,h3,h4,asAddr]
 simp[Sem.run_bind,h1]
theorem ElQ.off {Q:Nat→Prop} {m k:Nat} {W:World} {x:Value} {b:Bs} {vs:List Value} (h:ElQ Q m W x b) (hm:0<m) (hr:Row W k (.slice none 0 0 :: vs)):ElQ (·≠k) m W x b:=by
 obtain ⟨g,c,h1,h2,h3,h4,h5,h6⟩:=h
 refine ⟨g,c,h1,h2,h3,?_,h5,h6⟩
 rintro rfl
 have e1:=(h6 0 (by omega)).1
 have e2:=hr.2.1 0 _ rfl
 rw[show (0+0:Nat)=0 from rfl] at e1 e2
 rw[e2] at e1
 cases e1
theorem pi_fin {w W:World} {k t B0:Nat} {X A B:Bs} {Lb Rb:Nat→Bs} {vp vL vR vA vB:Value} (hk:w.heap.size=k) (hkB:k<B0) (hb:Below w.heap.size w W) (hr:Row W k [.slice none 0 0,.slice none 0 0,.slice none 0 0,.slice none 0 0]) (hp:ElQ (k < ·) 33 W vp X) (hL:TlL (fun _=>True) B0 t W vL Lb) (hR:TlL (fun _=>True) B0 t W vR Rb) (hA:ElQ (B0≤·) 32 W vA A) (hB:ElQ (B0≤·) 32 W vB B) :
 Row (W.setCells k 0 [vL,vR,vA,vB]) k [vL,vR,vA,vB]∧PiR w t X Lb Rb A B (.tuple #[vp,.agg #[vL,vR,vA,vB],.int .i64 0]) (W.setCells k 0 [vL,vR,vA,vB])∧(#[vL,vR,vA,vB]:Array Value).all (·.oneCell')=true:=by
 have hne:∀ g,g≠k→(W.setCells k 0 [vL,vR,vA,vB]).heap[g]? = W.heap[g]?:=fun g h2=>RG.setCells_other k _ 0 W g h2
 have hsz:W.heap.size≤(W.setCells k 0 [vL,vR,vA,vB]).heap.size:=by rw[RG.setCells_size];exact Nat.le_refl _
 have kq:Kq (·≠k) W (W.setCells k 0 [vL,vR,vA,vB]):=⟨hsz,fun g q _=>hne g q⟩
 have tl:∀ {vx:Value} {B:Nat→Bs},TlL (fun _=>True) B0 t W vx B→TlL (fun _=>True) w.heap.size t (W.setCells k 0 [vL,vR,vA,vB]) vx B:=fun hx=>by
  obtain ⟨xs,h2,h3⟩:=hx.ex
  refine ⟨xs,own_base (own_keep h2 fun g hg=>hne g (by have:=(hx.lt hg).1;omega)) (by omega),fun j hj=>?_⟩
  obtain ⟨x,h4,h5⟩:=h3 j hj
  exact ⟨x,h4,((h5.off (by omega) hr).keep kq).mono2 fun _ _ _=>trivial⟩
 have el:∀ {m:Nat} {x:Value} {b:Bs} {Q:Nat→Prop},0<m→ElQ Q m W x b→ElQ (fun _=>True) m (W.setCells k 0 [vL,vR,vA,vB]) x b:=fun hm hx=>((hx.off hm hr).keep kq).mono2 fun _ _ _=>trivial
 exact ⟨hr.put rfl,⟨RG.below_setCells (Nat.le_of_eq hk) _ _ _ hb,_,_,_,_,_,rfl,el (by omega) hp,tl hL,tl hR,el (by omega) hA,el (by omega) hB⟩,by simp[hL.one.2,hR.one.2,hA.one.2,hB.one.2]⟩
theorem only_new {w W:World} {r o m B:Nat} (h:SP.Only r o m w W) (hB:B≤w.heap.size) (hr:B≤r):Below B w W:=⟨h.os,h.tape,h.output,h.size,fun g hg=>h.block g (by omega) (by omega)⟩
theorem provI_c (C:Fld P) (O:Ord N) (hord:∀ r:EC.Pt P,EC.On r→EC.mul N r=none) (hP:NT.IsP N) (t:Nat) (ht:t≤6) (label:ByteArray) (hlab:label.size≤1000000) (a b:Nat→Fin N) (LA LB:Nat→Bs) (q1 q2:Option Addr) (c1 c2:Nat) (w:World) (h1:Args w q1 (2^t) LA) (h2:Args w q2 (2^t) LB) (ha:∀ j,j<2^t→rq N (LA j)=some (a j).val) (hb:∀ j,j<2^t→rq N (LB j)=some (b j).val)
 (Lb Rb:Nat→Bs) (hLb:∀ j,Lb j=wP ((ptMd C hord).pLi (chF N) ivF (uPt C) t (qBeg C label.data.toList (wP (hidX C hord a b (2^t))) a b) j)) (hRb:∀ j,Rb j=wP ((ptMd C hord).pTi (chF N) ivF (uPt C) t (qBeg C label.data.toList (wP (hidX C hord a b (2^t))) a b) j)) :
 Calls Tryz.prog 6 #[.string label,.slice q1 (2^t) c1,.slice q2 (2^t) c2] w (Ret (PiR w t (wP (hidX C hord a b (2^t))) Lb Rb (bx (((ptMd C hord).pst (chF N) ivF (uPt C) t (qBeg C label.data.toList (wP (hidX C hord a b (2^t))) a b) t).a 0).val) (bx (((ptMd C hord).pst (chF N) ivF (uPt C) t (qBeg C label.data.toList (wP (hidX C hord a b (2^t))) a b) t).b 0).val))):=by
 dsimp only[qBeg] at hLb hRb ⊢
 have hn64:2^t≤64:=Nat.le_trans (Nat.pow_le_pow_right (by decide) ht) (by decide)
 have hn0:0<2^t:=Nat.pow_pos (by decide)
 have hG:=gd_left C hP.1 (2^t)
 have hH:=gd_right C hP.1 (2^t)
 have hU:=tl_inner C hP.1
 have hHv:=fun W=>halv_c (2^t) (pow_of t ht) W
 rw[hv_pow t ht] at hHv
 have hGr:=fun W=>groundOf_c (P:=P) C (2^t) (by omega) W
 have hu1:(uGT P).length=1:=rfl
 obtain ⟨l,cH,cP⟩:=side_c (Q:=fun _=>True) C O hord hn0 (by decide) (by omega) hG hH hU (by rw[hu1];decide) (by rw[hu1];decide) a b
 have hX0:hidX C hord a b (2^t)=(ptMd C hord).hd a b (gPt C ⟨#[108,101,102,116]⟩) (gPt C ⟨#[114,105,103,104,116]⟩) (uPt C) (2^t):=rfl
 have sX:(wP (hidX C hord a b (2^t))).size=33:=wr_size _
 rw[← hX0] at cP
 obtain ⟨X,hX⟩:∃ X,X=wP (hidX C hord a b (2^t)):=⟨_,rfl⟩
 rw[← hX] at hLb hRb sX
 rw[← hX]
 have cP':∀ (W:World) (v:Value),Sm 0 W v l→Calls Tryz.prog 19 #[v] W (Ret fun e w'=>Below W.heap.size W w'∧e=pvl X):=by rw[hX];exact cP
 have hu0:0<(uGT P).length:=by rw[hu1];decide
 have hu9:(uGT P).length≤16:=by rw[hu1];decide
 have cL:=fun (W:World)=>pLog_c label hlab X sX W
 have sL:(pLog label.data.toList X).size=32:=pLog_size _ _
 generalize pLog label.data.toList X=L0 at cL sL hLb hRb ⊢
 obtain ⟨q,hq⟩:∃ q:Md.Ps Bs (Fin N) (OnP P),q=⟨L0,a,b,gPt C ⟨#[108,101,102,116]⟩,gPt C ⟨#[114,105,103,104,116]⟩⟩:=⟨_,rfl⟩
 rw[← hq] at hLb hRb
 rw[← hq]
 have qs:q.s=L0:=by rw[hq]
 have qa:q.a=a:=by rw[hq]
 have qb:q.b=b:=by rw[hq]
 have qg:q.g=gPt C ⟨#[108,101,102,116]⟩:=by rw[hq]
 have qh:q.h=gPt C ⟨#[114,105,103,104,116]⟩:=by rw[hq]
 clear hq
 rw[← qg] at hG
 rw[← qh] at hH
 have cV:∀ (r:Nat) (v va vb:Value) (W:World),Holds encB W r 0 L0→GRq (·≠r) W v (2^t) (gGT P) (hGT P) (uGT P)→SLq (·≠r) W va (2^t) (fun i=>(a i).val)→SLq (·≠r) W vb (2^t) (fun i=>(b i).val)→Calls Tryz.prog 21 #[lgV r,v,va,vb] W (Ret fun e w'=>∃ S,PhR W r t Lb Rb S (bx (((ptMd C hord).pst (chF N) ivF (uPt C) t q t).a 0).val) (bx (((ptMd C hord).pst (chF N) ivF (uPt C) t q t).b 0).val) e w'):=fun r v va vb W hL hv hva hvb=>by
  refine (provH_c C O hord hP t ht q (uPt C) (gGT P) (hGT P) (uGT P) hG hH hU hu0 hu9 Lb Rb hLb hRb r v va vb W (by rw[qs];exact hL) (by rw[qs];exact sL) hv (by rw[qa];exact hva) (by rw[qb];exact hvb)).mono ?_
  rintro e w' ⟨x,rfl,h⟩
  exact ⟨_,rfl,_,h⟩
 generalize bx (((ptMd C hord).pst (chF N) ivF (uPt C) t q t).a 0).val=AA at cV ⊢
 generalize bx (((ptMd C hord).pst (chF N) ivF (uPt C) t q t).b 0).val=BB at cV ⊢
 have cA:=fun (W:World) (hB:Below w.heap.size w W)=>allS_y O (2^t) c1 (by omega) q1 LA (fun j=>(a j).val) W (args_below h1 hB) ha
 have cB:=fun (W:World) (hB:Below w.heap.size w W)=>allS_y O (2^t) c2 (by omega) q2 LB (fun j=>(b j).val) W (args_below h2 hB) hb
 generalize gGT P=G at hGr cH cV
 generalize hGT P=H at hGr cH cV
 generalize uGT P=U at hGr cH cV
 obtain ⟨n,hn⟩:∃ n,2^t=n:=⟨_,rfl⟩
 rw[hn] at hHv hGr cH cV cA cB hn64 hn0
 rw[hn]
 clear hG hH hU hX hX0 hu1 hu0 hu9 h1 h2 ha hb hLb hRb cP O hP hn qs qa qb qg qh sL
 have HX:=Hid.mk' (And.intro hHv (And.intro hGr (And.intro cH (And.intro cP' (And.intro cV (And.intro cA (And.intro cB cL)))))))
 clear hHv hGr cH cP' cV cA cB cL
 obtain ⟨k7,hk7⟩:∃ k,Hid (w.heap.size=k):=⟨_,rfl⟩
 obtain ⟨w1,hw1⟩:∃ w1,Hid (w.alloc (.cells #[.slice none 0 0,.slice none 0 0,.slice none 0 0,.slice none 0 0] 26)=w1):=⟨_,rfl⟩
 have K1:Hid (Below w.heap.size w w1∧Row w1 k7 [.slice none 0 0,.slice none 0 0,.slice none 0 0,.slice none 0 0]):=by rw[← hw1.out,← hk7.out];exact ⟨below1 _ _,row_new w _ _⟩
 go_enter Tryz.func6,Tryz.ntmps6
 go_wp2_with (first|(refine wpList_al (v:=.pointer (some ⟨k7,0,none⟩)) (w':=w1) rfl 26 7 rfl rfl ?_ ?_;(rw[← hw1.out,← hk7.out];kernel_rfl))|fail)
 refine (HX.out.1 w1).mono ?_
 rintro e w2 ⟨uu,rfl,hb2,rfl⟩
 have K2:Hid (Below w.heap.size w w2∧Row w2 k7 [.slice none 0 0,.slice none 0 0,.slice none 0 0,.slice none 0 0]):=⟨K1.out.1.trans (hb2.mono K1.out.1.size),K1.out.2.below hb2⟩
 clear hb2 K1
 go_wp2_with fail
 refine (HX.out.2.2.2.2.2.1 w2 K2.out.1).mono ?_
 rintro e w3 ⟨uu,rfl,hb3,ka,rfl,hSa⟩
 have K3:Hid (Below w.heap.size w w3∧Row w3 k7 [.slice none 0 0,.slice none 0 0,.slice none 0 0,.slice none 0 0]∧SLq (k7 < ·) w3 (.slice (some ⟨ka,0,none⟩) n n) n (fun j=>(a j).val)):=⟨K2.out.1.trans (hb3.mono K2.out.1.size),K2.out.2.below hb3,hSa.mono fun g hg=>Nat.lt_of_lt_of_le K2.out.2.1 hg⟩
 clear hb3 hSa K2
 go_wp2_with fail
 refine (HX.out.2.2.2.2.2.2.1 w3 K3.out.1).mono ?_
 rintro e w4 ⟨uu,rfl,hb4,kb,rfl,hSb⟩
 have K4:Hid (Below w.heap.size w w4∧Row w4 k7 [.slice none 0 0,.slice none 0 0,.slice none 0 0,.slice none 0 0]∧SLq (k7 < ·) w4 (.slice (some ⟨ka,0,none⟩) n n) n (fun j=>(a j).val)∧SLq (k7 < ·) w4 (.slice (some ⟨kb,0,none⟩) n n) n (fun j=>(b j).val)):=⟨K3.out.1.trans (hb4.mono K3.out.1.size),K3.out.2.1.below hb4,K3.out.2.2.keep (Kq.of_below hb4),hSb.mono fun g hg=>Nat.lt_of_lt_of_le K3.out.2.1.1 hg⟩
 clear hb4 hSb K3
 go_wp2_with fail
 refine (HX.out.2.1 w4).mono ?_
 rintro e w5 ⟨vg,rfl,hb5,hG5⟩
 obtain ⟨eg,hev,hevs,heva⟩:=hG5.ar
 subst hev
 obtain ⟨k15,hk15⟩:∃ k,Hid (w5.heap.size=k):=⟨_,rfl⟩
 obtain ⟨w6,hw6⟩:∃ W,Hid (w5.alloc (.cells #[.slice none 0 0,.slice none 0 0,.slice none 0 0] 58)=W):=⟨_,rfl⟩
 obtain ⟨w7,hw7⟩:∃ W,Hid (w6.setCells k15 0 eg.toList=W):=⟨_,rfl⟩
 have F6:Hid (Row w6 k15 [.slice none 0 0,.slice none 0 0,.slice none 0 0]∧Below w5.heap.size w5 w6):=by rw[← hw6.out,← hk15.out];exact ⟨row_new w5 _ _,below1 _ _⟩
 have b7:Below w5.heap.size w5 w7:=by rw[← hw7.out];exact RG.below_setCells (by rw[hk15.out];exact Nat.le_refl _) _ _ _ F6.out.2
 have b47:Below w4.heap.size w4 w7:=hb5.trans (b7.mono hb5.size)
 have K7:Hid (Below w.heap.size w w7∧Row w7 k7 [.slice none 0 0,.slice none 0 0,.slice none 0 0,.slice none 0 0]∧SLq (k7 < ·) w7 (.slice (some ⟨ka,0,none⟩) n n) n (fun j=>(a j).val)∧SLq (k7 < ·) w7 (.slice (some ⟨kb,0,none⟩) n n) n (fun j=>(b j).val)∧GRq (k7 < ·) w7 (.agg eg) n G H U∧Row w7 k15 eg.toList∧k7<k15):=⟨K4.out.1.trans (b47.mono K4.out.1.size),K4.out.2.1.below b47,K4.out.2.2.1.keep (Kq.of_below b47),K4.out.2.2.2.keep (Kq.of_below b47),(hG5.keep (Kq.of_below b7)).mono fun g hg=>Nat.lt_of_lt_of_le K4.out.2.1.1 hg,by rw[← hw7.out];exact F6.out.1.put (by rw[Array.length_toList,hevs];rfl),by rw[← hk15.out];exact Nat.lt_of_lt_of_le K4.out.2.1.1 hb5.size⟩
 have HE:Hid (eg.size=3∧eg.all (·.oneCell')=true∧w6.there k15 0 eg.size∧(Tryz.prog.info? 58).map (·.size)=some eg.size∧(Tryz.prog.info? 58).map (·.size)=some eg.toList.length):=⟨hevs,heva,by rw[hevs];exact F6.out.1.2.2,by rw[hevs];exact iGr,by rw[Array.length_toList,hevs];exact iGr⟩
 obtain ⟨yg,hyg⟩:∃ y,Hid (Value.agg eg=y):=⟨_,rfl⟩
 obtain ⟨dG,hdG1,hdG2⟩:=Option.map_eq_some_iff.1 uGr
 have HDG:Hid (Tryz.prog.underlying 58=some dG∧dG.isRow=true):=⟨hdG1,hdG2⟩
 have cHd:Hid (Calls Tryz.prog 18 #[yg,.slice (some ⟨ka,0,none⟩) n n,.slice (some ⟨kb,0,none⟩) n n] w7 (Ret fun e w'=>Below w7.heap.size w7 w'∧Sm w7.heap.size w' e l)):=by
  rw[← hyg.out]
  exact HX.out.2.2.1 w7 _ _ _ (K7.out.2.2.2.2.1.mono fun _ _=>trivial) (K7.out.2.2.1.mono fun _ _=>trivial) (K7.out.2.2.2.1.mono fun _ _=>trivial)
 rw[hyg.out]
 clear hb5 hG5 hevs heva b7 b47 K4 hdG1 hdG2
 go_wp2_with (first|(refine wpList_al (v:=.pointer (some ⟨k15,0,none⟩)) (w':=w6) rfl 58 15 rfl rfl ?_ ?_;(rw[← hw6.out,← hk15.out];kernel_rfl))|(refine wpList_store_mid rfl 58 (.tmp 15) _ rfl k15 0 eg ?_ ?_ ?_ ?_ ?_ ?_;rfl;exact hyg.out.symm;exact HE.out.2.2.1;exact HE.out.2.2.2.1;exact HE.out.2.1;rw[hw7.out])|(refine wpList_load_mid rfl 58 (.tmp 15) rfl k15 0 ?_ eg.toList dG ?_ ?_ ?_ ?_ ?_;rfl;exact K7.out.2.2.2.2.2.1.2.1;exact HDG.out.1;exact HDG.out.2;exact HE.out.2.2.2.2;rw[show Value.agg eg.toList.toArray=yg from hyg.out])|fail)
 refine cHd.out.mono ?_
 rintro e w8 ⟨vs,rfl,hb8,hS8⟩
 have hSm:Sm 0 w8 vs l:=by
  obtain ⟨g,c,x1,x2,-,x4⟩:=hS8
  exact ⟨g,c,x1,x2,Nat.zero_le _,x4⟩
 have cPt:=Hid.mk' (HX.out.2.2.2.1 w8 vs hSm)
 have HB8:=Hid.mk' hb8
 clear hb8 hS8 hSm cHd F6 hw6 hw7
 go_wp2_with fail
 refine cPt.out.mono ?_
 rintro e w9 ⟨uu,rfl,hb9,rfl⟩
 obtain ⟨k16,hk16⟩:∃ k,Hid (w9.heap.size=k):=⟨_,rfl⟩
 obtain ⟨wa,hwa⟩:∃ W,Hid (w9.alloc (.cells z33.toArray 61)=W):=⟨_,rfl⟩
 obtain ⟨wb,hwb⟩:∃ W,Hid (wa.setCells k16 0 (bl33 X)=W):=⟨_,rfl⟩
 have Fa:Hid (Row wa k16 z33∧Below w9.heap.size w9 wa):=by rw[← hwa.out,← hk16.out];exact ⟨row_new w9 _ _,below1 _ _⟩
 have hlx:(bl33 X).length=33:=bl33_length sX
 have bb9:Below w9.heap.size w9 wb:=by rw[← hwb.out];exact RG.below_setCells (by rw[hk16.out];exact Nat.le_refl _) _ _ _ Fa.out.2
 have b7b:Below w7.heap.size w7 wb:=(HB8.out.trans (hb9.mono HB8.out.size)).trans (bb9.mono (Nat.le_trans HB8.out.size hb9.size))
 have KB:Hid (Below w.heap.size w wb∧Row wb k7 [.slice none 0 0,.slice none 0 0,.slice none 0 0,.slice none 0 0]∧SLq (k7 < ·) wb (.slice (some ⟨ka,0,none⟩) n n) n (fun j=>(a j).val)∧SLq (k7 < ·) wb (.slice (some ⟨kb,0,none⟩) n n) n (fun j=>(b j).val)∧GRq (k7 < ·) wb (.agg eg) n G H U∧Row wb k15 eg.toList∧Row wb k16 (bl33 X)∧k7<k15∧k7<k16):=⟨K7.out.1.trans (b7b.mono K7.out.1.size),K7.out.2.1.below b7b,K7.out.2.2.1.keep (Kq.of_below b7b),K7.out.2.2.2.1.keep (Kq.of_below b7b),K7.out.2.2.2.2.1.keep (Kq.of_below b7b),K7.out.2.2.2.2.2.1.below b7b,by rw[← hwb.out];exact Fa.out.1.put (by rw[hlx];rfl),K7.out.2.2.2.2.2.2,by rw[← hk16.out];exact Nat.lt_of_lt_of_le K7.out.2.1.1 (Nat.le_trans HB8.out.size hb9.size)⟩
 have HX3:Hid (wa.there k16 0 (bl33 X).toArray.size∧(Tryz.prog.info? 61).map (·.size)=some (bl33 X).toArray.size):=by
  rw[List.size_toArray,hlx]
  exact ⟨Fa.out.1.2.2,iCP⟩
 obtain ⟨pX,hpX⟩:∃ v,Hid (pvl X=v):=⟨_,rfl⟩
 rw[hpX.out]
 clear hb9 hlx bb9 b7b K7 cPt HB8
 go_wp2_with (first|(refine wpList_al (v:=.pointer (some ⟨k16,0,none⟩)) (w':=wa) rfl 61 16 rfl rfl ?_ ?_;(rw[← hwa.out,← hk16.out];kernel_rfl))|(refine wpList_store_mid rfl 61 (.tmp 16) _ rfl k16 0 (bl33 X).toArray ?_ ?_ ?_ ?_ ?_ ?_;rfl;exact hpX.out.symm;exact HX3.out.1;exact HX3.out.2;exact bl33_one X;rw[show (bl33 X).toArray.toList=bl33 X from rfl,hwb.out])|fail)
 simp only[Act.put,List.setIfInBounds_toArray,List.set_cons_succ,List.set_cons_zero]
 clear Fa HX3 hwa hwb hk16 hk15 HDG
 obtain ⟨dP,hdP1,hdP2⟩:=Option.map_eq_some_iff.1 uCP
 obtain ⟨dG,hdG1,hdG2⟩:=Option.map_eq_some_iff.1 uGr
 have iX33:(Tryz.prog.info? 61).map (·.size)=some (bl33 X).length:=by rw[bl33_length sX];exact iCP
 have Sb:wb.drew.rangeAt k16 0 (bl33 X)∧wb.drew.rangeAt k15 0 eg.toList:=⟨KB.out.2.2.2.2.2.2.1.2.1,KB.out.2.2.2.2.2.1.2.1⟩
 have hSk:∀ W W':World,W'.heap[k16]? = W.heap[k16]?→W'.heap[k15]? = W.heap[k15]?→W.rangeAt k16 0 (bl33 X)∧W.rangeAt k15 0 eg.toList→W'.rangeAt k16 0 (bl33 X)∧W'.rangeAt k15 0 eg.toList:=fun W W' e1 e2 h=>⟨fun j u hj=>by rw[World.cell?_of_block (a:=⟨k16,0+j,none⟩) e1];exact h.1 j u hj,fun j u hj=>by rw[World.cell?_of_block (a:=⟨k15,0+j,none⟩) e2];exact h.2 j u hj⟩
 refine anyS.begin (fun _ W=>W.rangeAt k16 0 (bl33 X)∧W.rangeAt k15 0 eg.toList) (by kernel_rfl) ?_
 have bS:∀ (p:Nat),Bef (fun _ W=>World.rangeAt W k16 0 (bl33 X)∧World.rangeAt W k15 0 eg.toList) p wb.drew:=fun p=>⟨#[],by simp,Sb⟩
 refine anyS.row (i:=0) (d:=some 58) (cs:=bl33 X) rfl 10 (fun _ _ h=>h) 61 16 k16 0 dP rfl hdP1 hdP2 iX33 (fun W ⟨l,e,h⟩=>h.1) (bS 10) Sb ?_
 simp only[Act.put,List.setIfInBounds_toArray,List.set_cons_succ,List.set_cons_zero]
 refine anyS.val (i:=2) (d:=some 60) (x:=.string label) rfl 10 (fun _ _ h=>h) (bS 10) Sb ?_
 simp only[Act.put,List.setIfInBounds_toArray,List.set_cons_succ,List.set_cons_zero]
 refine anyS.row (i:=3) (d:=some 61) (cs:=bl33 X) rfl 10 (fun _ _ h=>h) 61 16 k16 0 dP rfl hdP1 hdP2 iX33 (fun W ⟨l,e,h⟩=>h.1) (bS 10) Sb ?_
 simp only[Act.put,List.setIfInBounds_toArray,List.set_cons_succ,List.set_cons_zero]
 refine anyS.row (i:=5) (d:=some 63) (cs:=eg.toList) rfl 10 (fun _ _ h=>h) 58 15 k15 0 dG rfl hdG1 hdG2 HE.out.2.2.2.2 (fun W ⟨l,e,h⟩=>h.2) (bS 10) Sb ?_
 simp only[Act.put,List.setIfInBounds_toArray,List.set_cons_succ,List.set_cons_zero]
 refine anyS.val (i:=6) (d:=some 64) (x:=.slice (some ⟨ka,0,none⟩) n n) rfl 10 (fun _ _ h=>h) (bS 10) Sb ?_
 simp only[Act.put,List.setIfInBounds_toArray,List.set_cons_succ,List.set_cons_zero]
 refine anyS.val (i:=7) (d:=some 65) (x:=.slice (some ⟨kb,0,none⟩) n n) rfl 10 (fun _ _ h=>h) (bS 10) Sb ?_
 simp only[Act.put,List.setIfInBounds_toArray,List.set_cons_succ,List.set_cons_zero]
 clear bS
 refine anyS.cal (i:=1) (d:=some 59) rfl (ptBytesQ_c sX wb.drew) (fun xa Wa hRa=>?_)
 have hbd:Below wb.heap.size wb Wa:=((Below.refl wb.heap.size wb).drew).trans hRa.1
 have KC:Hid (Below w.heap.size w Wa∧Row Wa k7 [.slice none 0 0,.slice none 0 0,.slice none 0 0,.slice none 0 0]∧SLq (k7 < ·) Wa (.slice (some ⟨ka,0,none⟩) n n) n (fun j=>(a j).val)∧SLq (k7 < ·) Wa (.slice (some ⟨kb,0,none⟩) n n) n (fun j=>(b j).val)∧GRq (k7 < ·) Wa (.agg eg) n G H U∧k15<Wa.heap.size∧k16<Wa.heap.size∧ElQ (k7 < ·) 33 Wa xa X):=⟨KB.out.1.trans (hbd.mono KB.out.1.size),KB.out.2.1.below hbd,KB.out.2.2.1.keep (Kq.of_below hbd),KB.out.2.2.2.1.keep (Kq.of_below hbd),KB.out.2.2.2.2.1.keep (Kq.of_below hbd),Nat.lt_of_lt_of_le KB.out.2.2.2.2.2.1.1 hbd.size,Nat.lt_of_lt_of_le KB.out.2.2.2.2.2.2.1.1 hbd.size,hRa.2.mono2 fun g _ hg=>Nat.lt_of_lt_of_le KB.out.2.1.1 hg⟩
 have Sa:=hSk _ _ (hbd.block k16 KB.out.2.2.2.2.2.2.1.1) (hbd.block k15 KB.out.2.2.2.2.2.1.1) Sb
 have hkk:=KB.out.2.2.2.2.2.2.2
 refine ⟨Sa,?_⟩
 clear hRa hbd Sb KB
 simp only[Act.put,List.setIfInBounds_toArray,List.set_cons_succ,List.set_cons_zero]
 refine anyS.cal (i:=4) (d:=some 62) rfl (HX.out.2.2.2.2.2.2.2 Wa) ?_
 rintro xl Wl ⟨hbl,r,rfl,hr1,hr2,hLr⟩
 have nr:∀ g,g<Wa.heap.size→k7<g→g≠r:=fun g hg _ e=>by omega
 have KL:Hid (Below w.heap.size w Wl∧Row Wl k7 [.slice none 0 0,.slice none 0 0,.slice none 0 0,.slice none 0 0]∧SLq (·≠r) Wl (.slice (some ⟨ka,0,none⟩) n n) n (fun j=>(a j).val)∧SLq (·≠r) Wl (.slice (some ⟨kb,0,none⟩) n n) n (fun j=>(b j).val)∧GRq (·≠r) Wl (.agg eg) n G H U∧k15<Wl.heap.size∧k16<Wl.heap.size∧k15≠r∧k16≠r∧k7<r∧ElQ (fun g=>k7<g∧g≠r) 33 Wl xa X):=⟨KC.out.1.trans (hbl.mono KC.out.1.size),KC.out.2.1.below hbl,(KC.out.2.2.1.mono2 nr).keep (Kq.of_below hbl),(KC.out.2.2.2.1.mono2 nr).keep (Kq.of_below hbl),(KC.out.2.2.2.2.1.mono2 nr).keep (Kq.of_below hbl),Nat.lt_of_lt_of_le KC.out.2.2.2.2.2.1 hbl.size,Nat.lt_of_lt_of_le KC.out.2.2.2.2.2.2.1 hbl.size,nr _ KC.out.2.2.2.2.2.1 hkk.1,nr _ KC.out.2.2.2.2.2.2.1 hkk.2,Nat.lt_of_lt_of_le KC.out.2.1.1 hr1,(KC.out.2.2.2.2.2.2.2.mono2 fun g h1 h2=>⟨h2,nr g h1 h2⟩).keep (Kq.of_below hbl)⟩
 have Sl:=hSk _ _ (hbl.block k16 KC.out.2.2.2.2.2.2.1) (hbl.block k15 KC.out.2.2.2.2.2.1) Sa
 refine ⟨Sl,?_⟩
 clear KC hbl nr Sa
 simp only[Act.put,List.setIfInBounds_toArray,List.set_cons_succ,List.set_cons_zero]
 refine anyS.cal (i:=8) (d:=some 66) rfl (HX.out.2.2.2.2.1 r (.agg eg) _ _ Wl hLr KL.out.2.2.2.2.1 KL.out.2.2.1 KL.out.2.2.2.1) ?_
 rintro xv Wv ⟨SS,hPh⟩
 have hOn:=hPh.on
 obtain ⟨vL,vR,vA,vB,rfl,tL,tR,eA,eB⟩:=hPh.ex
 have Sv:=hSk _ _ (hOn.block k16 KL.out.2.2.2.2.2.2.1 KL.out.2.2.2.2.2.2.2.2.1) (hOn.block k15 KL.out.2.2.2.2.2.1 KL.out.2.2.2.2.2.2.2.1) Sl
 have hwB:Below w.heap.size w Wv:=KL.out.1.trans (only_new hOn KL.out.1.size (by rw[hk7.out];exact Nat.le_of_lt KL.out.2.2.2.2.2.2.2.2.2.1))
 have hrV:Row Wv k7 [.slice none 0 0,.slice none 0 0,.slice none 0 0,.slice none 0 0]:=row_same KL.out.2.1 hOn.size (hOn.block k7 KL.out.2.1.1 (Nat.ne_of_lt KL.out.2.2.2.2.2.2.2.2.2.1))
 have hEp:ElQ (k7 < ·) 33 Wv xa X:=(KL.out.2.2.2.2.2.2.2.2.2.2.keep (Kq.of_only hOn fun g h=>h.2)).mono2 fun g _ h=>h.1
 have hFin:=pi_fin hk7.out KL.out.2.1.1 hwB hrV hEp tL tR eA eB
 have hth:Wv.there k7 0 4:=hrV.2.2
 refine ⟨Sv,?_⟩
 have Sw:=hSk _ _ (RG.setCells_other k7 [vL,vR,vA,vB] 0 Wv k16 (by omega)) (RG.setCells_other k7 [vL,vR,vA,vB] 0 Wv k15 (by omega)) Sv
 clear KL hPh hOn tL tR eA eB hwB hrV hEp Sl hLr
 simp only[Act.put,List.setIfInBounds_toArray,List.set_cons_succ,List.set_cons_zero]
 refine anyS.nxt (i:=9) (d:=some 6) (x:=xa) rfl Sv ?_
 simp only[Act.put,List.setIfInBounds_toArray,List.set_cons_succ,List.set_cons_zero]
 refine anyS.sta (i:=10) (d:=none) rfl 26 (.tmp 7) (.tmp 66) rfl k7 0 #[vL,vR,vA,vB] hFin.2.2 hth iInn Sw ?_
 simp only[Act.put,List.setIfInBounds_toArray,List.set_cons_succ,List.set_cons_zero]
 refine anyS.nxt (i:=11) (d:=some 8) (x:=.int .i64 0) rfl Sw ?_
 simp only[Act.put,List.setIfInBounds_toArray,List.set_cons_succ,List.set_cons_zero]
 refine anyS.fin (by kernel_rfl) ?_ _
 intro WZ hWZ
 have hRow:Row WZ k7 [vL,vR,vA,vB]:=by rw[hWZ];exact hFin.1
 have hRes:Hid (PiR w t X Lb Rb AA BB (.tuple #[xa,.agg #[vL,vR,vA,vB],.int .i64 0]) WZ):=by rw[hWZ];exact hFin.2.1
 clear hFin hWZ Sw Sv hSk hth hdP1 hdP2 hdG1 hdG2 iX33 HX
 go_wp2_with fail
 refine bodyPost_ret (results_tct 6 7 8 26 rfl hRow rfl rfl rfl uInn iInn) rfl ?_
 exact ⟨_,rfl,hRes.out⟩
end
section
open Go.RowKit Go.Sort Go.Deep Go.Shelf
attribute [local go_sem] Oper.semAt_some
end
section
open Go.RowKit Go.Sort Go.Deep Go.Shelf
attribute [local go_sem] Oper.semAt_some
end
section
open Go.RowKit Go.Sort Go.Deep
variable {P:Nat} [NeZero P] {N:Nat}
def zz (n:Nat):List Value:=(List.replicate n (Value.int .u8 0))
def o33:Bs:=Array.replicate 33 0
theorem o33_pvl:(.agg z33.toArray:Value)=pvl o33:=by
 unfold pvl z33 o33 bl33
 rw[Array.toList_replicate,List.map_replicate]
 rfl
end
section
open Go.RowKit Go.Sort Go.Deep
variable {P:Nat} [NeZero P] {N:Nat}
section
variable (w:World) (k6 k8 k9 k10 x kk c z B0:Nat) (X A B F G:Bs)
end
end
section
open Go.RowKit Go.Sort Go.Deep
variable {P:Nat} [NeZero P] {N:Nat}
end
section
open Go.RowKit Go.Sort Go.Deep
variable {P:Nat} [NeZero P] {N:Nat}
theorem Sm.mono {B B':Nat} {W:World} {v:Value} {l:List (Nat × Bs)} (h:Sm B W v l) (hb:B'≤B):Sm B' W v l:=by
 obtain ⟨g,c,h1,h2,h3,h4⟩:=h
 exact ⟨g,c,h1,h2,Nat.le_trans hb h3,h4⟩
section
variable (w:World) (k6 k8 n:Nat) (Y A T:Bs)
def Rb:Nat→Value→World→Prop
 | 0,v,_=>v=pvl Y
 | 1,v,W=>Sm w.heap.size W v [(1,Y)]
 | 2,v,_=>v=pvl A
 | 3,v,_=>v=nv n
 | 4,v,W=>Sm w.heap.size W v [(n,A)]
 | 5,v,W=>Sm w.heap.size W v [(1,Y),(n,A)]
 | 6,v,_=>v=pvl T
 | 7,v,W=>El 33 W v T
 | 8,v,W=>El 33 W v T
 | 9,v,_=>v=.int .i64 0
 | _,_,_=>True
end
end
section
open Go.RowKit Go.Sort Go.Deep
variable {P:Nat} [NeZero P] {N:Nat}
end
section
open Go.RowKit Go.Sort Go.Deep
variable {P:Nat} [NeZero P] {N:Nat}
theorem sumMinus_c (O:Ord N) (B:Nat) (s t:Value) (l m:List (Nat × Bs)) (hl0:0<l.length) (hl:l.length≤500) (hm:m.length≤500) (hl3:∀ x∈l,x.2.size=33) (hm3:∀ x∈m,x.2.size=33) (hmN:∀ x∈m,x.1<N) (w:World) (hB:B≤w.heap.size) (h1:Sm B w s l) (h2:Sm B w t m) :
 Calls Tryz.prog 63 #[s,t] w (Ret fun e w'=>Below w.heap.size w w'∧Sm w.heap.size w' e (l++m.map (tmT N (sMi N 0 1)))):=by
 have h1N:1<N:=by have:2≤N:=Nat.le_trans O.n2 (Nat.mod_le _ _);omega
 have HOp:=Hid.mk' (opp1_c O h1N)
 have hoN:sMi N 0 1<N:=Nat.mod_lt _ O.pos
 generalize sMi N 0 1=o at HOp hoN ⊢
 have HT:Hid (∀ W,Below w.heap.size w W→Calls Tryz.prog 47 #[t,nv o] W (Ret fun e w'=>Below W.heap.size W w'∧Sm W.heap.size w' e (m.map (tmT N o)))):=fun W hb=>by
  have h33:∀ x∈m.map (·.2),x.size=33:=fun x hx=>by obtain ⟨y,hy,rfl⟩:=List.mem_map.1 hx;exact hm3 y hy
  exact sumTimes_c O hoN B t m (by omega) h33 hmN W (h2.grow hb)
 have HP:Hid (∀ W v,Below w.heap.size w W→Sm w.heap.size W v (m.map (tmT N o))→Calls Tryz.prog 46 #[s,v] W (Ret fun e w'=>Below W.heap.size W w'∧Sm W.heap.size w' e (l++m.map (tmT N o)))):=fun W v hb hv=>by
  refine sumPlus_c B s v l (m.map (tmT N o)) hl0 hl (by rw[List.length_map];exact hm) hl3 (fun x hx=>?_) W (h1.grow hb) (hv.mono hB)
  obtain ⟨y,hy,rfl⟩:=List.mem_map.1 hx
  exact hm3 y hy
 obtain ⟨gs,cs,es,-⟩:=id h1
 obtain ⟨gt,ct,et,-⟩:=id h2
 subst es
 subst et
 obtain ⟨v1,hv1⟩:∃ v,Hid (nv 1=v):=⟨_,rfl⟩
 obtain ⟨vo,hvo⟩:∃ v,Hid (nv o=v):=⟨_,rfl⟩
 rw[hv1.out,hvo.out] at HOp
 rw[hvo.out] at HT
 have H1:=Hid.mk' (of1_c)
 rw[hv1.out] at H1
 clear O h1N hoN hl3 hm3 hmN h1 h2
 go_enter Tryz.func63,Tryz.ntmps63
 go_wp2_with fail
 refine (H1.out w).mono ?_
 rintro e w1 ⟨vv,rfl,hb1,rfl⟩
 go_wp2_with fail
 refine (HOp.out w1).mono ?_
 rintro e w2 ⟨vv,rfl,hb2,rfl⟩
 have B2:Hid (Below w.heap.size w w2):=hb1.trans (hb2.mono hb1.size)
 clear hb1 hb2
 go_wp2_with fail
 refine (HT.out w2 B2.out).mono ?_
 rintro e w3 ⟨v3,rfl,hb3,hS3⟩
 have B3:Hid (Below w.heap.size w w3∧Sm w.heap.size w3 v3 (m.map (tmT N o))):=⟨B2.out.trans (hb3.mono B2.out.size),hS3.mono B2.out.size⟩
 clear hb3 hS3 B2
 go_wp2_with fail
 refine (HP.out w3 v3 B3.out.1 B3.out.2).mono ?_
 rintro e w4 ⟨v4,rfl,hb4,hS4⟩
 have B4:Hid (Below w.heap.size w w4∧Sm w.heap.size w4 v4 (l++m.map (tmT N o))):=⟨B3.out.1.trans (hb4.mono B3.out.1.size),hS4.mono B3.out.1.size⟩
 clear hb4 hS4 B3
 go_wp2
 go_ret
 exact ⟨_,rfl,B4.out.1,B4.out.2⟩
section
variable (w:World) (K k8 n o:Nat) (S Q T:Bs)
end
end
section
open Go.RowKit Go.Sort Go.Deep
variable {P:Nat} [NeZero P] {N:Nat}
def encV (v:Value):Value:=v
omit [NeZero P] in
theorem wr_none:(wr (none:EC.Pt P))=o33:=by
 show zs33=o33
 decide +kernel
end
section
open Go.RowKit Go.Sort Go.Deep
namespace RG
section
variable {P:Program} {ops:Array Oper} {Q:Exit→Act→World→Prop} {w0 w:World} {k0:Nat} {X:List Nat} {its:List It} {bl:List Bl} {olds:List (Tmp × SV)} {a:Act} {i:Nat} {o:Oper} {it:It}
end
end RG
variable {P:Nat} [NeZero P] {N:Nat}
end
section
open Go.RowKit Go.Sort Go.Deep
variable {P:Nat} [NeZero P] {N:Nat}
theorem allP_nil (q:Option Addr) (c:Nat) (w:World):Calls Tryz.prog 60 #[.func (.func 23) #[] #[],.slice q 0 c] w (Ret fun e w'=>Below w.heap.size w w'∧∃ K,e=.tuple #[.slice (some ⟨K,0,none⟩) 0 0,.bool true]):=by
 obtain ⟨C0,hC0,hmk⟩:=mkPL 0 (by decide)
 have hmk':(Instr.makeSlice 74 (.int .i64 0) (.int .i64 0)).run Tryz.prog w=.ok (.slice (some ⟨w.heap.size,0,none⟩) 0 0) (w.alloc (.cells C0.toArray 61)):=hmk w
 obtain ⟨w1,hw1⟩:∃ w1,Hid (w.alloc (.cells C0.toArray 61)=w1):=⟨_,rfl⟩
 rw[hw1.out] at hmk'
 have K1:Hid (Below w.heap.size w w1):=by rw[← hw1.out];exact below1 _ _
 clear hmk hC0 hw1
 go_enter Tryz.func60,Tryz.ntmps60
 go_wp2
 clear hmk'
 go_loopg [16] 0 (fun m s16 W=>s16=.int .i64 0∧Hid (Below w.heap.size w W))
 case atStart=>exact ⟨rfl,K1.out⟩
 case round =>
  clear K1
  obtain ⟨rfl,KM⟩:=hrel
  go_wp2
  go_ret2
  exact ⟨_,rfl,KM.out,_,rfl⟩
end
section
open Go.RowKit Go.Sort Go.Deep SPA
variable {P:Nat} [NeZero P] {N:Nat} [NeZero N]
theorem addPQ (g j:Nat):(⟨g,0,none⟩:Addr).add j=⟨g,j,none⟩:=by
 simp[Addr.add]
 exact fun h=>h.symm
theorem own_cellQ {W:World} {base n g c:Nat} {e:TypeId} {xs:List Value} (h:W.ownsRow base e 1 (.slice (some ⟨g,0,none⟩) n c) n xs) {j:Nat} {u:Value} (hu:xs[j]? = some u):W.cell? ⟨g,j,none⟩=some u:=by
 have:=h.cells (g:=g) rfl j u hu
 rw[addPQ] at this
 exact this
theorem own_shapeQ {W:World} {base n:Nat} {e:TypeId} {v:Value} {xs:List Value} (h:W.ownsRow base e 1 v n xs) (hn:0<n):∃ g c,v=.slice (some ⟨g,0,none⟩) n c:=by
 rcases h with ⟨-,⟨-,h0⟩|⟨g,cap,cur,rfl,-⟩⟩
 ·omega
 ·exact ⟨g,cap,rfl⟩
def PtL (Q:Nat→Prop) (W:World) (K t:Nat) (B:Nat→Bs):Prop:=∀ j,j<t→Q K∧K<W.heap.size∧W.rangeAt K (33*j) (bl33 (B j))
theorem PtL.keep {Q:Nat→Prop} {W W':World} {K t:Nat} {B:Nat→Bs} (h:PtL Q W K t B) (hk:Kq Q W W'):PtL Q W' K t B:=fun j hj=>by
 obtain ⟨h1,h2,h3⟩:=h j hj
 refine ⟨h1,Nat.lt_of_lt_of_le h2 hk.size,fun i u hu=>?_⟩
 rw[World.cell?_of_block (a:=⟨K,33*j+i,none⟩) (hk.block K h1 h2)]
 exact h3 i u hu
theorem PtL.mono2 {Q Q':Nat→Prop} {W:World} {K t:Nat} {B:Nat→Bs} (h:PtL Q W K t B) (hQ:∀ g,g<W.heap.size→Q g→Q' g):PtL Q' W K t B:=fun j hj=>by
 obtain ⟨h1,h2,h3⟩:=h j hj
 exact ⟨hQ K h2 h1,h2,h3⟩
theorem TlL.shape {Q:Nat→Prop} {base t:Nat} {W:World} {v:Value} {B:Nat→Bs} (h:TlL Q base t W v B):∃ q c,v=.slice q t c:=by
 obtain ⟨xs,⟨-,⟨rfl,h0⟩|⟨g,cap,cur,rfl,-⟩⟩,-⟩:=h.ex
 ·exact ⟨none,0,by rw[h0]⟩
 ·exact ⟨_,_,rfl⟩
theorem TlL.below {Q:Nat→Prop} {base t:Nat} {W W':World} {v:Value} {B:Nat→Bs} (h:TlL Q base t W v B) (hb:Below W.heap.size W W'):TlL Q base t W' v B:=h.keep (Kq.of_below hb) fun g hg=>hb.block g (h.lt hg).2
theorem allT_y (C:Fld P) {Q:Nat→Prop} {base t:Nat} {W:World} {v:Value} {B:Nat→Bs} (ht:t≤512) (h:TlL Q base t W v B) (hB:∀ j,j<t→∃ p,rd P (B j)=some p):Calls Tryz.prog 60 #[.func (.func 23) #[] #[],v] W (Ret fun e w'=>Below W.heap.size W w'∧∃ K,e=.tuple #[.slice (some ⟨K,0,none⟩) t t,.bool true]∧PtL (W.heap.size≤·) w' K t B):=by
 rcases Nat.eq_zero_or_pos t with h0|h0
 ·obtain ⟨q,c,rfl⟩:=h.shape
  subst h0
  refine (allP_nil q c W).mono ?_
  rintro e w' ⟨v,rfl,hb,K,rfl⟩
  exact ⟨_,rfl,hb,K,rfl,fun j hj=>absurd hj (Nat.not_lt_zero _)⟩
 ·obtain ⟨xs,h1,h2⟩:=h.ex
  obtain ⟨g,c,rfl⟩:=own_shapeQ h1 h0
  refine (allP_c C g t c ht B W (h.lt (g:=g) rfl).2 fun j hj=>?_).mono ?_
  ·obtain ⟨x,h3,h4⟩:=h2 j hj
   exact ⟨x,own_cellQ h1 h3,h4.arg⟩
  ·rintro e w' ⟨v,rfl,hb,h⟩
   rcases h with ⟨-,K,rfl,k1,k2,k3⟩|⟨⟨j,hj,hn⟩,-⟩
   ·exact ⟨_,rfl,hb,K,rfl,fun j hj=>⟨k1,k2,k3 j hj⟩⟩
   ·obtain ⟨p,hp⟩:=hB j hj
    rw[hp] at hn
    cases hn
theorem ElQ.argS {Q:Nat→Prop} {W:World} {x:Value} {b:Bs} (h:ElQ Q 32 W x b):Arg W x b:=by
 obtain ⟨k,c,rfl,h2,h3,-,h5,h6⟩:=h
 exact ⟨_,32,c,rfl,h3,fun _=>⟨k,0,rfl,h2,h5,h6⟩⟩
def two {α:Type} (x y:α) (j:Nat):α:=if j=0 then x else y
theorem bslE (k k':Nat) (n c n' c':Nat) (w:World):(Instr.buildSlice 22 2 #[(0,.slice (some ⟨k,0,none⟩) n c),(1,.slice (some ⟨k',0,none⟩) n' c')]).run Tryz.prog w=.ok (.slice (some ⟨w.heap.size,0,none⟩) 2 2) (w.alloc (.cells #[.slice (some ⟨k,0,none⟩) n c,.slice (some ⟨k',0,none⟩) n' c'] 23)):=by kernel_rfl
theorem bslF {Q Q':Nat→Prop} {W:World} {x y:Value} {b b':Bs} (h:ElQ Q 32 W x b) (h':ElQ Q' 32 W y b') (w:World):(Instr.buildSlice 22 2 #[(0,x),(1,y)]).run Tryz.prog w=.ok (.slice (some ⟨w.heap.size,0,none⟩) 2 2) (w.alloc (.cells #[x,y] 23)):=by
 obtain ⟨k,c,rfl,-⟩:=h
 obtain ⟨k',c',rfl,-⟩:=h'
 exact bslE k k' 32 c 32 c' w
theorem args_two {Q Q':Nat→Prop} {W:World} {x y:Value} {b b':Bs} (h:ElQ Q 32 W x b) (h':ElQ Q' 32 W y b'):Args (W.alloc (.cells #[x,y] 23)) (some ⟨W.heap.size,0,none⟩) 2 (two b b'):=fun _=>by
 have bb:=below1 W (.cells #[x,y] 23)
 have hr:=row_new W [x,y] 23
 refine ⟨_,rfl,hr.1,fun j hj=>?_⟩
 match j,hj with
 | 0,_=>exact ⟨x,hr.2.1 0 _ rfl,h.argS.below bb⟩
 | 1,_=>exact ⟨y,hr.2.1 1 _ rfl,h'.argS.below bb⟩
 | j+2,h=>omega
theorem boxI {Q1 Q2 Q3 Q4:Nat→Prop} {b1 b2 t:Nat} {W:World} {vL vR vA vB:Value} {Lb Rb:Nat→Bs} {A B:Bs} (hL:TlL Q1 b1 t W vL Lb) (hR:TlL Q2 b2 t W vR Rb) (hA:ElQ Q3 32 W vA A) (hB:ElQ Q4 32 W vB B) (w:World):(Instr.box 26 (.agg #[vL,vR,vA,vB])).run Tryz.prog w=.ok (.pointer (some ⟨w.heap.size,0,none⟩)) (w.alloc (.cells #[vL,vR,vA,vB] 26)):=by
 obtain ⟨q1,c1,rfl⟩:=hL.shape
 obtain ⟨q2,c2,rfl⟩:=hR.shape
 obtain ⟨k,c,rfl,-⟩:=hA
 obtain ⟨k',c',rfl,-⟩:=hB
 kernel_rfl
theorem uIr:(Tryz.prog.underlying 76).map (·.isRow)=some true:=by kernel_rfl
theorem iIr:(Tryz.prog.info? 76).map (·.size)=some 10:=by kernel_rfl
def inL (kl kr t a b:Nat):List Value:=.slice (some ⟨kl,0,none⟩) t t :: .slice (some ⟨kr,0,none⟩) t t :: (wn a++wn b)
def inZ:List Value:=[.slice none 0 0,.slice none 0 0,.int .u64 0,.int .u64 0,.int .u64 0,.int .u64 0,.int .u64 0,.int .u64 0,.int .u64 0,.int .u64 0]
theorem inL_one (kl kr t a b:Nat):(inL kl kr t a b).toArray.all (·.oneCell')=true:=by kernel_rfl
theorem readI_n {base t T:Nat} (hne:¬ (t:Int)=(T:Int)) {Lb Rb:Nat→Bs} {A B:Bs} {vL vR vA vB:Value} (w:World) (hL:TlL (fun _=>True) base t w vL Lb) (hR:TlL (fun _=>True) base t w vR Rb) (hA:ElQ (fun _=>True) 32 w vA A) (hB:ElQ (fun _=>True) 32 w vB B) :
 Calls Tryz.prog 24 #[.agg #[vL,vR,vA,vB],.int .i64 T] w (Ret fun e w'=>Below w.heap.size w w'∧e=.tuple #[.agg inZ.toArray,.bool false]):=by
 obtain ⟨k,hk⟩:∃ k,Hid (w.heap.size=k):=⟨_,rfl⟩
 obtain ⟨w1,hw1⟩:∃ w1,Hid (w.alloc (.cells #[vL,vR,vA,vB] 26)=w1):=⟨_,rfl⟩
 obtain ⟨w2,hw2⟩:∃ w2,Hid (w1.alloc (.cells inZ.toArray 76)=w2):=⟨_,rfl⟩
 obtain ⟨w3,hw3⟩:∃ w3,Hid (w2.setCells (k+1) 0 inZ=w3):=⟨_,rfl⟩
 obtain ⟨vI,hvI⟩:∃ v,Hid (Value.agg #[vL,vR,vA,vB]=v):=⟨_,rfl⟩
 have B1:Hid ((Instr.box 26 vI).run Tryz.prog w=.ok (.pointer (some ⟨k,0,none⟩)) w1):=by rw[← hvI.out,← hw1.out,← hk.out];exact boxI hL hR hA hB w
 obtain ⟨q1,x1,rfl⟩:=hL.shape
 obtain ⟨q2,x2,rfl⟩:=hR.shape
 have z1:w1.heap.size=k+1:=by rw[← hw1.out,World.size_alloc,hk.out]
 have hz1:=Hid.mk' z1
 have b1:Below w.heap.size w w1:=by rw[← hw1.out];exact below1 _ _
 have b2:Below w1.heap.size w1 w2:=by rw[← hw2.out];exact below1 _ _
 have r1:Row w1 k [.slice q1 t x1,.slice q2 t x2,vA,vB]:=by rw[← hw1.out,← hk.out];exact row_new w _ _
 have r2:Row w2 (k+1) inZ:=by rw[← hw2.out,← z1];exact row_new w1 _ _
 have b12:=b1.trans (b2.mono b1.size)
 have K2:Hid (Row w2 (k+1) inZ∧Row w3 (k+1) inZ∧Below w.heap.size w w3):=⟨r2,by rw[← hw3.out];exact r2.put rfl,by rw[← hw3.out];exact RG.below_setCells (by rw[hk.out];exact Nat.le_succ _) _ _ _ b12⟩
 have HB:Hid ((Instr.build 76 #[]).run Tryz.prog w2=.ok (.agg inZ.toArray) w2):=by exact (show (Instr.build 76 #[]).run Tryz.prog w2=.ok (.agg inZ.toArray) w2 by kernel_rfl)
 have c0:w2.cell? ⟨k,0,none⟩=some (.slice q1 t x1):=(r1.below b2).2.1 0 _ rfl
 have c1:w2.cell? ⟨k,1,none⟩=some (.slice q2 t x2):=(r1.below b2).2.1 1 _ rfl
 obtain ⟨vZ,hvZ⟩:∃ v,Hid (Value.agg inZ.toArray=v):=⟨_,rfl⟩
 rw[hvI.out,hvZ.out]
 rw[hvZ.out] at HB
 clear b1 b2 r1 r2 b12 z1 hL hR hA hB hvI
 go_enter Tryz.func24,Tryz.ntmps24
 go_wp2_with (first|(refine wpList_box (u:=vI) (v:=.pointer (some ⟨k,0,none⟩)) (w':=w1) rfl 26 (.tmp 0) rfl ?_ ?_ ?_;rfl;exact B1.out)|(refine wpList_al (v:=.pointer (some ⟨k+1,0,none⟩)) (w':=w2) rfl 76 4 rfl rfl ?_ ?_;(rw[← hw2.out,← hz1.out];kernel_rfl))|(refine wpList_bld (v:=vZ) (w':=w2) rfl 76 _ rfl #[] ?_ ?_ ?_;kernel_rfl;exact HB.out)|(refine wpList_store_mid rfl 76 (.tmp 4) _ rfl (k+1) 0 inZ.toArray ?_ ?_ ?_ ?_ ?_ ?_;rfl;exact hvZ.out.symm;exact K2.out.1.2.2;exact iIr;kernel_rfl;rw[show inZ.toArray.toList=inZ from rfl,hw3.out])|fail)
 refine bodyPost_ret (results_ct 4 5 76 rfl K2.out.2.1 rfl rfl uIr iIr) rfl ?_
 refine ⟨_,rfl,K2.out.2.2,?_⟩
 rw[← hvZ.out]
 rfl
omit [NeZero N] in
theorem readI_y (C:Fld P) (O:Ord N) {base t:Nat} (ht:t≤6) {Lb Rb:Nat→Bs} {A B:Bs} {a b:Nat} {vL vR vA vB:Value} (w:World) (hL:TlL (fun _=>True) base t w vL Lb) (hR:TlL (fun _=>True) base t w vR Rb) (hA:ElQ (fun _=>True) 32 w vA A) (hB:ElQ (fun _=>True) 32 w vB B) (hl:∀ j,j<t→∃ p,rd P (Lb j)=some p) (hr:∀ j,j<t→∃ p,rd P (Rb j)=some p) (ha:rq N A=some a) (hb:rq N B=some b) :
 Calls Tryz.prog 24 #[.agg #[vL,vR,vA,vB],.int .i64 t] w (Ret fun e w'=>Below w.heap.size w w'∧∃ kl kr,e=.tuple #[.agg (inL kl kr t a b).toArray,.bool true]∧PtL (w.heap.size≤·) w' kl t Lb∧PtL (w.heap.size≤·) w' kr t Rb):=by
 obtain ⟨k,hk⟩:∃ k,Hid (w.heap.size=k):=⟨_,rfl⟩
 obtain ⟨w1,hw1⟩:∃ w1,Hid (w.alloc (.cells #[vL,vR,vA,vB] 26)=w1):=⟨_,rfl⟩
 obtain ⟨w2,hw2⟩:∃ w2,Hid (w1.alloc (.cells inZ.toArray 76)=w2):=⟨_,rfl⟩
 obtain ⟨vI,hvI⟩:∃ v,Hid (Value.agg #[vL,vR,vA,vB]=v):=⟨_,rfl⟩
 have B1:Hid ((Instr.box 26 vI).run Tryz.prog w=.ok (.pointer (some ⟨k,0,none⟩)) w1):=by rw[← hvI.out,← hw1.out,← hk.out];exact boxI hL hR hA hB w
 obtain ⟨q1,x1,rfl⟩:=hL.shape
 obtain ⟨q2,x2,rfl⟩:=hR.shape
 have z1:w1.heap.size=k+1:=by rw[← hw1.out,World.size_alloc,hk.out]
 have hz1:=Hid.mk' z1
 have b1:Below w.heap.size w w1:=by rw[← hw1.out];exact below1 _ _
 have b2:Below w1.heap.size w1 w2:=by rw[← hw2.out];exact below1 _ _
 have r1:Row w1 k [.slice q1 t x1,.slice q2 t x2,vA,vB]:=by rw[← hw1.out,← hk.out];exact row_new w _ _
 have r2:Row w2 (k+1) inZ:=by rw[← hw2.out,← z1];exact row_new w1 _ _
 have b12:=b1.trans (b2.mono b1.size)
 have hcL:=Hid.mk' (fun (W:World) (hW:Below w.heap.size w W)=>allT_y C (v:=.slice q1 t x1) (by omega) (hL.below hW) hl)
 have hcR:=Hid.mk' (fun (W:World) (hW:Below w.heap.size w W)=>allT_y C (v:=.slice q2 t x2) (by omega) (hR.below hW) hr)
 have hEl:=Hid.mk' (And.intro (fun (W:World) (hW:Below w.heap.size w W)=>hA.keep (Kq.of_below hW)) (fun (W:World) (hW:Below w.heap.size w W)=>hB.keep (Kq.of_below hW)))
 have hcE:=Hid.mk' (fun (W:World) (hW:Below w.heap.size w W)=>allS_y O 2 2 (by decide) (some ⟨W.heap.size,0,none⟩) (two A B) (two a b) (W.alloc (.cells #[vA,vB] 23)) (args_two (hEl.out.1 W hW) (hEl.out.2 W hW)) (fun j hj=>by
  match j,hj with
  | 0,_=>exact ha
  | 1,_=>exact hb
  | j+2,h=>omega))
 have K2:Hid (Row w2 (k+1) inZ∧Below w.heap.size w w2∧Row w2 k [.slice q1 t x1,.slice q2 t x2,vA,vB]):=⟨r2,b12,r1.below b2⟩
 have c0:w2.cell? ⟨k,0,none⟩=some (.slice q1 t x1):=(r1.below b2).2.1 0 _ rfl
 have c1:w2.cell? ⟨k,1,none⟩=some (.slice q2 t x2):=(r1.below b2).2.1 1 _ rfl
 rw[hvI.out]
 clear b1 b2 r1 r2 b12 z1 hL hR hA hB hvI hl hr ha hb
 go_enter Tryz.func24,Tryz.ntmps24
 go_wp2_with (first|(refine wpList_box (u:=vI) (v:=.pointer (some ⟨k,0,none⟩)) (w':=w1) rfl 26 (.tmp 0) rfl ?_ ?_ ?_;rfl;exact B1.out)|(refine wpList_al (v:=.pointer (some ⟨k+1,0,none⟩)) (w':=w2) rfl 76 4 rfl rfl ?_ ?_;(rw[← hw2.out,← hz1.out];kernel_rfl))|fail)
 refine (hcL.out w2 K2.out.2.1).mono ?_
 rintro e w3 ⟨uu,rfl,hb3,kl,rfl,hPl⟩
 have b3:=K2.out.2.1.trans (hb3.mono K2.out.2.1.size)
 have K3:Hid (Row w3 (k+1) inZ∧Below w.heap.size w w3∧Row w3 k [.slice q1 t x1,.slice q2 t x2,vA,vB]∧PtL (k+1 < ·) w3 kl t Lb):=⟨K2.out.1.below hb3,b3,K2.out.2.2.below hb3,hPl.mono2 fun g _ hg=>Nat.lt_of_lt_of_le K2.out.1.1 hg⟩
 have c0':w3.cell? ⟨k,1,none⟩=some (.slice q2 t x2):=K3.out.2.2.1.2.1 1 _ rfl
 clear hb3 hPl b3 K2 c0 c1 hcL
 go_wp2_with fail
 refine (hcR.out w3 K3.out.2.1).mono ?_
 rintro e w4 ⟨uu,rfl,hb4,kr,rfl,hPr⟩
 have b4:=K3.out.2.1.trans (hb4.mono K3.out.2.1.size)
 have K4:Hid (Row w4 (k+1) inZ∧Below w.heap.size w w4∧Row w4 k [.slice q1 t x1,.slice q2 t x2,vA,vB]∧PtL (k+1 < ·) w4 kl t Lb∧PtL (k+1 < ·) w4 kr t Rb):=⟨K3.out.1.below hb4,b4,K3.out.2.2.1.below hb4,K3.out.2.2.2.keep (Kq.of_below hb4),hPr.mono2 fun g _ hg=>Nat.lt_of_lt_of_le K3.out.1.1 hg⟩
 have c2':w4.cell? ⟨k,2,none⟩=some vA:=K4.out.2.2.1.2.1 2 _ rfl
 have c3':w4.cell? ⟨k,3,none⟩=some vB:=K4.out.2.2.1.2.1 3 _ rfl
 obtain ⟨w5,hw5⟩:∃ W,Hid (w4.alloc (.cells #[vA,vB] 23)=W):=⟨_,rfl⟩
 obtain ⟨k5,hk5⟩:∃ n,Hid (w4.heap.size=n):=⟨_,rfl⟩
 have HS:Hid ((Instr.buildSlice 22 2 #[(0,vA),(1,vB)]).run Tryz.prog w4=.ok (.slice (some ⟨k5,0,none⟩) 2 2) w5):=by rw[← hw5.out,← hk5.out];exact bslF (hEl.out.1 w4 K4.out.2.1) (hEl.out.2 w4 K4.out.2.1) w4
 have hc5:=hcE.out w4 K4.out.2.1
 rw[hw5.out,hk5.out] at hc5
 have HC5:=Hid.mk' hc5
 have b45:Below w4.heap.size w4 w5:=by rw[← hw5.out];exact below1 _ _
 have b5:=K4.out.2.1.trans (b45.mono K4.out.2.1.size)
 have K5:Hid (Row w5 (k+1) inZ∧Below w.heap.size w w5∧PtL (k+1 < ·) w5 kl t Lb∧PtL (k+1 < ·) w5 kr t Rb):=⟨K4.out.1.below b45,b5,K4.out.2.2.2.1.keep (Kq.of_below b45),K4.out.2.2.2.2.keep (Kq.of_below b45)⟩
 clear hb4 hPr b4 K3 c0' hcR hc5 b45 b5 hcE hEl
 go_wp2_with (first|(refine wpList_bsl (v:=.slice (some ⟨k5,0,none⟩) 2 2) (w':=w5) rfl 22 2 _ rfl #[(0,vA),(1,vB)] ?_ ?_ ?_;kernel_rfl;exact HS.out)|fail)
 refine HC5.out.mono ?_
 rintro e w6 ⟨uu,rfl,hb6,ke,rfl,hSe⟩
 have K6:Hid (Row w6 (k+1) inZ∧Below w.heap.size w w6∧PtL (k+1 < ·) w6 kl t Lb∧PtL (k+1 < ·) w6 kr t Rb∧SLq (k+1 < ·) w6 (.slice (some ⟨ke,0,none⟩) 2 2) 2 (two a b)):=⟨K5.out.1.below hb6,K5.out.2.1.trans (hb6.mono K5.out.2.1.size),K5.out.2.2.1.keep (Kq.of_below hb6),K5.out.2.2.2.keep (Kq.of_below hb6),hSe.mono fun g hg=>Nat.lt_of_lt_of_le K5.out.1.1 hg⟩
 have hE:w6.rangeAt ke 0 (wn a)∧w6.rangeAt ke 4 (wn b)∧k+1≠ke:=by
  obtain ⟨g,o,c,e,-,h2,-,h4⟩:=K6.out.2.2.2.2
  injection e with e1
  injection e1 with e1
  injection e1 with e2 e3
  subst e2 e3
  exact ⟨h4 0 (by decide),h4 1 (by decide),Nat.ne_of_lt h2⟩
 have HE6:=Hid.mk' hE
 clear hb6 hSe K5 K4 HC5 HS c2' c3' hw5 hE
 go_wp2_with fail
 obtain ⟨dS,hdS1,hdS2⟩:=Option.map_eq_some_iff.1 rSc
 have S6:w6.drew.rangeAt ke 0 (wn a)∧w6.drew.rangeAt ke 4 (wn b):=⟨HE6.out.1,HE6.out.2.1⟩
 refine anyS.begin (fun _ W=>W.rangeAt ke 0 (wn a)∧W.rangeAt ke 4 (wn b)) (by kernel_rfl) ?_
 have bS:∀ (p:Nat),Bef (fun _ W=>World.rangeAt W ke 0 (wn a)∧World.rangeAt W ke 4 (wn b)) p w6.drew:=fun p=>⟨#[],by simp,S6⟩
 refine anyS.val (i:=0) (d:=some 57) (x:=.slice (some ⟨kl,0,none⟩) t t) rfl 9 (fun _ _ h=>h) (bS 9) S6 ?_
 simp only[Act.put,List.setIfInBounds_toArray,List.set_cons_succ,List.set_cons_zero]
 refine anyS.val (i:=1) (d:=some 58) (x:=.slice (some ⟨kr,0,none⟩) t t) rfl 9 (fun _ _ h=>h) (bS 9) S6 ?_
 simp only[Act.put,List.setIfInBounds_toArray,List.set_cons_succ,List.set_cons_zero]
 refine anyS.val (i:=2) (d:=some 59) (x:=.slice (some ⟨ke,0,none⟩) 2 2) rfl 9 (fun _ _ h=>h) (bS 9) S6 ?_
 simp only[Act.put,List.setIfInBounds_toArray,List.set_cons_succ,List.set_cons_zero]
 refine anyS.val (i:=3) (d:=some 60) (x:=.pointer (some ⟨ke,0,none⟩)) rfl 9 (fun _ _ h=>h) (bS 9) S6 ?_
 simp only[Act.put,List.setIfInBounds_toArray,List.set_cons_succ,List.set_cons_zero]
 refine anyS.row (i:=4) (d:=some 61) (cs:=wn a) rfl 9 (fun _ _ h=>h) 52 60 ke 0 dS rfl hdS1 hdS2 nSc (fun W ⟨l,e,h⟩=>h.1) (bS 9) S6 ?_
 simp only[Act.put,List.setIfInBounds_toArray,List.set_cons_succ,List.set_cons_zero]
 refine anyS.val (i:=5) (d:=some 62) (x:=.slice (some ⟨ke,0,none⟩) 2 2) rfl 9 (fun _ _ h=>h) (bS 9) S6 ?_
 simp only[Act.put,List.setIfInBounds_toArray,List.set_cons_succ,List.set_cons_zero]
 refine anyS.val (i:=6) (d:=some 63) (x:=.pointer (some ⟨ke,4,none⟩)) rfl 9 (fun _ _ h=>h) (bS 9) S6 ?_
 simp only[Act.put,List.setIfInBounds_toArray,List.set_cons_succ,List.set_cons_zero]
 refine anyS.row (i:=7) (d:=some 64) (cs:=wn b) rfl 9 (fun _ _ h=>h) 52 63 ke 4 dS rfl hdS1 hdS2 nSc (fun W ⟨l,e,h⟩=>h.2) (bS 9) S6 ?_
 simp only[Act.put,List.setIfInBounds_toArray,List.set_cons_succ,List.set_cons_zero]
 clear bS
 refine anyS.nxt (i:=8) (d:=some 65) (x:=.agg (inL kl kr t a b).toArray) rfl S6 ?_
 simp only[Act.put,List.setIfInBounds_toArray,List.set_cons_succ,List.set_cons_zero]
 have hth:w6.drew.there (k+1) 0 10:=K6.out.1.2.2
 have hset:∀ g,g≠k+1→(w6.drew.setCells (k+1) 0 (inL kl kr t a b)).heap[g]? = w6.drew.heap[g]?:=fun g h=>RG.setCells_other (k+1) _ 0 w6.drew g h
 have S7:(w6.drew.setCells (k+1) 0 (inL kl kr t a b)).rangeAt ke 0 (wn a)∧(w6.drew.setCells (k+1) 0 (inL kl kr t a b)).rangeAt ke 4 (wn b):=⟨fun j u hj=>by rw[World.cell?_of_block (a:=⟨ke,0+j,none⟩) (hset ke (Ne.symm HE6.out.2.2))];exact S6.1 j u hj,fun j u hj=>by rw[World.cell?_of_block (a:=⟨ke,4+j,none⟩) (hset ke (Ne.symm HE6.out.2.2))];exact S6.2 j u hj⟩
 have r6:Row w6.drew (k+1) inZ:=K6.out.1
 have r7:Row (w6.drew.setCells (k+1) 0 (inL kl kr t a b)) (k+1) (inL kl kr t a b):=r6.put rfl
 have b7:Below w.heap.size w (w6.drew.setCells (k+1) 0 (inL kl kr t a b)):=RG.below_setCells (by rw[hk.out];exact Nat.le_succ _) _ _ _ K6.out.2.1.drew
 have kq7:Kq (k+1 < ·) w6 (w6.drew.setCells (k+1) 0 (inL kl kr t a b)):=⟨by rw[RG.setCells_size];exact Nat.le_refl _,fun g hg _=>hset g (Nat.ne_of_gt hg)⟩
 have pl7:=(K6.out.2.2.1.keep kq7).mono2 (Q':=(w.heap.size≤·)) fun g _ hg=>by rw[hk.out];omega
 have pr7:=(K6.out.2.2.2.1.keep kq7).mono2 (Q':=(w.heap.size≤·)) fun g _ hg=>by rw[hk.out];omega
 refine anyS.sta (i:=9) (d:=none) rfl 76 (.tmp 4) (.tmp 65) rfl (k+1) 0 (inL kl kr t a b).toArray (inL_one kl kr t a b) hth iIr S7 ?_
 simp only[Act.put,List.setIfInBounds_toArray,List.set_cons_succ,List.set_cons_zero]
 refine anyS.nxt (i:=10) (d:=some 5) (x:=.bool true) rfl S7 ?_
 simp only[Act.put,List.setIfInBounds_toArray,List.set_cons_succ,List.set_cons_zero]
 refine anyS.fin (by kernel_rfl) ?_ _
 intro WZ hWZ
 have hWZ':WZ=w6.drew.setCells (k+1) 0 (inL kl kr t a b):=hWZ
 rw[← hWZ'] at r7 b7 pl7 pr7
 have KZ:=Hid.mk' (And.intro r7 (And.intro b7 (And.intro pl7 pr7)))
 clear r6 r7 b7 kq7 pl7 pr7 S7 S6 hset hth hWZ hWZ' K6 HE6 hdS1 hdS2
 go_wp2_with fail
 refine bodyPost_ret (results_ct 4 5 76 rfl KZ.out.1 rfl rfl uIr iIr) rfl ?_
 exact ⟨_,rfl,KZ.out.2.1,kl,kr,rfl,KZ.out.2.2.1,KZ.out.2.2.2⟩
end
section
open Go Go.RowKit Go.Sort Go.Deep SPA
section
variable {P:Program} {ops:Array Oper} {Q:Exit→Act→World→Prop} {S:Array Bool→World→Prop}
theorem putC (a:Act) {d e:Tmp} (h:d≠e) (v u:Value):(a.put (some d) v).put (some e) u=(a.put (some e) u).put (some d) v:=by
 unfold Act.put
 dsimp only
 rw[Array.setIfInBounds_comm _ _ h]
theorem anyS.calal {i j fuel:Nat} {oi oj:Oper} {di dj:Tmp} {f:FuncId} {args:Array Value} {obj:Obj} {listed:Array Bool} {a:Act} {w:World} {R1 R2:Value→World→Prop} {F:Value→Nat→World→Prop} (hoi:ops[i]? = some oi) (hoj:ops[j]? = some oj)
 (hc:Calls P f args w (Ret R1)) (hc':Calls P f args (w.alloc obj) (Ret R2)) (hS2:S (listed.setIfInBounds j true) (w.alloc obj))
 (h1:∀ v W',R1 v W'→S (listed.setIfInBounds i true) W'∧S ((listed.setIfInBounds i true).setIfInBounds j true) (W'.alloc obj)∧F v W'.heap.size (W'.alloc obj)) (h2:∀ v W',R2 v W'→S ((listed.setIfInBounds i true).setIfInBounds j true) W'∧F v w.heap.size W')
 (hal:∀ (b:Act) (W:World),(execOp b.eval oj).run P W=.ok (.value (.pointer (some ⟨W.heap.size,0,none⟩))) (W.alloc obj))
 (h:∀ v b W',F v b W'→anyS P ops Q S fuel ((listed.setIfInBounds i true).setIfInBounds j true) ((a.put (some di) v).put (some dj) (.pointer (some ⟨b,0,none⟩))) W')
 (hx:∀ W,(execOp a.eval oi).run P W=.ok (.enter f args) W:=by intro _;kernel_rfl) (hx':∀ (b:Nat) (W:World),(execOp (a.put (some dj) (.pointer (some ⟨b,0,none⟩))).eval oi).run P W=.ok (.enter f args) W:=by intro _ _;kernel_rfl)
 (hij:i≠j:=by decide) (hdd:di≠dj:=by decide) (hr:Region.ready .any ops listed=[i,j]:=by kernel_rfl) (hrj:Region.ready .any ops (listed.setIfInBounds i true)=[j]:=by kernel_rfl) (hri:Region.ready .any ops (listed.setIfInBounds j true)=[i]:=by kernel_rfl)
 (hgi:oi.guard=none:=by rfl) (hgj:oj.guard=none:=by rfl) (hdi:oi.dst=some di:=by kernel_rfl) (hdj:oj.dst=some dj:=by kernel_rfl):anyS P ops Q S (fuel+2) listed a w:=by
 refine ⟨fun h0=>(by rw[hr] at h0;cases h0),fun q hq=>?_⟩
 rw[hr] at hq
 have hq':q=i∨q=j:=by simpa using hq
 rcases hq' with rfl|rfl
 ·refine wpOp_step hoi fun K hK=>?_
  rw[if_pos (wanted_of hgi _)]
  unfold Oper.wp
  rw[hx,Oper.upon_enter]
  refine hc.mono ?_
  rintro e W' ⟨v,rfl,hR⟩
  obtain ⟨s1,s2,hF⟩:=h1 v W' hR
  refine hK _ _ ⟨s1,?_⟩
  rw[hdi]
  refine anyS.step hoj hrj fun K' hK'=>?_
  rw[if_pos (wanted_of hgj _)]
  unfold Oper.wp
  rw[hal]
  show K' (Act.put _ oj.dst _) _
  rw[hdj]
  exact hK'.out _ _ s2 (h v _ _ hF)
 ·refine wpOp_step hoj fun K hK=>?_
  rw[if_pos (wanted_of hgj _)]
  unfold Oper.wp
  rw[hal]
  show K (a.put oj.dst _) _
  rw[hdj]
  refine hK _ _ ⟨hS2,?_⟩
  refine anyS.step hoi hri fun K' hK'=>?_
  rw[if_pos (wanted_of hgi _)]
  unfold Oper.wp
  rw[hx',Oper.upon_enter]
  refine hc'.mono ?_
  rintro e W' ⟨v,rfl,hR⟩
  obtain ⟨s2,hF⟩:=h2 v W' hR
  have hF':=h v _ _ hF
  rw[Array.setIfInBounds_comm _ _ hij] at s2 hF'
  rw[putC a hdd] at hF'
  rw[hdi]
  exact hK'.out _ _ s2 hF'
end
variable {P:Nat} [NeZero P] {N:Nat} [NeZero N]
theorem vst_step (C:Fld P) (hord:∀ r:EC.Pt P,EC.On r→EC.mul N r=none) (hP:NT.IsP N) (t:Nat) (L T:Nat→OnP P) (v:Md.Vs Bs (OnP P)) (i m:Nat) (hm:m=2^(t-(i+1))) (s:Bs) (c:Fin N) (hc:chF N ((ptMd C hord).vst (chF N) ivF t L T v i).s (L i) (T i)=(s,c)) :
 (ptMd C hord).vst (chF N) ivF t L T v (i+1)=⟨s,(ptMd C hord).ad ((ptMd C hord).ad ((ptMd C hord).vst (chF N) ivF t L T v i).p ((ptMd C hord).ac (c*c) (L i))) ((ptMd C hord).ac (ivF (c*c)) (T i)),(ptMd C hord).fP (ivF c) c m ((ptMd C hord).vst (chF N) ivF t L T v i).g,(ptMd C hord).fP c (ivF c) m ((ptMd C hord).vst (chF N) ivF t L T v i).h⟩:=by
 have hcc:=chF_sq hP ((ptMd C hord).vst (chF N) ivF t L T v i).s (L i) (T i)
 rw[hc] at hcc
 have hc0:c.val≠0:=fun e=>hcc (by
  have:c=0:=Fin.ext (e.trans (Nat.zero_mod N).symm)
  show (c*c).val=0
  rw[this]
  show (0%N*(0%N))%N=0
  rw[Nat.zero_mod,Nat.zero_mul,Nat.zero_mod])
 rw[Md.step_pro,iv_sq hP c hc0 hcc,hm]
 show (ptMd C hord).vstep (chF N) ivF (2^(t-(i+1))) (L i) (T i) ((ptMd C hord).vst (chF N) ivF t L T v i)=_
 unfold Md.vstep
 rw[hc]
end
end Go.Proofs.YtnfpdihkjkimiaaGreat
