import Derived.Lib.AppendZeros
import Derived.ChangeOld
import Derived.Below
import Derived.WalkKit
import Derived.ProofKit
import Derived.OpenShut
import Derived.ShutString
import Derived.Test.YtglhhepedoffeaaGreatSi6
set_option linter.unusedVariables false
set_option linter.unusedSimpArgs false
set_option maxRecDepth 1000000
set_option maxHeartbeats 4000000
namespace Go.Proofs.YtglhhepedoffeaaGreat
namespace RG
open Go Go.RowKit
variable {P:Program} {ops:Array Oper} {Q:Exit→Act→World→Prop} {w:World} {a0:Act} {L:Array Bool}
structure Flow where
 R:Nat→Value→World→Prop
 B:Nat→World→Prop
 E:Nat→World→World→Prop
 kill:Nat→List Nat
 killB:Nat→List Nat
def dstOf (ops:Array Oper) (i:Nat):Option Tmp:=(ops[i]?).bind (·.dst)
def depOn (ops:Array Oper) (x k:Nat):Bool:=match ops[x]? with|some o=>depB o k|none=>true
def okK (ops:Array Oper) (k:Nat) (l:List Nat):Bool:=l.all (fun x=>x == k || depOn ops x k)
def freeF (ops:Array Oper) (k:Nat) (t:Tmp):Bool:=(List.range ops.size).all (fun i=>dstOf ops i != some t || i == k || depOn ops i k)
structure InvF (F:Flow) (ops:Array Oper) (a0:Act) (L:Array Bool) (a:Act) (w:World):Prop where
 size:L.size=ops.size
 cl:∀ (i:Nat) (o:Oper),ops[i]? = some o→on L i=true→∀ e∈o.after,Region.binds .any e=true→on L e.on=true
 def':a.defers=a0.defers
 sz:a.tmps.size=a0.tmps.size
 rest:∀ t:Tmp,(∀ i,on L i=true→dstOf ops i≠some t)→a.tmps[t]? = a0.tmps[t]?
 all:∃ V:Nat→Value,(∀ i d,on L i=true→dstOf ops i=some d→a.tmps[d]? = some (V i))∧(∀ i,on L i=true→(∀ x∈F.kill i,on L x=false)→F.R i (V i) w)
 base:∀ b,(∀ x∈F.killB b,on L x=false)→F.B b w
def CertF (P:Program) (Q:Exit→Act→World→Prop) (F:Flow) (ops:Array Oper) (a0:Act) (k:Nat) (o:Oper):Prop:=
 ∀ (a:Act) (w:World) (K:Act→World→Prop),
  (∀ j d,depB o j=true→okK ops k (F.kill j)=true→dstOf ops j=some d→F.R j (a.eval (.tmp d)) w) →
  (∀ t,freeF ops k t=true→a.eval (.tmp t)=a0.eval (.tmp t)) →
  (∀ b,okK ops k (F.killB b)=true→F.B b w) →
  (∀ v w',F.E k w w'→F.R k v w'→K (a.put o.dst v) w')→o.wp P a w K Q
def CertH (P:Program) (Q:Exit→Act→World→Prop) (F:Flow) (ops:Array Oper) (a0:Act) (k:Nat) (o:Oper):Prop:=
 match o.guard with
 | none=>CertF P Q F ops a0 k o
 | some (j,want)=>depB o j=true∧(dstOf ops j).isSome=true∧okK ops k (F.kill j)=true ∧
  (((∀ v w,F.R j v w→v=.bool want)∧CertF P Q F ops a0 k o)∨((∀ v w,F.R j v w→v=.bool (!want))∧∀ w,F.E k w w∧F.R k undef w))
def chkF (ops:Array Oper) (n:Nat):Bool:=
 (List.range ops.size).all (fun i=>match ops[i]? with
  | some o=>o.after.all (fun e=>!Region.binds .any e || e.on<i) && (match o.dst with|none=>true|some d=>decide (d<n) && (List.range ops.size).all (fun j=>j == i || dstOf ops j != some d))
  | none=>false)
structure RegF (P:Program) (Q:Exit→Act→World→Prop) (F:Flow) (ops:Array Oper) (a0:Act) (m:Nat):Prop where
 chk:chkF ops a0.tmps.size=true
 cert:∀ k o,k<m→ops[k]? = some o→CertH P Q F ops a0 k o
 stab:∀ i j,i<m→j<m→i≠j→(F.kill j).contains i=false→depOn ops j i=false→∀ v w w',F.E i w w'→F.R j v w→F.R j v w'
 stabB:∀ i b,i<m→(F.killB b).contains i=false→∀ w w',F.E i w w'→F.B b w→F.B b w'
variable {F:Flow} {m:Nat}
theorem RegF.of {k:Nat} {o:Oper} (h:RegF P Q F ops a0 m) (ho:ops[k]? = some o):(∀ e∈o.after,Region.binds .any e=true→e.on<k)∧∀ d,o.dst=some d→d<a0.tmps.size∧∀ j,dstOf ops j=some d→j=k:=by
 have hk:k<ops.size:=(Array.getElem?_eq_some_iff.1 ho).1
 have h1:=List.all_eq_true.1 h.chk k (List.mem_range.2 hk)
 rw[ho] at h1
 simp only[Bool.and_eq_true] at h1
 obtain ⟨h2,h3⟩:=h1
 refine ⟨fun e he hb=>?_,fun d hd=>?_⟩
 ·have:=Array.all_eq_true'.1 h2 e he
  simpa[hb] using this
 ·rw[hd] at h3
  simp only[Bool.and_eq_true,decide_eq_true_eq] at h3
  refine ⟨h3.1,fun j hj=>?_⟩
  have hjs:j<ops.size:=by
   unfold dstOf at hj
   cases hx:ops[j]? with
   | none=>rw[hx] at hj;cases hj
   | some x=>exact (Array.getElem?_eq_some_iff.1 hx).1
  have:=List.all_eq_true.1 h3.2 j (List.mem_range.2 hjs)
  simpa[hj] using this
theorem dstOf_some {i:Nat} {o:Oper} (ho:ops[i]? = some o):dstOf ops i=o.dst:=by unfold dstOf;rw[ho];rfl
theorem dep_on {a:Act} {x k:Nat} {o:Oper} (h:InvF F ops a0 L a w) {ho:ops[x]? = some o} (hd:depB o k=true) (hx:on L x=true):on L k=true:=by
 obtain ⟨e,he,hb⟩:=Array.any_eq_true'.1 hd
 simp only[Bool.and_eq_true,beq_iff_eq] at hb
 rw[← hb.2]
 exact h.cl x o ho hx e he hb.1
theorem on_lt {L:Array Bool} {x:Nat} (h:on L x=true):x<L.size:=by
 rcases Nat.lt_or_ge x L.size with h1|h1
 ·exact h1
 ·unfold on at h
  rw[Array.getD_eq_getD_getElem?,Array.getElem?_eq_none h1] at h
  cases h
theorem stepF {k:Nat} {o:Oper} {a:Act} (R:RegF P Q F ops a0 m) (hkm:k<m) (hlt:∀ i,on L i=true→i<m) (ho:ops[k]? = some o) (hun:on L k=false) (hdep:∀ e∈o.after,Region.binds .any e=true→on L e.on=true) (h:InvF F ops a0 L a w) :
 wpOp P ops Q k (InvF F ops a0 (L.setIfInBounds k true)) a w:=by
 obtain ⟨hback,hdst⟩:=R.of ho
 have hks:k<ops.size:=(Array.getElem?_eq_some_iff.1 ho).1
 have hkL:k<L.size:=by rw[h.size];exact hks
 have hdo:dstOf ops k=o.dst:=dstOf_some ho
 have hnot:∀ x,(x == k || depOn ops x k)=true→on L x=false:=fun x hx=>by
  cases hon:on L x with
  | false=>rfl
  | true =>
   rcases Bool.or_eq_true _ _ ▸ hx with h1|h1
   ·rw[show x=k by simpa using h1,hun] at hon;cases hon
   ·unfold depOn at h1
    have hxs:x<ops.size:=by rw[← h.size];exact on_lt hon
    have hox:ops[x]? = some ops[x]:=Array.getElem?_eq_getElem hxs
    rw[hox] at h1
    have:=dep_on (ho:=hox) h h1 hon
    rw[hun] at this;cases this
 obtain ⟨V,hV1,hV2⟩:=h.all
 have hp1:∀ j d,depB o j=true→okK ops k (F.kill j)=true→dstOf ops j=some d→a.tmps[d]? = some (V j)∧F.R j (V j) w:=fun j d hj hok hd=>by
  obtain ⟨e,he,hb⟩:=Array.any_eq_true'.1 hj
  simp only[Bool.and_eq_true,beq_iff_eq] at hb
  have hjon:on L j=true:=by rw[← hb.2];exact hdep e he hb.1
  exact ⟨hV1 j d hjon hd,hV2 j hjon fun x hx=>hnot x (List.all_eq_true.1 hok x hx)⟩
 have hpre1:∀ j d,depB o j=true→okK ops k (F.kill j)=true→dstOf ops j=some d→F.R j (a.eval (.tmp d)) w:=fun j d hj hok hd=>by
  rw[eval_of (hp1 j d hj hok hd).1]
  exact (hp1 j d hj hok hd).2
 have hpre2:∀ t,freeF ops k t=true→a.eval (.tmp t)=a0.eval (.tmp t):=fun t hf=>by
  have h1:=h.rest t fun i hi hd=>by
   have his:i<ops.size:=by rw[← h.size];exact on_lt hi
   have h2:=List.all_eq_true.1 hf i (List.mem_range.2 his)
   rw[hd] at h2
   have h3:(i == k || depOn ops i k)=true:=by simpa using h2
   rw[hnot i h3] at hi;cases hi
  show a.tmps.getD t undef=a0.tmps.getD t undef
  rw[Array.getD_eq_getD_getElem?,Array.getD_eq_getD_getElem?,h1]
 have hpre3:∀ b,okK ops k (F.killB b)=true→F.B b w:=fun b hb=>h.base b fun x hx=>hnot x (List.all_eq_true.1 hb x hx)
 have hpost:∀ v w',F.E k w w'→F.R k v w'→InvF F ops a0 (L.setIfInBounds k true) (a.put o.dst v) w':=fun v w' hE hR=>by
  have hon:∀ x,on (L.setIfInBounds k true) x=(on L x || k == x):=fun x=>on_set hkL
  refine ⟨by rw[Array.size_setIfInBounds];exact h.size,fun i oi hoi hi e he hb=>?_,?_,?_,fun t ht=>?_,⟨fun x=>if x=k then v else V x,fun i d hi hd=>?_,fun i hi hkl=>?_⟩,fun b hb=>?_⟩
  ·rw[hon] at hi ⊢
   by_cases hik:k=i
   ·subst hik
    rw[ho] at hoi
    obtain rfl:=Option.some.inj hoi
    rw[hdep e he hb,Bool.true_or]
   ·rw[h.cl i oi hoi (by simpa[hik] using hi) e he hb,Bool.true_or]
  ·rw[← h.def'];cases o.dst<;>rfl
  ·rw[put_size];exact h.sz
  ·have h1:o.dst≠some t:=fun hd=>ht k (by rw[hon];simp) (by rw[hdo];exact hd)
   rw[put_other a v h1]
   exact h.rest t fun i hi=>ht i (by rw[hon,hi,Bool.true_or])
  ·rw[hon] at hi
   by_cases hik:i=k
   ·subst hik
    rw[hdo] at hd
    rw[hd]
    show (a.tmps.setIfInBounds d v)[d]? = some (if i=i then v else V i)
    rw[if_pos (rfl:i=i)]
    rw[Array.getElem?_setIfInBounds,if_pos rfl,if_pos (by rw[h.sz];exact (hdst d hd).1)]
   ·have hne:o.dst≠some d:=fun hd2=>hik ((hdst d hd2).2 i hd)
    rw[put_other a v hne]
    show _=some (if i=k then v else V i)
    rw[if_neg hik]
    have hik':¬ k=i:=fun e=>hik e.symm
    exact hV1 i d (by simpa[hik'] using hi) hd
  ·rw[hon] at hi
   by_cases hik:i=k
   ·subst hik
    show F.R i (if i=i then v else V i) w'
    rw[if_pos rfl];exact hR
   ·show F.R i (if i=k then v else V i) w'
    rw[if_neg hik]
    have hik':¬ k=i:=fun e=>hik e.symm
    have hi':on L i=true:=by simpa[hik'] using hi
    have h1:∀ x∈F.kill i,on L x=false:=fun x hx=>by
     have:=hkl x hx
     rw[hon,Bool.or_eq_false_iff] at this
     exact this.1
    have h2:(F.kill i).contains k=false:=by
     cases hc:(F.kill i).contains k with
     | false=>rfl
     | true =>
      have:=hkl k (by simpa using hc)
      rw[hon] at this
      simp at this
    have his:i<ops.size:=by rw[← h.size];exact on_lt hi'
    have h3:depOn ops i k=false:=by
     cases hc:depOn ops i k with
     | false=>rfl
     | true=>rw[hnot i (by rw[hc,Bool.or_true])] at hi';cases hi'
    exact R.stab k i hkm (hlt i hi') (Ne.symm hik) h2 h3 _ _ _ hE (hV2 i hi' h1)
  ·have h1:∀ x∈F.killB b,on L x=false:=fun x hx=>by
    have:=hb x hx
    rw[hon,Bool.or_eq_false_iff] at this
    exact this.1
   have h2:(F.killB b).contains k=false:=by
    cases hc:(F.killB b).contains k with
    | false=>rfl
    | true =>
     have:=hb k (by simpa using hc)
     rw[hon] at this
     simp at this
   exact R.stabB k b hkm h2 _ _ hE (h.base b h1)
 have hC:=R.cert k o hkm ho
 unfold CertH at hC
 unfold wpOp
 rw[ho]
 dsimp only
 cases hg:o.guard with
 | none =>
  rw[hg] at hC
  rw[wanted_none hg,if_pos rfl]
  left
  exact hC a w _ hpre1 hpre2 hpre3 hpost
 | some jw =>
  obtain ⟨j,want⟩:=jw
  rw[hg] at hC
  obtain ⟨hd1,hd2,hd3,hcase⟩:=hC
  obtain ⟨d,hd⟩:=Option.isSome_iff_exists.1 hd2
  obtain ⟨hs,hRj⟩:=hp1 j d hd1 hd3 hd
  have hy:∀ b,V j=.bool b→Region.wanted o (yielded ops a.tmps)=(b == want):=fun b hb=>by
   have h4:yielded ops a.tmps j=some b:=by
    unfold dstOf at hd
    unfold yielded
    cases hoj:ops[j]? with
    | none=>rw[hoj] at hd;cases hd
    | some oj =>
     rw[hoj] at hd
     show (match oj.dst.bind (a.tmps[·]?) with|some (.bool b)=>some b|_=>none)=_
     rw[show oj.dst=some d from hd]
     show (match a.tmps[d]? with|some (.bool b)=>some b|_=>none)=_
     rw[hs,hb]
   unfold Region.wanted
   rw[hg]
   show (yielded ops a.tmps j == some want)=_
   rw[h4]
   cases b<;>cases want<;>rfl
  rcases hcase with ⟨hw,hc⟩|⟨hw,hsk⟩
  ·rw[hy _ (hw _ _ hRj),show (want == want)=true by cases want<;>rfl,if_pos rfl]
   left
   exact hc a w _ hpre1 hpre2 hpre3 hpost
  ·rw[hy _ (hw _ _ hRj),show ((!want) == want)=false by cases want<;>rfl]
   exact hpost undef w (hsk w).1 (hsk w).2
def putV (V:Nat→Value):List Oper→Nat→Act→Act
 | [],_,a=>a
 | o :: r,i,a=>putV V r (i+1) (a.put o.dst (V i))
theorem putV_defers (V:Nat→Value):∀ (l:List Oper) (i:Nat) (a:Act),(putV V l i a).defers=a.defers
 | [],_,_=>rfl
 | o :: r,i,a=>by
  rw[putV,putV_defers V r]
  cases o.dst<;>rfl
theorem putV_other (V:Nat→Value):∀ (l:List Oper) (i:Nat) (a:Act) (t:Tmp),(∀ o∈l,o.dst≠some t)→(putV V l i a).tmps[t]? = a.tmps[t]?
 | [],_,_,_,_=>rfl
 | o :: r,i,a,t,h=>by
  rw[putV,putV_other V r _ _ t (fun x hx=>h x (List.mem_cons_of_mem _ hx)),put_other a _ (h o List.mem_cons_self)]
theorem putV_same (V:Nat→Value):∀ (l:List Oper) (i:Nat) (a:Act) (j:Nat) (o:Oper) (d:Tmp),l[j]? = some o→o.dst=some d→(∀ j' o',l[j']? = some o'→o'.dst=some d→j'=j)→d<a.tmps.size→(putV V l i a).tmps[d]? = some (V (i+j))
 | [],_,_,_,_,_,h,_,_,_=>by simp at h
 | x :: r,i,a,0,o,d,h,hd,hu,hs=>by
  obtain rfl:x=o:=by simpa using h
  rw[putV,putV_other V r _ _ d (fun y hy hyd=>by
   obtain ⟨j',hj'⟩:=List.getElem?_of_mem hy
   have:=hu (j'+1) y (by simpa using hj') hyd
   omega),hd]
  show (a.tmps.setIfInBounds d _)[d]? = _
  rw[Array.getElem?_setIfInBounds,if_pos rfl,if_pos hs]
  rfl
 | x :: r,i,a,j+1,o,d,h,hd,hu,hs=>by
  rw[putV,putV_same V r (i+1) _ j o d (by simpa using h) hd (fun j' o' h' hd'=>by
   have:=hu (j'+1) o' (by simpa using h') hd'
   omega) (by rw[put_size];exact hs)]
  congr 2
  omega
theorem InvF.done {a:Act} (R:RegF P Q F ops a0 m) (h:InvF F ops a0 L a w) (hall:∀ i,i<ops.size→on L i=true)
 (hp:∀ (V:Nat→Value),(∀ i,i<ops.size→F.kill i=[]→F.R i (V i) w)→(∀ b,F.killB b=[]→F.B b w)→Q .normal (putV V ops.toList 0 a0) w):Q .normal a w:=by
 obtain ⟨V,hV1,hV2⟩:=h.all
 have e:a=putV V ops.toList 0 a0:=by
  refine Act.ext' ?_ (by rw[putV_defers];exact h.def')
  apply Array.ext_getElem?
  intro t
  by_cases ht:∃ (i:Nat) (o:Oper),ops[i]? = some o∧o.dst=some t
  ·obtain ⟨i,o,ho,hd⟩:=ht
   rw[hV1 i t (hall i (Array.getElem?_eq_some_iff.1 ho).1) (by rw[dstOf_some ho];exact hd)]
   rw[putV_same V ops.toList 0 a0 i o t (by rw[Array.getElem?_toList];exact ho) hd (fun j' o' hj' hd'=>((R.of ho).2 t hd).2 j' (by rw[Array.getElem?_toList] at hj';rw[dstOf_some hj'];exact hd')) ((R.of ho).2 t hd).1,Nat.zero_add]
  ·rw[h.rest t (fun i hi hd=>?_),putV_other V ops.toList 0 a0 t (fun o hm hd=>?_)]
   ·obtain ⟨i,hi⟩:=List.getElem?_of_mem hm
    rw[Array.getElem?_toList] at hi
    exact ht ⟨i,o,hi,hd⟩
   ·unfold dstOf at hd
    cases hx:ops[i]? with
    | none=>rw[hx] at hd;cases hd
    | some x=>rw[hx] at hd;exact ht ⟨i,x,hx,hd⟩
 rw[e]
 exact hp V (fun i hi hk=>hV2 i (hall i hi) (by rw[hk];simp)) (fun b hb=>h.base b (by rw[hb];simp))
theorem InvF.full {a:Act} (R:RegF P Q F ops a0 m) (h:InvF F ops a0 L a w) (hr:Region.ready .any ops L=[]):∀ i,i<ops.size→on L i=true:=by
 intro i
 induction i using Nat.strongRecOn with
 | ind i ih =>
  intro hi
  have ho:ops[i]? = some ops[i]:=Array.getElem?_eq_getElem _
  cases hon:on L i with
  | true=>rfl
  | false =>
   have:i∈Region.ready .any ops L:=mem_ready.2 ⟨?_,_,ho,fun e he hb=>?_⟩
   ·rw[hr] at this;cases this
   ·unfold on at hon
    rw[Array.getD_eq_getD_getElem?,Array.getElem?_eq_getElem (by rw[h.size];exact hi)] at hon ⊢
    exact hon
   ·have hlt:=(R.of ho).1 e he hb
    exact ih e.on hlt (Nat.lt_trans hlt hi)
theorem flow_draws {id:Nat} (F:Flow) (hm:P.follows .mixedOrders=true) (R:RegF P Q F ops a0 ops.size) (hB:∀ b,F.B b w.drew)
 (hp:∀ (V:Nat→Value) (w':World),(∀ i,i<ops.size→F.kill i=[]→F.R i (V i) w')→(∀ b,F.killB b=[]→F.B b w')→Q .normal (putV V ops.toList 0 a0) w'):(Code.region id ops true).wp P Q a0 w:=by
 have key:∀ (fuel:Nat) (L:Array Bool) (a:Act) (w:World),unl L=fuel→InvF F ops a0 L a w→wpAny P .any ops Q fuel L a w:=by
  intro fuel
  induction fuel with
  | zero =>
   intro L a w hu hI
   have hall:∀ i,i<ops.size→on L i=true:=fun i hi=>unl_zero hu i (by rw[hI.size];exact hi)
   refine ⟨?_,hI.done R hall (fun V=>hp V w)⟩
   apply List.eq_nil_iff_forall_not_mem.2
   intro i hi
   obtain ⟨h1,o,ho,-⟩:=mem_ready.1 hi
   have h2:=hall i (Array.getElem?_eq_some_iff.1 ho).1
   unfold on at h2
   rw[Array.getD_eq_getD_getElem?] at h1 h2
   cases hh:L[i]? with
   | none=>rw[hh] at h1;cases h1
   | some b=>rw[hh] at h1 h2;rw[show b=false from h1] at h2;cases h2
  | succ fuel ih =>
   intro L a w hu hI
   refine ⟨fun hr=>hI.done R (hI.full R hr) (fun V=>hp V w),fun i hi=>?_⟩
   obtain ⟨h1,o,ho,hdep⟩:=mem_ready.1 hi
   have hoff:on L i=false:=by
    unfold on
    rw[Array.getD_eq_getD_getElem?] at h1 ⊢
    cases hh:L[i]? with
    | none=>rfl
    | some b=>rw[hh] at h1;exact h1
   exact wpOp_mono (fun a' w' hI'=>ih _ a' w' (by have:=unl_set h1;omega) hI') (stepF R (Array.getElem?_eq_some_iff.1 ho).1 (fun i hi=>by rw[← hI.size];exact on_lt hi) ho hoff hdep hI)
 have hoff:∀ i,on (Array.replicate ops.size false) i=false:=fun i=>by
  unfold on
  rw[Array.getD_eq_getD_getElem?,Array.getElem?_replicate]
  by_cases h:i<ops.size
  ·rw[if_pos h];rfl
  ·rw[if_neg h];rfl
 refine wp_region_any hm (key _ _ a0 _ ?_ ⟨Array.size_replicate,(fun i o _ h=>by rw[hoff] at h;cases h),rfl,rfl,fun _ _=>rfl,⟨fun _=>undef,fun i d h=>(by rw[hoff] at h;cases h),fun i h=>(by rw[hoff] at h;cases h)⟩,fun b _=>hB b⟩)
 unfold unl
 rw[Array.toList_replicate,List.countP_replicate]
 simp
structure PreF (F:Flow) (ops:Array Oper) (a0:Act) (k:Nat) (o:Oper) (a:Act) (w:World):Prop where
 n:∀ j d,depB o j=true→okK ops k (F.kill j)=true→dstOf ops j=some d→F.R j (a.eval (.tmp d)) w
 o:∀ t,freeF ops k t=true→a.eval (.tmp t)=a0.eval (.tmp t)
 b:∀ b,okK ops k (F.killB b)=true→F.B b w
def CertsF (P:Program) (Q:Exit→Act→World→Prop) (F:Flow) (ops:Array Oper) (a0:Act):Nat→List Oper→Prop
 | _,[]=>True
 | k,o :: r=>CertH P Q F ops a0 k o∧CertsF P Q F ops a0 (k+1) r
theorem certs_go:∀ (l:List Oper) (i:Nat),CertsF P Q F ops a0 i l→∀ k o,l[k]? = some o→CertH P Q F ops a0 (i+k) o
 | [],_,_,k,o,h=>by simp at h
 | x :: r,i,hc,0,o,h=>by
  obtain rfl:x=o:=by simpa using h
  exact hc.1
 | x :: r,i,hc,k+1,o,h=>by
  have:=certs_go r (i+1) hc.2 k o (by simpa using h)
  rwa[show i+1+k=i+(k+1) by omega] at this
theorem certs_of (h:CertsF P Q F ops a0 0 ops.toList):∀ k o,k<ops.size→ops[k]? = some o→CertH P Q F ops a0 k o:=fun k o _ ho=>by
 have:=certs_go ops.toList 0 h k o (by rw[Array.getElem?_toList];exact ho)
 rwa[Nat.zero_add] at this
def evo (ev:Tmp→Value):Operand→Value
 | .tmp t=>ev t
 | .const v=>v
 | .global g=>.pointer (some ⟨g,0,none⟩)
 | .func f=>.func (.func f) #[] #[]
def seenT (T:List Tmp) (o:Oper):Bool:=
 (match o.op with | .select _ _=>false|_=>true) && o.op.operands.all (fun x=>match x with | .tmp t=>T.contains t|_=>true)
theorem exec_ev {a:Act} {o:Oper} (ev:Tmp→Value) (T:List Tmp) (h:seenT T o=true) (he:∀ t∈T,a.eval (.tmp t)=ev t):execOp a.eval o=execOp (evo ev) o:=by
 simp only[seenT,Bool.and_eq_true] at h
 refine execOp_congr o (fun cs b he=>?_) (fun x hx=>?_)
 ·rw[he] at h;exact absurd h.1 (by simp)
 ·have h1:=Array.all_eq_true'.1 h.2 x hx
  cases x with
  | tmp t=>exact he t (by simpa using h1)
  | const v=>rfl
  | global g=>rfl
  | func f=>rfl
theorem cf_val {k:Nat} {o:Oper} (h:∀ (a:Act) (w:World),PreF F ops a0 k o a w→∃ v w',(execOp a.eval o).run P w=.ok (.value v) w'∧F.E k w w'∧F.R k v w'):CertF P Q F ops a0 k o:=by
 intro a w K h1 h2 h3 hK
 obtain ⟨v,w',hr,hE,hR⟩:=h a w ⟨h1,h2,h3⟩
 unfold Oper.wp
 rw[hr]
 exact hK v w' hE hR
theorem cf_one {k:Nat} {o:Oper} (t:Tmp) (h:∀ (a:Act) (w:World),PreF F ops a0 k o a w→∃ v w',(seenT [t] o=true)∧(execOp (evo fun _=>a.eval (.tmp t)) o).run P w=.ok (.value v) w'∧F.E k w w'∧F.R k v w'):CertF P Q F ops a0 k o:=by
 refine cf_val fun a w hp=>?_
 obtain ⟨v,w',hs,hr,hE⟩:=h a w hp
 refine ⟨v,w',?_,hE⟩
 rw[exec_ev (fun _=>a.eval (.tmp t)) [t] hs (fun x hx=>by rw[show x=t by simpa using hx])]
 exact hr
theorem cf_call {k:Nat} {o:Oper} (t:Tmp) (h:∀ (a:Act) (w:World),PreF F ops a0 k o a w→∃ f args,(seenT [t] o=true)∧(execOp (evo fun _=>a.eval (.tmp t)) o).run P w=.ok (.enter f args) w∧Calls P f args w (Ret fun e w'=>F.E k w w'∧F.R k e w')):CertF P Q F ops a0 k o:=by
 intro a w K h1 h2 h3 hK
 obtain ⟨f,args,hs,hr,hc⟩:=h a w ⟨h1,h2,h3⟩
 unfold Oper.wp
 rw[exec_ev (fun _=>a.eval (.tmp t)) [t] hs (fun x hx=>by rw[show x=t by simpa using hx]),hr,Oper.upon_enter]
 refine hc.mono ?_
 rintro e w' ⟨v,rfl,hE,hR⟩
 exact hK _ _ hE hR
theorem cf_load {k:Nat} {o:Oper} (T:TypeId) (t:Tmp) (ho:o.op=.load T (.tmp t)) (hu:(P.underlying T).map (·.isRow)=some true)
 (h:∀ (a:Act) (w:World),PreF F ops a0 k o a w→∃ g off cs,a.eval (.tmp t)=.pointer (some ⟨g,off,none⟩)∧w.rangeAt g off cs∧(P.info? T).map (·.size)=some cs.length∧F.E k w w∧F.R k (.agg cs.toArray) w):CertF P Q F ops a0 k o:=by
 intro a w K h1 h2 h3 hK
 obtain ⟨g,off,cs,he,hr,hi,hE,hR⟩:=h a w ⟨h1,h2,h3⟩
 obtain ⟨d,hu,hd⟩:=Option.map_eq_some_iff.1 hu
 exact wp_load_mid T (.tmp t) ho g off he cs d hr hu hd hi (hK _ _ hE hR)
theorem cf_app {k:Nat} {o:Oper} (s u:Tmp) (t:TypeId) (ho:o.op=.call { callee:=.builtin .append,args:=#[.tmp s,.tmp u],argTypes:=#[t,t] })
 (h:∀ (a:Act) (w:World),PreF F ops a0 k o a w→∃ v w',(Builtin.append_ #[t,t] o.type #[a.eval (.tmp s),a.eval (.tmp u)]).run P w=.ok v w'∧F.E k w w'∧F.R k v w'):CertF P Q F ops a0 k o:=by
 intro a w K h1 h2 h3 hK
 obtain ⟨v,w',hr,hE,hR⟩:=h a w ⟨h1,h2,h3⟩
 unfold Oper.wp execOp
 simp only[ho,resolve,invoke,builtin,Sem.run_bind,Sem.run_pure,Result.andThen_ok,List.map_toArray,List.map_cons,List.map_nil,hr]
 exact hK _ _ hE hR
theorem certs_but (h:CertsF P Q F ops a0 0 (ops.toList.take m)):∀ k o,k<m→ops[k]? = some o→CertH P Q F ops a0 k o:=fun k o hk ho=>by
 have:=certs_go (ops.toList.take m) 0 h k o (by rw[List.getElem?_take,if_pos hk,Array.getElem?_toList];exact ho)
 rwa[Nat.zero_add] at this
theorem InvF.act {a:Act} (R:RegF P Q F ops a0 m) (h:InvF F ops a0 L a w) (hm:m≤ops.size) (hall:∀ i,on L i=true↔i<m) {V:Nat→Value} (hV1:∀ i d,on L i=true→dstOf ops i=some d→a.tmps[d]? = some (V i)):a=putV V (ops.toList.take m) 0 a0:=by
 refine Act.ext' ?_ (by rw[putV_defers];exact h.def')
 apply Array.ext_getElem?
 intro t
 by_cases ht:∃ (i:Nat) (o:Oper),i<m∧ops[i]? = some o∧o.dst=some t
 ·obtain ⟨i,o,him,ho,hd⟩:=ht
  rw[hV1 i t ((hall i).2 him) (by rw[dstOf_some ho];exact hd)]
  rw[putV_same V (ops.toList.take m) 0 a0 i o t (by rw[List.getElem?_take,if_pos him,Array.getElem?_toList];exact ho) hd (fun j' o' hj' hd'=>((R.of ho).2 t hd).2 j' (by
   rw[List.getElem?_take] at hj'
   split at hj'
   ·rw[Array.getElem?_toList] at hj';rw[dstOf_some hj'];exact hd'
   ·cases hj')) ((R.of ho).2 t hd).1,Nat.zero_add]
 ·rw[h.rest t (fun i hi hd=>?_),putV_other V (ops.toList.take m) 0 a0 t (fun o hm' hd=>?_)]
  ·obtain ⟨i,hi⟩:=List.getElem?_of_mem hm'
   rw[List.getElem?_take] at hi
   split at hi
   ·rename_i him
    rw[Array.getElem?_toList] at hi
    exact ht ⟨i,o,him,hi,hd⟩
   ·cases hi
  ·unfold dstOf at hd
   cases hx:ops[i]? with
   | none=>rw[hx] at hd;cases hd
   | some x=>rw[hx] at hd;exact ht ⟨i,x,(hall i).1 hi,hx,hd⟩
theorem flow_last {id:Nat} (F:Flow) (n:Nat) (hn:ops.size=n+1) (hd:(List.range n).all (fun j=>depOn ops n j || (List.range n).any (fun i=>depOn ops n i && depOn ops i j))=true) (hm:P.follows .mixedOrders=true) (R:RegF P Q F ops a0 n) (hB:∀ b,F.B b w.drew)
 (hp:∀ (V:Nat→Value) (w':World),(∀ i,i<n→F.kill i=[]→F.R i (V i) w')→(∀ b,F.killB b=[]→F.B b w')→wpList P ops Q (ops.toList.drop n) (putV V (ops.toList.take n) 0 a0) w'):(Code.region id ops true).wp P Q a0 w:=by
 have hon':ops[n]? = some (ops[n]'(by omega)):=Array.getElem?_eq_getElem _
 have key:∀ (fuel:Nat) (L:Array Bool) (a:Act) (w:World),unl L=fuel→on L n=false→InvF F ops a0 L a w→wpAny P .any ops Q fuel L a w:=by
  intro fuel
  induction fuel with
  | zero =>
   intro L a w hu hoff hI
   have:=unl_zero hu n (by rw[hI.size];omega)
   rw[hoff] at this;cases this
  | succ fuel ih =>
   intro L a w hu hoff hI
   refine ⟨fun hr=>?_,fun i hi=>?_⟩
   ·have:=hI.full R hr n (by omega)
    rw[hoff] at this;cases this
   ·obtain ⟨h1,o,ho,hdep⟩:=mem_ready.1 hi
    have his:i<ops.size:=(Array.getElem?_eq_some_iff.1 ho).1
    have hoi:on L i=false:=by
     unfold on
     rw[Array.getD_eq_getD_getElem?] at h1 ⊢
     cases hh:L[i]? with
     | none=>rfl
     | some b=>rw[hh] at h1;exact h1
    by_cases hin:i=n
    ·subst hin
     have hall:∀ j,on L j=true↔j<i:=fun j=>by
      constructor
      ·intro hj
       have h2:j<ops.size:=by rw[← hI.size];exact on_lt hj
       rcases Nat.lt_or_ge j i with h|h
       ·exact h
       ·obtain rfl:j=i:=by omega
        rw[hoff] at hj;cases hj
      ·intro hj
       have hdir:∀ j,depOn ops i j=true→on L j=true:=fun j h2=>by
        unfold depOn at h2
        rw[ho] at h2
        obtain ⟨e,he,hb⟩:=Array.any_eq_true'.1 h2
        simp only[Bool.and_eq_true,beq_iff_eq] at hb
        have:=hdep e he hb.1
        rw[hb.2] at this
        exact this
       have h2:=List.all_eq_true.1 hd j (List.mem_range.2 hj)
       rw[Bool.or_eq_true] at h2
       rcases h2 with h2|h2
       ·exact hdir j h2
       ·obtain ⟨x,hx,h3⟩:=List.any_eq_true.1 h2
        rw[Bool.and_eq_true] at h3
        have hxo:=hdir x h3.1
        have hxs:x<ops.size:=by have:=List.mem_range.1 hx;omega
        have hox:ops[x]? = some ops[x]:=Array.getElem?_eq_getElem hxs
        have h4:=h3.2
        unfold depOn at h4
        rw[hox] at h4
        exact dep_on (ho:=hox) hI h4 hxo
     obtain ⟨V,hV1,hV2⟩:=hI.all
     have ha:=hI.act R (by omega) hall hV1
     have hkl:∀ l:List Nat,l=[]→∀ x∈l,on L x=false:=fun l hl x hx=>by rw[hl] at hx;cases hx
     have hfin:=hp V w (fun j hj hk=>hV2 j ((hall j).2 hj) (hkl _ hk)) (fun b hb=>hI.base b (hkl _ hb))
     have hdrop:ops.toList.drop i=[o]:=by
      have hlen:ops.toList.length=i+1:=by rw[Array.length_toList];exact hn
      rw[List.drop_eq_getElem_cons (by omega),List.drop_of_length_le (by omega)]
      have:ops.toList[i]? = some o:=by rw[Array.getElem?_toList];exact ho
      rw[List.getElem?_eq_getElem (by omega)] at this
      rw[Option.some.inj this]
     rw[hdrop,← ha] at hfin
     have hop:wpOp P ops Q i (fun a' w'=>Q .normal a' w') a w:=by
      unfold wpOp
      rw[ho]
      exact hfin
     refine wpOp_mono (fun a' w' hq=>?_) hop
     have hon2:∀ j,j<ops.size→on (L.setIfInBounds i true) j=true:=fun j hj=>by
      rw[on_set (by rw[hI.size];omega)]
      by_cases h:j<i
      ·rw[(hall j).2 h,Bool.true_or]
      ·rw[show j=i by omega];simp
     have hr:Region.ready .any ops (L.setIfInBounds i true)=[]:=by
      apply List.eq_nil_iff_forall_not_mem.2
      intro j hj
      obtain ⟨h1,o',ho',-⟩:=mem_ready.1 hj
      have h2:=hon2 j (Array.getElem?_eq_some_iff.1 ho').1
      unfold on at h2
      rw[Array.getD_eq_getD_getElem?] at h1 h2
      cases hh:(L.setIfInBounds i true)[j]? with
      | none=>rw[hh] at h1;cases h1
      | some b=>rw[hh] at h1 h2;rw[show b=false from h1] at h2;cases h2
     cases fuel with
     | zero=>exact ⟨hr,hq⟩
     | succ f=>exact ⟨fun _=>hq,fun j hj=>by rw[hr] at hj;cases hj⟩
    ·refine wpOp_mono (fun a' w' hI'=>ih _ a' w' (by have:=unl_set h1;omega) ?_ hI') (stepF R (by omega) (fun j hj=>?_) ho hoi hdep hI)
     ·rw[on_set (by rw[hI.size];exact his),hoff]
      simpa using hin
     ·have h2:j<ops.size:=by rw[← hI.size];exact on_lt hj
      rcases Nat.lt_or_ge j n with h|h
      ·exact h
      ·obtain rfl:j=n:=by omega
       rw[hoff] at hj;cases hj
 have hoff:∀ i,on (Array.replicate ops.size false) i=false:=fun i=>by
  unfold on
  rw[Array.getD_eq_getD_getElem?,Array.getElem?_replicate]
  by_cases h:i<ops.size
  ·rw[if_pos h];rfl
  ·rw[if_neg h];rfl
 refine wp_region_any hm (key _ _ a0 _ ?_ (hoff n) ⟨Array.size_replicate,(fun i o _ h=>by rw[hoff] at h;cases h),rfl,rfl,fun _ _=>rfl,⟨fun _=>undef,fun i d h=>(by rw[hoff] at h;cases h),fun i h=>(by rw[hoff] at h;cases h)⟩,fun b _=>hB b⟩)
 unfold unl
 rw[Array.toList_replicate,List.countP_replicate]
 simp
end RG
section
open Go.RowKit Go.Sort Go.Deep
variable {P:Nat} [NeZero P] {N:Nat}
theorem u8_ne {p:Option Addr} {n c:Nat} {x:UInt8}:encB x≠.slice p n c:=fun h=>by cases h
def El (n:Nat) (W:World) (x:Value) (b:Bs):Prop:=∃ k c,x=.slice (some ⟨k,0,none⟩) n c∧n≤c∧b.size=n∧k<W.heap.size∧Holds encB W k 0 b
def isL (n:Nat) (W:World) (g:Nat):Prop:=∃ p c,W.cell? ⟨g,0,none⟩=some (.slice p n c)
structure Gr (n:Nat) (v:Value) (W W':World):Prop where
 gr:W.grownBy W' v.ownBlock
 is:∀ g,v.ownBlock=some g→isL n W g
theorem Gr.of {W W':World} {n:Nat} (h:Below W.heap.size W W'):Gr n (.slice none 0 0) W W':=
 ⟨⟨h.os,h.tape,h.output,h.size,fun k hk _=>h.block k hk⟩,fun g hg=>by cases hg⟩
theorem Gr.below {n:Nat} {v:Value} {w W W':World} {B:Nat} (h:Gr n v W W') (hb:Below B w W) (hB:B≤W.heap.size) (hv:∀ g,v.ownBlock=some g→B≤g):Below B w W':=
 hb.grown h.gr hB (fun k hk=>hv k hk)
theorem Gr.block {n k:Nat} {v:Value} {W W':World} (h:Gr n v W W') (hk:k<W.heap.size) (hne:∀ p c,W.cell? ⟨k,0,none⟩≠some (.slice p n c)):W'.heap[k]? = W.heap[k]? :=
 h.gr.block k hk fun e=>by
  obtain ⟨p,c,hc⟩:=h.is k e.symm
  exact hne p c hc
theorem Holds.kept {W W':World} {k:Nat} {b:Bs} (h:Holds encB W k 0 b) (e:W'.heap[k]? = W.heap[k]?):Holds encB W' k 0 b:=fun j hj=>by
 rw[World.cell?_of_block (a:=⟨k,0+j,none⟩) e,World.frozen?_of_block (a:=⟨k,0+j,none⟩) e]
 exact h j hj
theorem El.kept {m n:Nat} {v x:Value} {W W':World} {b:Bs} (h:El m W x b) (hm:0<m) (hg:Gr n v W W'):El m W' x b:=by
 obtain ⟨k,c,rfl,h1,h2,h3,h4⟩:=h
 refine ⟨k,c,rfl,h1,h2,Nat.lt_of_lt_of_le h3 hg.gr.size,Holds.kept h4 (hg.block h3 fun p c' hc=>?_)⟩
 have:=(h4 0 (by omega)).1
 rw[Nat.zero_add,hc] at this
 exact u8_ne (Option.some.inj this).symm
theorem Row.kept {n k:Nat} {v:Value} {W W':World} {vs:List Value} (h:Row W k vs) (hg:Gr n v W W') (hne:∀ p c,vs[0]?≠some (.slice p n c)) (hl:0<vs.length):Row W' k vs:=by
 have e:=hg.block h.1 fun p c hc=>by
  have h0:=h.2.1 0 vs[0] (List.getElem?_eq_getElem hl)
  rw[Nat.zero_add,hc] at h0
  exact hne p c (by rw[List.getElem?_eq_getElem hl,h0])
 refine ⟨Nat.lt_of_lt_of_le h.1 hg.gr.size,fun j u hj=>?_,fun j hj=>?_⟩
 ·rw[World.cell?_of_block (a:=⟨k,0+j,none⟩) e];exact h.2.1 j u hj
 ·rw[World.cell?_of_block (a:=⟨k,0+j,none⟩) e,World.frozen?_of_block (a:=⟨k,0+j,none⟩) e];exact h.2.2 j hj
structure Lo (n base:Nat) (W:World) (v:Value) (bs:List Bs):Prop where
 ex:∃ xs:List Value,xs.length=bs.length∧W.ownsRow base 22 1 v bs.length xs∧∀ (j:Nat) (x:Value) (b:Bs),xs[j]? = some x→bs[j]? = some b→El n W x b
 nil:bs=[]→v=.slice none 0 0
theorem Lo.begin (n base:Nat) (W:World):Lo n base W (.slice none 0 0) []:=⟨⟨[],rfl,World.ownsRow_nil _ _ _ _,fun j x b h=>by cases h⟩,fun _=>rfl⟩
theorem add0 (g j:Nat):(⟨g,0,none⟩:Addr).add j=⟨g,j,none⟩:=by unfold Addr.add;split<;>simp_all
theorem Lo.isL {n base:Nat} {W:World} {v:Value} {bs:List Bs} (h:Lo n base W v bs) {g:Nat} (hg:v.ownBlock=some g):isL n W g:=by
 obtain ⟨xs,h1,h2,h3⟩:=h.ex
 have hne:bs≠[]:=fun e=>by rw[h.nil e] at hg;cases hg
 cases bs with
 | nil=>exact absurd rfl hne
 | cons b r =>
  cases xs with
  | nil=>cases h1
  | cons x xr =>
   obtain ⟨k,c,rfl,-⟩:=h3 0 x b rfl rfl
   have:=h2.cells hg 0 _ rfl
   rw[add0] at this
   exact ⟨_,_,this⟩
theorem Lo.lt {n base:Nat} {W:World} {v:Value} {bs:List Bs} (h:Lo n base W v bs):∀ g,v.ownBlock=some g→base≤g∧g<W.heap.size:=by
 obtain ⟨xs,h1,h2,h3⟩:=h.ex
 exact h2.lt
theorem Lo.kept {m n base:Nat} {W W':World} {v v':Value} {bs:List Bs} (h:Lo m base W v bs) (hm:0<m) (hg:Gr n v' W W') (hne:m≠n):Lo m base W' v bs:=by
 have hL:=fun {g}=>h.isL (g:=g)
 obtain ⟨xs,h1,h2,h3⟩:=h.ex
 refine ⟨⟨xs,h1,h2.kept hg.gr ?_,fun j x b hx hb=>(h3 j x b hx hb).kept hm hg⟩,h.nil⟩
 cases hv:v.ownBlock with
 | none=>exact Or.inl rfl
 | some g =>
  refine Or.inr fun e=>hne ?_
  obtain ⟨p,c,hc⟩:=hL hv
  obtain ⟨p',c',hc'⟩:=hg.is g e.symm
  rw[hc] at hc'
  injection hc' with hc'
  injection hc' with _ h5 _
theorem infoB:(Tryz.prog.info? 22).map (fun i=>(i.size,i.bytes,i.zero.map fun z=>z.cells.size))=some (1,24,some 1):=by kernel_rfl
theorem undB:Tryz.prog.underlying 44=some (.slice 22):=by kernel_rfl
theorem Lo.app {n base g:Nat} {W:World} {v x:Value} {bs:List Bs} {b:Bs} (h:Lo n base W v bs) (hn:0<n) (hx:El n W x b) (hc:W.cell? ⟨g,0,none⟩=some x) (hk:bs.length≤1000000) (hb:base≤W.heap.size) :
 ∃ v' W',(Builtin.append_ #[44,44] 44 #[v,.slice (some ⟨g,0,none⟩) 1 1]).run Tryz.prog W=.ok v' W'∧Lo n base W' v' (bs++[b])∧Gr n v W W':=by
 obtain ⟨i,hi,he⟩:=Option.map_eq_some_iff.1 infoB
 simp only[Prod.mk.injEq] at he
 obtain ⟨h1,h2,h3⟩:=he
 obtain ⟨z,hz,hz2⟩:=Option.map_eq_some_iff.1 h3
 obtain ⟨xs,x1,x2,x3⟩:=h.ex
 obtain ⟨v',W',r1,r2,r3,r4⟩:=run_append_own (P:=Tryz.prog) W base 44 44 22 i z 1 24 undB hi hz h1 h2 hz2 (by decide) v bs.length xs x2 ⟨g,0,none⟩ 1 1 [x] rfl
  (fun j u hj=>by
   cases j with
   | zero =>
    obtain rfl:x=u:=by simpa using hj
    rw[add0];exact hc
   | succ j=>simp at hj) (fun u hu=>by
   obtain rfl:u=x:=by simpa using hu
   obtain ⟨k,c,rfl,-⟩:=hx
   rfl) (by unfold maxLen;omega) (by omega) hb
 have G:Gr n v W W':=⟨r3,fun g hg=>h.isL hg⟩
 refine ⟨v',W',r1,⟨⟨xs++[x],by simp[x1],by rw[List.length_append];exact r2,fun j y c hy hcy=>?_⟩,fun e=>by simp at e⟩,G⟩
 by_cases hj:j<bs.length
 ·rw[List.getElem?_append_left (by omega)] at hy hcy
  exact (x3 j y c hy hcy).kept hn G
 ·rw[List.getElem?_append_right (by omega)] at hy hcy
  rw[x1] at hy
  cases hjj:j-bs.length with
  | zero =>
   rw[hjj] at hy hcy
   obtain rfl:x=y:=by simpa using hy
   obtain rfl:b=c:=by simpa using hcy
   exact hx.kept hn G
  | succ d=>rw[hjj] at hy;simp at hy
theorem ptBytes_c {a:Bs} (ha:a.size=33) (w:World):Calls Tryz.prog 85 #[pvl a] w (Ret fun e w'=>Below w.heap.size w w'∧El 33 w' e a):=by
 have B1:=Hid.mk' (boxCP ha w)
 obtain ⟨w1,hw1⟩:∃ w1,Hid (w.alloc (.cells (bl33 a).toArray 54)=w1):=⟨_,rfl⟩
 rw[hw1.out] at B1
 have K:Hid (Row w1 w.heap.size (bl33 a)∧Below w.heap.size w w1):=by rw[← hw1.out];exact ⟨row_new w _ _,below1 w _⟩
 obtain ⟨va,hva⟩:∃ v,Hid (pvl a=v):=⟨_,rfl⟩
 have B1':Hid ((Instr.box 54 va).run Tryz.prog w=.ok (.pointer (some ⟨w.heap.size,0,none⟩)) w1):=by rw[← hva.out];exact B1
 rw[hva.out]
 have hs:=slCP w.heap.size
 clear B1 hw1
 go_enter Tryz.func85,Tryz.ntmps85
 go_wp2_with (first|(refine wpList_box (u:=va) (v:=.pointer (some ⟨w.heap.size,0,none⟩)) (w':=w1) rfl 54 (.tmp 0) rfl ?_ ?_ ?_;rfl;exact B1'.out))
 go_ret
 exact ⟨_,rfl,K.out.2,w.heap.size,33,rfl,by omega,ha,K.out.1.1,row_holds K.out.1⟩
end
section
open Go.RowKit Go.Sort Go.Deep
variable {P:Nat} [NeZero P] {N:Nat}
def Bo (n B0:Nat) (W:World) (v:Value) (b:Bs):Prop:=∃ k x,v=.slice (some ⟨k,0,none⟩) 1 1∧B0≤k∧k<W.heap.size∧W.cell? ⟨k,0,none⟩=some x∧El n W x b
theorem Bo.kept {m n B0:Nat} {W W':World} {v u:Value} {b:Bs} (h:Bo n B0 W v b) (hn:0<n) (hg:Gr m u W W') (hu:∀ g,u.ownBlock=some g→g<B0):Bo n B0 W' v b:=by
 obtain ⟨k,x,rfl,h1,h2,h3,h4⟩:=h
 refine ⟨k,x,rfl,h1,Nat.lt_of_lt_of_le h2 hg.gr.size,?_,h4.kept hn hg⟩
 rw[World.cell?_of_block (a:=⟨k,0,none⟩) (hg.gr.block k h2 fun e=>by have:=hu k e.symm;omega)]
 exact h3
def Tm (W:World) (q:Option Addr) (k:Nat) (ns:Nat→Nat) (az:Nat→Bs):Prop:=0<k→∃ g,q=some ⟨g,0,none⟩∧g<W.heap.size∧∀ j,j<k→W.rangeAt g (37*j) (wn (ns j)++bl33 (az j))
theorem Tm.kept {m k:Nat} {W W':World} {u:Value} {q:Option Addr} {ns:Nat→Nat} {az:Nat→Bs} (h:Tm W q k ns az) (hg:Gr m u W W'):Tm W' q k ns az:=fun hk=>by
 obtain ⟨g,h1,h2,h3⟩:=h hk
 refine ⟨g,h1,Nat.lt_of_lt_of_le h2 hg.gr.size,fun j hj i v hv=>?_⟩
 have e:=hg.block h2 fun p c hc=>by
  have h0:=h3 0 hk 0 _ (show (wn (ns 0)++bl33 (az 0))[0]? = some _ from rfl)
  rw[show 37*0+0=0 from rfl,hc] at h0
  cases h0
 rw[World.cell?_of_block (a:=⟨g,37*j+i,none⟩) e]
 exact h3 j hj i v hv
section
variable (w0:World) (v3 v4:Value) (k6 n B0 base:Nat) (p:Bs) (bs cs:List Bs) (q:Option Addr) (k:Nat) (ns:Nat→Nat) (az:Nat→Bs)
def PR:Nat→Value→World→Prop
 | 0,v,_=>v=v3
 | 1,v,_=>v=.pointer (some ⟨k6,0,none⟩)
 | 2,v,_=>v=nv n
 | 3,v,w=>El 32 w v (bx n)
 | 4,v,w=>Bo 32 B0 w v (bx n)
 | 5,v,w=>Lo 32 base w v (bs++[bx n])
 | 6,v,_=>v=v4
 | 7,v,_=>v=.pointer (some ⟨k6,4,none⟩)
 | 8,v,_=>v=pvl p
 | 9,v,w=>El 33 w v p
 | 10,v,w=>Bo 33 B0 w v p
 | 11,v,w=>Lo 33 base w v (cs++[p])
 | 12,v,w=>Lo 32 base w v (bs++[bx n])
 | 13,v,w=>Lo 33 base w v (cs++[p])
 | _,_,_=>True
def PBs:Nat→World→Prop
 | 0,w=>Row w k6 (wn n++bl33 p)
 | 1,w=>Lo 32 base w v3 bs
 | 2,w=>Lo 33 base w v4 cs
 | 3,w=>Below base w0 w∧base≤w.heap.size∧B0≤w.heap.size
 | 4,w=>Tm w q k ns az
 | 5,w=>Row w base z33
 | _,_=>True
def PE:Nat→World→World→Prop
 | 5=>Gr 32 v3
 | 11=>Gr 33 v4
 | _=>Gr 0 (.slice none 0 0)
def Pk1:Nat→List Nat
 | 4=>[5]
 | 10=>[11]
 | _=>[]
def Pk2:Nat→List Nat
 | 1=>[5]
 | 2=>[11]
 | _=>[]
def FP:RG.Flow:=⟨PR v3 v4 k6 n B0 base p bs cs,PBs w0 v3 v4 k6 n B0 base p bs cs q k ns az,PE v3 v4,Pk1,Pk2⟩
theorem PE_any {i:Nat} {w w':World} (h:PE v3 v4 i w w'):∃ m u,Gr m u w w'∧((i=5∧m=32∧u=v3)∨(i=11∧m=33∧u=v4)∨(i≠5∧i≠11∧m=0∧u=.slice none 0 0)):=by
 unfold PE at h
 split at h
 ·exact ⟨_,_,h,Or.inl ⟨rfl,rfl,rfl⟩⟩
 ·exact ⟨_,_,h,Or.inr (Or.inl ⟨rfl,rfl,rfl⟩)⟩
 ·rename_i h1 h2
  exact ⟨_,_,h,Or.inr (Or.inr ⟨h1,h2,rfl,rfl⟩)⟩
variable (hv3:∀ g,v3.ownBlock=some g→base≤g∧g<B0) (hv4:∀ g,v4.ownBlock=some g→base≤g∧g<B0)
include hv3 hv4
theorem PE_own {i m:Nat} {u:Value} (h:(i=5∧m=32∧u=v3)∨(i=11∧m=33∧u=v4)∨(i≠5∧i≠11∧m=0∧u=.slice none 0 0)):∀ g,u.ownBlock=some g→base≤g∧g<B0:=by
 rcases h with ⟨-,-,rfl⟩|⟨-,-,rfl⟩|⟨-,-,-,rfl⟩
 ·exact hv3
 ·exact hv4
 ·intro g hg;cases hg
theorem P_stab (i j:Nat) (hj:j<14) (hij:i≠j) (hk:(Pk1 j).contains i=false) (h1:¬ (j=12∧i=5)) (h2:¬ (j=13∧i=11)) (v:Value) (w w':World) (hE:PE v3 v4 i w w') (hR:PR v3 v4 k6 n B0 base p bs cs j v w):PR v3 v4 k6 n B0 base p bs cs j v w':=by
 obtain ⟨m,u,hg,hc⟩:=PE_any v3 v4 hE
 have hu:=PE_own v3 v4 B0 base hv3 hv4 hc
 have m32:m=32→i=5:=fun h=>by rcases hc with ⟨h1,-⟩|⟨-,h2,-⟩|⟨-,-,h2,-⟩<;>omega
 have m33:m=33→i=11:=fun h=>by rcases hc with ⟨-,h2,-⟩|⟨h1,-⟩|⟨-,-,h2,-⟩<;>omega
 match j,hj,hR with
 | 0,_,h=>exact h
 | 1,_,h=>exact h
 | 2,_,h=>exact h
 | 3,_,h=>exact El.kept h (by decide) hg
 | 4,_,h=>exact Bo.kept h (by decide) hg fun g hgg=>(hu g hgg).2
 | 5,_,h=>exact Lo.kept h (by decide) hg fun e=>hij (m32 e.symm)
 | 6,_,h=>exact h
 | 7,_,h=>exact h
 | 8,_,h=>exact h
 | 9,_,h=>exact El.kept h (by decide) hg
 | 10,_,h=>exact Bo.kept h (by decide) hg fun g hgg=>(hu g hgg).2
 | 11,_,h=>exact Lo.kept h (by decide) hg fun e=>hij (m33 e.symm)
 | 12,_,h=>exact Lo.kept h (by decide) hg fun e=>h1 ⟨rfl,m32 e.symm⟩
 | 13,_,h=>exact Lo.kept h (by decide) hg fun e=>h2 ⟨rfl,m33 e.symm⟩
 | _+14,hj,_=>omega
theorem P_stabB (i b:Nat) (hk:(Pk2 b).contains i=false) (w w':World) (hE:PE v3 v4 i w w') (hR:PBs w0 v3 v4 k6 n B0 base p bs cs q k ns az b w):PBs w0 v3 v4 k6 n B0 base p bs cs q k ns az b w':=by
 obtain ⟨m,u,hg,hc⟩:=PE_any v3 v4 hE
 have hu:=PE_own v3 v4 B0 base hv3 hv4 hc
 have m32:m=32→i=5:=fun h=>by rcases hc with ⟨h1,-⟩|⟨-,h2,-⟩|⟨-,-,h2,-⟩<;>omega
 have m33:m=33→i=11:=fun h=>by rcases hc with ⟨-,h2,-⟩|⟨h1,-⟩|⟨-,-,h2,-⟩<;>omega
 match b,hk,hR with
 | 0,_,h=>exact Row.kept h hg (fun p c e=>by cases e) (by rw[List.length_append];exact Nat.lt_of_lt_of_le (by decide) (Nat.le_add_right 4 _))
 | 1,hk,h=>exact Lo.kept h (by decide) hg fun e=>by rw[m32 e.symm] at hk;cases hk
 | 2,hk,h=>exact Lo.kept h (by decide) hg fun e=>by rw[m33 e.symm] at hk;cases hk
 | 3,_,h=>exact ⟨hg.below h.1 h.2.1 fun g hgg=>(hu g hgg).1,Nat.le_trans h.2.1 hg.gr.size,Nat.le_trans h.2.2 hg.gr.size⟩
 | 4,_,h=>exact Tm.kept h hg
 | 5,_,h=>exact Row.kept h hg (fun p c e=>by cases e) (by decide)
 | _+6,_,_=>trivial
end
end
section
open Go.RowKit Go.Sort Go.Deep
variable {P:Nat} [NeZero P] {N:Nat}
theorem Lo.drew {n base:Nat} {W:World} {v:Value} {bs:List Bs} (h:Lo n base W v bs):Lo n base W.drew v bs:=⟨h.ex,h.nil⟩
theorem SumR.all (C:Fld P) (O:Ord N) {w w':World} {k:Nat} (hk:k≤512) {ns:Nat→Nat} {X:Nat→EC.Pt P} (hn:∀ j,j<k→ns j<N) (hX:∀ j,j<k→EC.On (X j)) {L M:Nat→Bs} (hL:∀ j,j<k→L j=bx (ns j)) (hM:∀ j,j<k→M j=wr (X j)) {e:Value} (h:SumR P N w k k L M e w') :
 OutP w (wr (EC.tot X k (fun j=>(ns j:Int)))) e w':=by
 have hq:∀ j,j<k→rq N (L j)=some (ns j):=fun j hj=>by
  rw[hL j hj]
  have hb:beV (bx (ns j)).toList=ns j:=bx_val (Nat.lt_of_lt_of_le (hn j hj) O.le)
  unfold rq
  rw[if_pos ⟨bx_size _,by rw[hb];exact hn j hj⟩,hb]
 have hr:∀ j,j<k→∃ p,rd P (M j)=some p∧pt p=X j:=fun j hj=>by rw[hM j hj];exact rd_wr C (hX j hj)
 rcases h with ⟨h,-⟩|⟨-,h,-⟩|⟨-,-,⟨⟨j,hj,hn'⟩,-⟩|⟨ns',hns,⟨⟨j,hj,hn'⟩,-⟩|⟨xs,ys,hxy,h⟩⟩⟩
 ·exact absurd rfl h
 ·omega
 ·rw[hq j hj] at hn';cases hn'
 ·obtain ⟨p,hp,-⟩:=hr j hj
  rw[hp] at hn';cases hn'
 ·have e1:∀ j,j<k→ns' j=ns j:=fun j hj=>by
   have:=hns j hj
   rw[hq j hj] at this
   exact (Option.some.inj this).symm
  have hp:∀ j,j<k→EC.Pair (xs j) (ys j) (X j)∧EC.On (X j):=fun j hj=>by
   obtain ⟨p,hp,hpt⟩:=hr j hj
   have h1:=hxy j hj
   rw[hp] at h1
   have h2:=Option.some.inj h1
   have h3:=rd_on C hp
   rw[hpt] at h3
   rw[h2] at h3
   exact h3
  have hJ:=sumJ_all C (ns:=ns') (xs:=xs) (ys:=ys) (p:=X) (N:=k) (fun i hi=>by rw[e1 i hi];exact Nat.lt_of_lt_of_le (hn i hi) O.le) (fun i hi=>(hp i hi).1) (fun i hi=>(hp i hi).2)
  have e2:EC.tot X k (fun j=>(ns' j:Int))=EC.tot X k (fun j=>(ns j:Int)):=EC.tot_congr k fun j hj=>by rw[e1 j hj]
  rw[e2] at hJ
  rw[← by33_wr C (hJ.pair C) hJ.2]
  exact h
structure Pz (w W:World) (q:Option Addr) (k i:Nat) (ns:Nat→Nat) (az:Nat→Bs) (s3 s4:Value):Prop where
 bl:Below w.heap.size w W
 l3:Lo 32 w.heap.size W s3 ((List.range i).map fun j=>bx (ns j))
 l4:Lo 33 w.heap.size W s4 ((List.range i).map az)
 tm:Tm W q k ns az
 r2:Row W w.heap.size z33
theorem El.of_made {w w':World} {k n:Nat} {b:Bs} (h:RG.Made w k (cb b) w') (hb:b.size=n):El n w' (.slice (some ⟨k,0,none⟩) n n) b:=⟨k,n,rfl,Nat.le_refl _,hb,h.lt,cb_holds h.range h.there⟩
theorem Bo.of {n B0:Nat} {w:World} {x:Value} {b:Bs} (h:El n w x b) (hn:0<n) (hB:B0≤w.heap.size) (T:TypeId):Bo n B0 (w.alloc (.cells #[x] T)) (.slice (some ⟨w.heap.size,0,none⟩) 1 1) b:=
 ⟨w.heap.size,x,rfl,hB,by rw[World.size_alloc];omega,by rw[World.cell?_alloc_new];rfl,h.kept hn (Gr.of (n:=0) (below1 w _))⟩
theorem Lo.args {n base:Nat} {W:World} {v:Value} {bs:List Bs} (h:Lo n base W v bs):∃ q cap,v=.slice q bs.length cap∧(0<bs.length→∃ g,q=some ⟨g,0,none⟩∧g<W.heap.size∧∀ (j:Nat) (b:Bs),bs[j]? = some b→∃ x,W.cell? ⟨g,j,none⟩=some x∧El n W x b):=by
 obtain ⟨xs,h1,h2,h3⟩:=h.ex
 have h4:=fun {g:Nat}=>h2.cells (g:=g)
 rcases h2.2 with ⟨rfl,h0⟩|⟨g,cap,cur,rfl,-,hc,-⟩
 ·exact ⟨none,0,by rw[h0],fun h=>by omega⟩
 ·refine ⟨_,_,rfl,fun _=>⟨g,rfl,(Array.getElem?_eq_some_iff.1 hc).1,fun j b hb=>?_⟩⟩
  have hj:j<xs.length:=by rw[h1];exact (List.getElem?_eq_some_iff.1 hb).1
  have:=h4 (g:=g) rfl j xs[j] (List.getElem?_eq_getElem hj)
  rw[add0] at this
  exact ⟨_,this,h3 j _ b (List.getElem?_eq_getElem hj) hb⟩
theorem El.arg {W:World} {x:Value} {b:Bs} (h:El 32 W x b):Arg W x b:=by
 obtain ⟨k,c,rfl,h1,h2,h3,h4⟩:=h
 exact ⟨_,_,_,rfl,h2,fun _=>⟨k,0,rfl,h1,h3,h4⟩⟩
theorem El.arg33 {W:World} {x:Value} {b:Bs} (h:El 33 W x b):Arg33 W x b:=by
 obtain ⟨k,c,rfl,h1,h2,h3,h4⟩:=h
 exact ⟨_,_,_,rfl,h2,fun _=>⟨k,0,rfl,h1,h3,h4⟩⟩
theorem sumPoint_g (C:Fld P) (O:Ord N) (v:Value) (w:World) (k:Nat) (hk:k≤512) (ns:Nat→Nat) (X:Nat→EC.Pt P) (hn:∀ j,j<k→ns j<N) (hX:∀ j,j<k→EC.On (X j))
 (hmer:∀ W,Below w.heap.size w W→Calls Tryz.prog 124 #[v] W (Ret fun e w'=>Below W.heap.size W w'∧∃ q cap,e=.slice q k cap∧Tm w' q k ns (fun j=>wr (X j)))) :
 Calls Tryz.prog 75 #[v] w (Ret fun e w'=>Below w.heap.size w w'∧e=pvl (wr (EC.tot X k (fun j=>(ns j:Int))))):=by
 have HM:=Hid.mk' hmer
 have HC:Hid (Fld P∧Ord N∧(∀ j,j<k→ns j<N)∧∀ j,j<k→EC.On (X j)):=⟨C,O,hn,hX⟩
 obtain ⟨az,haz⟩:∃ az:Nat→Bs,Hid ((fun j=>wr (X j))=az):=⟨_,rfl⟩
 have haz':Hid (∀ j,az j=wr (X j)):=fun j=>by rw[← haz.out]
 rw[haz.out] at HM
 obtain ⟨w1,hw1⟩:∃ w1,Hid (w.alloc (.cells z33.toArray 54)=w1):=⟨_,rfl⟩
 have K1:Hid (Row w1 w.heap.size z33∧Below w.heap.size w w1):=by rw[← hw1.out];exact ⟨row_new w _ _,below1 w _⟩
 obtain ⟨d,hd1,hd2⟩:=Option.map_eq_some_iff.1 uCP
 obtain ⟨d',hd3,hd4⟩:=Option.map_eq_some_iff.1 uT
 have HD:Hid ((Tryz.prog.underlying 54=some d∧d.isRow=true)∧Tryz.prog.underlying 167=some d'∧d'.isRow=true):=⟨⟨hd1,hd2⟩,hd3,hd4⟩
 clear hd1 hd2 hd3 hd4 hmer hn hX haz C O
 go_enter Tryz.func75,Tryz.ntmps75
 go_wp2_with (refine wpList_op (v:=.pointer (some ⟨w.heap.size,0,none⟩)) (w':=w1) rfl (.alloc 54) rfl ?_ ?_;(rw[← hw1.out];kernel_rfl))
 clear hw1
 refine (HM.out w1 K1.out.2).mono ?_
 rintro e w2 ⟨vv,rfl,hb2,q,cap,rfl,hT⟩
 have K2:Hid (Pz w w2 q k 0 ns az (.slice none 0 0) (.slice none 0 0)):=⟨K1.out.2.trans (hb2.mono K1.out.2.size),Lo.begin _ _ _,Lo.begin _ _ _,hT,K1.out.1.below hb2⟩
 clear hb2 hT K1 HM
 go_wp2_with fail
 go_loopg [3,4,12] k (fun m s3 s4 s12 W=>∃ i:Nat,i+m=k∧s12=.int .i64 i∧Hid (Pz w W q k i ns az s3 s4))
 case atStart=>exact ⟨0,by omega,rfl,K2⟩
 case round =>
  clear K2
  obtain ⟨i,hik,rfl,KM⟩:=hrel
  by_cases hi:i<k
  ·have hi':(i:Int)<(k:Int):=by omega
   obtain ⟨g,hq,hg,hr⟩:=KM.out.tm (by omega)
   subst hq
   obtain ⟨n,hne⟩:∃ n,Hid (ns i=n):=⟨_,rfl⟩
   obtain ⟨p,hpe⟩:∃ p,Hid (az i=p):=⟨_,rfl⟩
   have B0:Hid (wr.rangeAt g (37*i) (wn n++bl33 p)):=by
    have h:=hr i hi
    rw[hne.out,hpe.out] at h
    exact h
   have hps:Hid (p.size=33):=by rw[← hpe.out,haz'.out i];exact wr_size _
   have hnN:Hid (n<N):=by rw[← hne.out];exact HC.out.2.2.1 i hi
   obtain ⟨W1,hW1⟩:∃ W1,Hid (wr.alloc (.cells zT.toArray 167)=W1):=⟨_,rfl⟩
   obtain ⟨W2,hW2⟩:∃ W2,Hid (W1.setCells wr.heap.size 0 (wn n++bl33 p)=W2):=⟨_,rfl⟩
   have hlen:(wn n++bl33 p).length=37:=by rw[List.length_append,bl33_length hps.out];rfl
   have F1:Hid (Row W1 wr.heap.size zT∧Below wr.heap.size wr W1∧W1.heap.size=wr.heap.size+1):=by rw[← hW1.out];exact ⟨row_new wr _ _,below1 wr _,World.size_alloc _ _⟩
   have F2:Hid (Row W2 wr.heap.size (wn n++bl33 p)∧Below wr.heap.size wr W2):=by rw[← hW2.out];exact ⟨F1.out.1.put (by rw[hlen];rfl),RG.below_setCells (Nat.le_refl _) _ _ _ F1.out.2.1⟩
   have HLT:Hid ((Tryz.prog.info? 167).map (·.size)=some (wn n++bl33 p).length):=by show _=_;rw[hlen];exact iT
   have HLS:Hid ((Tryz.prog.info? 167).map (·.size)=some (wn n++bl33 p).toArray.size∧W1.there wr.heap.size 0 (wn n++bl33 p).toArray.size):=by
    have e:(wn n++bl33 p).toArray.size=37:=by rw[List.size_toArray];exact hlen
    rw[e];exact ⟨iT,F1.out.1.2.2⟩
   have HAL:Hid ((wn n++bl33 p).toArray.all (·.oneCell')=true):=by
    show _=_
    rw[Array.all_eq_true']
    intro u hu
    exact cells_one n p u (List.mem_toArray.1 hu)
   have hix:=atT g 0 k cap i hi
   obtain ⟨vt,hvt⟩:∃ v,Hid (Value.agg (wn n++bl33 p).toArray=v):=⟨_,rfl⟩
   have G2:Gr 0 (.slice none 0 0) wr W2:=Gr.of F2.out.2
   have HB:Hid (∀ b,PBs w u3 u4 wr.heap.size n W2.heap.size w.heap.size p ((List.range i).map fun j=>bx (ns j)) ((List.range i).map az) (some ⟨g,0,none⟩) k ns az b W2.drew):=fun b=>by
    match b with
    | 0=>exact F2.out.1
    | 1=>exact (KM.out.l3.kept (by decide) G2 (by decide)).drew
    | 2=>exact (KM.out.l4.kept (by decide) G2 (by decide)).drew
    | 3=>exact ⟨(KM.out.bl.trans (F2.out.2.mono KM.out.bl.size)).drew,Nat.le_trans KM.out.bl.size F2.out.2.size,Nat.le_refl _⟩
    | 4=>exact KM.out.tm.kept (W':=W2) G2
    | 5=>exact KM.out.r2.below (W':=W2) F2.out.2
    | _+6=>trivial
   have H3:Hid (∀ g,u3.ownBlock=some g→w.heap.size≤g∧g<W2.heap.size):=fun g hg=>⟨(KM.out.l3.lt g hg).1,Nat.lt_of_lt_of_le (KM.out.l3.lt g hg).2 F2.out.2.size⟩
   have H4:Hid (∀ g,u4.ownBlock=some g→w.heap.size≤g∧g<W2.heap.size):=fun g hg=>⟨(KM.out.l4.lt g hg).1,Nat.lt_of_lt_of_le (KM.out.l4.lt g hg).2 F2.out.2.size⟩
   have HG:=Hid.mk' hg
   clear hlen hr G2 KM F2 hg
   go_wp2_with (first|(refine wpList_load_mid rfl 167 _ rfl g (37*i) ?_ (wn n++bl33 p) d' ?_ ?_ ?_ ?_ ?_;rfl;exact B0.out;exact HD.out.2.1;exact HD.out.2.2;exact HLT.out;rw[hvt.out])|(refine wpList_op (v:=.pointer (some ⟨wr.heap.size,0,none⟩)) (w':=W1) rfl (.alloc 167) rfl ?_ ?_;(rw[← hW1.out];kernel_rfl))|(refine wpList_store_mid rfl 167 _ _ rfl wr.heap.size 0 (wn n++bl33 p).toArray ?_ ?_ ?_ ?_ ?_ ?_;rfl;exact hvt.out.symm;exact HLS.out.2;exact HLS.out.1;exact HAL.out;rw[show (wn n++bl33 p).toArray.toList=wn n++bl33 p from rfl,hW2.out])|fail)
   refine RG.flow_draws (FP w u3 u4 wr.heap.size n W2.heap.size w.heap.size p ((List.range i).map fun j=>bx (ns j)) ((List.range i).map az) (some ⟨g,0,none⟩) k ns az) (by kernel_rfl) ⟨by kernel_rfl,RG.certs_of ?_,fun i' j hi0 hj hij hkl hdp=>P_stab u3 u4 wr.heap.size n W2.heap.size w.heap.size p _ _ H3.out H4.out i' j hj hij hkl (fun h=>by rw[h.1,h.2] at hdp;exact absurd (show false=true from hdp.symm.trans (by kernel_rfl)) (by decide)) (fun h=>by rw[h.1,h.2] at hdp;exact absurd (show false=true from hdp.symm.trans (by kernel_rfl)) (by decide)),fun i' b _ hkl=>P_stabB w u3 u4 wr.heap.size n W2.heap.size w.heap.size p _ _ _ k ns az H3.out H4.out i' b hkl⟩ HB.out ?_
   ·have hb0:∀ W:World,Gr 0 (.slice none 0 0) W W:=fun W=>Gr.of (Below.refl _ _)
    refine ⟨RG.cf_one 3 fun a W hp=>⟨a.eval (.tmp 3),W,by kernel_rfl,by kernel_rfl,hb0 W,hp.o 3 (by kernel_rfl)⟩,
     RG.cf_one 6 fun a W hp=>⟨.pointer (some ⟨wr.heap.size,0,none⟩),W,by kernel_rfl,by rw[show a.eval (.tmp 6)=.pointer (some ⟨wr.heap.size,0,none⟩) from hp.o 6 (by kernel_rfl)];kernel_rfl,hb0 W,rfl⟩,
     RG.cf_load 49 17 rfl u40 fun a W hp=>⟨wr.heap.size,0,wn n,hp.n 1 17 (by kernel_rfl) (by kernel_rfl) (by kernel_rfl),range_front (show Row W wr.heap.size (wn n++bl33 p) from hp.b 0 (by kernel_rfl)).2.1,i40,hb0 W,rfl⟩,
     RG.cf_call 18 fun a W hp=>⟨39,#[nv n],by kernel_rfl,by rw[show a.eval (.tmp 18)=nv n from hp.n 2 18 (by kernel_rfl) (by kernel_rfl) (by kernel_rfl)];kernel_rfl,(sbytes_c HC.out.2.1 hnN.out W).mono (by
      rintro e W' ⟨u,rfl,k',hm,rfl⟩
      exact ⟨_,rfl,Gr.of hm.bel,El.of_made hm (bx_size n)⟩)⟩,
     RG.cf_one 19 fun a W hp=>⟨.slice (some ⟨W.heap.size,0,none⟩) 1 1,W.alloc (.cells #[a.eval (.tmp 19)] 22),by kernel_rfl,by
      obtain ⟨k',c',he,-⟩:=show El 32 W (a.eval (.tmp 19)) (bx n) from hp.n 3 19 (by kernel_rfl) (by kernel_rfl) (by kernel_rfl)
      rw[he];kernel_rfl,Gr.of (below1 W _),Bo.of (show El 32 W (a.eval (.tmp 19)) (bx n) from hp.n 3 19 (by kernel_rfl) (by kernel_rfl) (by kernel_rfl)) (by decide) (hp.b 3 (by kernel_rfl)).2.2 _⟩,
     RG.cf_app 16 20 44 rfl fun a W hp=>?_,
     RG.cf_one 4 fun a W hp=>⟨a.eval (.tmp 4),W,by kernel_rfl,by kernel_rfl,hb0 W,hp.o 4 (by kernel_rfl)⟩,
     RG.cf_one 6 fun a W hp=>⟨.pointer (some ⟨wr.heap.size,4,none⟩),W,by kernel_rfl,by rw[show a.eval (.tmp 6)=.pointer (some ⟨wr.heap.size,0,none⟩) from hp.o 6 (by kernel_rfl)];kernel_rfl,hb0 W,rfl⟩,
     RG.cf_load 54 23 rfl uCP fun a W hp=>⟨wr.heap.size,4,bl33 p,hp.n 7 23 (by kernel_rfl) (by kernel_rfl) (by kernel_rfl),range_back (xs:=wn n) (show Row W wr.heap.size (wn n++bl33 p) from hp.b 0 (by kernel_rfl)).2.1,by rw[bl33_length hps.out];exact infoCP,hb0 W,rfl⟩,
     RG.cf_call 24 fun a W hp=>⟨85,#[pvl p],by kernel_rfl,by rw[show a.eval (.tmp 24)=pvl p from hp.n 8 24 (by kernel_rfl) (by kernel_rfl) (by kernel_rfl)];kernel_rfl,(ptBytes_c hps.out W).mono (by
      rintro e W' ⟨u,rfl,hb,hE⟩
      exact ⟨_,rfl,Gr.of hb,hE⟩)⟩,
     RG.cf_one 25 fun a W hp=>⟨.slice (some ⟨W.heap.size,0,none⟩) 1 1,W.alloc (.cells #[a.eval (.tmp 25)] 22),by kernel_rfl,by
      obtain ⟨k',c',he,-⟩:=show El 33 W (a.eval (.tmp 25)) p from hp.n 9 25 (by kernel_rfl) (by kernel_rfl) (by kernel_rfl)
      rw[he];kernel_rfl,Gr.of (below1 W _),Bo.of (show El 33 W (a.eval (.tmp 25)) p from hp.n 9 25 (by kernel_rfl) (by kernel_rfl) (by kernel_rfl)) (by decide) (hp.b 3 (by kernel_rfl)).2.2 _⟩,
     RG.cf_app 22 26 44 rfl fun a W hp=>?_,
     RG.cf_one 21 fun a W hp=>⟨a.eval (.tmp 21),W,by kernel_rfl,by kernel_rfl,hb0 W,hp.n 5 21 (by kernel_rfl) (by kernel_rfl) (by kernel_rfl)⟩,
     RG.cf_one 27 fun a W hp=>⟨a.eval (.tmp 27),W,by kernel_rfl,by kernel_rfl,hb0 W,hp.n 11 27 (by kernel_rfl) (by kernel_rfl) (by kernel_rfl)⟩,trivial⟩
    ·obtain ⟨k',x,he,h1,h2,h3,h4⟩:=show Bo 32 W2.heap.size W (a.eval (.tmp 20)) (bx n) from hp.n 4 20 (by kernel_rfl) (by kernel_rfl) (by kernel_rfl)
     obtain ⟨v',W',r1,r2,r3⟩:=Lo.app (show Lo 32 w.heap.size W u3 _ from hp.b 1 (by kernel_rfl)) (by decide) h4 h3 (by rw[List.length_map,List.length_range];omega) (hp.b 3 (by kernel_rfl)).2.1
     refine ⟨v',W',?_,r3,r2⟩
     rw[he,show a.eval (.tmp 16)=u3 from hp.n 0 16 (by kernel_rfl) (by kernel_rfl) (by kernel_rfl)]
     exact r1
    ·obtain ⟨k',x,he,h1,h2,h3,h4⟩:=show Bo 33 W2.heap.size W (a.eval (.tmp 26)) p from hp.n 10 26 (by kernel_rfl) (by kernel_rfl) (by kernel_rfl)
     obtain ⟨v',W',r1,r2,r3⟩:=Lo.app (show Lo 33 w.heap.size W u4 _ from hp.b 2 (by kernel_rfl)) (by decide) h4 h3 (by rw[List.length_map,List.length_range];omega) (hp.b 3 (by kernel_rfl)).2.1
     refine ⟨v',W',?_,r3,r2⟩
     rw[he,show a.eval (.tmp 22)=u4 from hp.n 6 22 (by kernel_rfl) (by kernel_rfl) (by kernel_rfl)]
     exact r1
   ·intro V w5 hR5 hB5
    have KN:Hid (Pz w w5 (some ⟨g,0,none⟩) k (i+1) ns az (V 12) (V 13)):=by
     have h1:=hR5 12 (Nat.lt_of_succ_le (Nat.le_of_ble_eq_true (by kernel_rfl))) rfl
     have h2:=hR5 13 (Nat.lt_of_succ_le (Nat.le_of_ble_eq_true (by kernel_rfl))) rfl
     refine ⟨(hB5 3 rfl).1,?_,?_,hB5 4 rfl,hB5 5 rfl⟩
     ·rw[List.range_succ,List.map_append]
      show Lo 32 w.heap.size w5 (V 12) (_++[bx (ns i)])
      rw[hne.out];exact h1
     ·rw[List.range_succ,List.map_append]
      show Lo 33 w.heap.size w5 (V 13) (_++[az i])
      rw[hpe.out];exact h2
    clear hR5 hB5 HB H3 H4
    dsimp only[RG.putV,Nat.reduceAdd]
    generalize V 12=s3 at KN ⊢
    generalize V 13=s4 at KN ⊢
    go_wp2
    go_roundg (gk-1)
    case measure=>omega
    case rel=>exact ⟨i+1,by omega,rfl,KN⟩
  ·have hi':¬ (i:Int)<(k:Int):=by omega
   obtain rfl:i=k:=by omega
   obtain ⟨q3,c3,rfl,h3⟩:=KM.out.l3.args
   obtain ⟨q4,c4,rfl,h4⟩:=KM.out.l4.args
   rw[List.length_map,List.length_range] at h3 h4
   have HA:Hid (ArgsScs wr q3 i (fun j=>bx (ns j))):=fun h0=>by
    obtain ⟨g,e1,e2,e3⟩:=h3 h0
    refine ⟨g,e1,e2,fun j hj=>?_⟩
    obtain ⟨x,x1,x2⟩:=e3 j (bx (ns j)) (by rw[List.getElem?_map,List.getElem?_range hj];rfl)
    exact ⟨x,x1,x2.arg⟩
   have HP:Hid (ArgsPts wr q4 i az):=fun h0=>by
    obtain ⟨g,e1,e2,e3⟩:=h4 h0
    refine ⟨g,e1,e2,fun j hj=>?_⟩
    obtain ⟨x,x1,x2⟩:=e3 j (az j) (by rw[List.getElem?_map,List.getElem?_range hj];rfl)
    exact ⟨x,x1,x2.arg33⟩
   rw[List.length_map,List.length_range,List.length_map,List.length_range]
   have KB:Hid (Below w.heap.size w wr∧Row wr w.heap.size z33):=⟨KM.out.bl,KM.out.r2⟩
   clear h3 h4 KM
   go_wp2_with fail
   refine (gSum_c HC.out.1 HC.out.2.1.gap HC.out.2.1.le q3 q4 i c3 i c4 (fun j=>bx (ns j)) az wr HA.out HP.out).mono ?_
   rintro e w6 ⟨vv,rfl,hb6,hS⟩
   obtain ⟨gs,cs,rfl,-,-,h6,h7⟩:=SumR.all HC.out.1 HC.out.2.1 (by omega) HC.out.2.2.1 HC.out.2.2.2 (fun _ _=>rfl) (fun j _=>haz'.out j) hS
   obtain ⟨T,hT⟩:∃ T,Hid (Go.Proofs.YtglhhepedoffeaaGreat.wr (EC.tot X i (fun j=>(ns j:Int)))=T):=⟨_,rfl⟩
   have hTs:T.size=33:=by rw[← hT.out];exact wr_size _
   rw[hT.out] at h7
   have K6:Hid (Row w6 w.heap.size z33∧Below w.heap.size w w6∧Row w6 gs (bl33 T)):=⟨KB.out.2.below hb6,KB.out.1.trans (hb6.mono KB.out.1.size),row_cp h7 h6⟩
   clear hb6 hS h6 h7 KB HA HP
   have harr:=arrCP gs cs
   obtain ⟨w7,hw7⟩:∃ w7,Hid (w6.setCells w.heap.size 0 (bl33 T)=w7):=⟨_,rfl⟩
   have hlen:(bl33 T).length=33:=bl33_length hTs
   have K7:Hid (Row w7 w.heap.size (bl33 T)∧Below w.heap.size w w7):=by rw[← hw7.out];exact ⟨K6.out.1.put (by rw[hlen];rfl),RG.below_setCells (Nat.le_refl _) _ _ _ K6.out.2.1⟩
   obtain ⟨vt,hvt⟩:∃ vt,Hid (Value.agg (bl33 T).toArray=vt):=⟨_,rfl⟩
   have HI:Hid ((Tryz.prog.info? 54).map (·.size)=some (bl33 T).length∧w6.there w.heap.size 0 (bl33 T).toArray.size∧(Tryz.prog.info? 54).map (·.size)=some (bl33 T).toArray.size):=by
    have e:(bl33 T).toArray.size=33:=by rw[List.size_toArray];exact hlen
    refine ⟨by rw[hlen];exact infoCP,by rw[e];exact K6.out.1.2.2,by rw[e];exact infoCP⟩
   clear hlen
   go_wp2_with (first|(refine wpList_load_mid rfl 54 _ rfl gs 0 ?_ (bl33 T) d ?_ ?_ ?_ ?_ ?_;rfl;exact K6.out.2.2.2.1;exact HD.out.1.1;exact HD.out.1.2;exact HI.out.1;rw[hvt.out])|(refine wpList_store_mid rfl 54 _ _ rfl w.heap.size 0 (bl33 T).toArray ?_ ?_ ?_ ?_ ?_ ?_;rfl;exact hvt.out.symm;exact HI.out.2.1;exact HI.out.2.2;exact bl33_one T;rw[show (bl33 T).toArray.toList=bl33 T from rfl,hw7.out]))
   refine bodyPost_ret (results_cell 2 54 rfl K7.out.1 rfl uCP HI.out.1) rfl ?_
   exact ⟨_,rfl,K7.out.2,by rw[hT.out];rfl⟩
theorem one_point (C:Fld P) (O:Ord N) {g c n:Nat} (hn:n<N) {X:EC.Pt P} (hX:EC.On X) (w:World) (hR:Row w g (wn n++bl33 (wr X))) :
 Calls Tryz.prog 75 #[.slice (some ⟨g,0,none⟩) 1 c] w (Ret fun e w'=>Below w.heap.size w w'∧e=pvl (wr (EC.mul n X))):=by
 by_cases h0:n=0
 ·subst h0
  refine (sumPoint_g C O _ w 0 (by decide) (fun _=>0) (fun _=>X) (fun j hj=>by omega) (fun j hj=>by omega) fun W hb=>?_).mono ?_
  ·refine (merged_0 g c (wr X) (wr_size X) W (hR.below hb).1 (hR.below hb).2.1).mono ?_
   rintro e w' ⟨v,rfl,hb',q,cap,rfl⟩
   exact ⟨_,rfl,hb',q,cap,rfl,fun h=>by omega⟩
  ·rintro e w' ⟨v,rfl,hb',rfl⟩
   exact ⟨_,rfl,hb',rfl⟩
 ·refine (sumPoint_g C O _ w 1 (by decide) (fun _=>n) (fun _=>X) (fun j hj=>hn) (fun j hj=>hX) fun W hb=>?_).mono ?_
  ·have e1:mrg N (fun _=>n) (fun _=>wr X) 1=[(n,wr X)]:=rfl
   have h:=merged_d (N:=N) g 1 c (by decide) (fun _=>n) (fun _=>wr X) (fun _ _=>wr_size X) (fun i hi=>by
    obtain rfl:i=0:=by omega
    rfl) (fun x hx=>by
    rw[e1] at hx
    obtain rfl:x=(n,wr X):=by simpa using hx
    exact ⟨h0,Nat.lt_of_lt_of_le hn O.le⟩) (by rw[e1];exact Nat.lt_succ_self 0) W (hR.below hb).1 (fun j hj=>by
    obtain rfl:j=0:=by omega
    exact (hR.below hb).2.1)
   refine h.mono ?_
   rintro e w' ⟨v,rfl,hb',g',cap,rfl,h1,h2,h3⟩
   refine ⟨_,rfl,hb',some ⟨g',0,none⟩,cap,rfl,fun _=>⟨g',rfl,h2,fun j hj=>?_⟩⟩
   have:=h3 j hj
   obtain rfl:j=0:=by omega
   exact this
  ·rintro e w' ⟨v,rfl,hb',rfl⟩
   exact ⟨_,rfl,hb',rfl⟩
theorem times_c (C:Fld P) (O:Ord N) {n:Nat} (hn:n<N) {X:EC.Pt P} (hX:EC.On X):Gives 34 #[nv n,pvl (wr X)] (pvl (wr (EC.mul n X))):=by
 intro w
 have HC:Hid (Fld P∧Ord N∧n<N∧EC.On X):=⟨C,O,hn,hX⟩
 obtain ⟨a,hae⟩:∃ a,Hid (wr X=a):=⟨_,rfl⟩
 have ha:a.size=33:=by rw[← hae.out];exact wr_size X
 rw[hae.out]
 clear C O hn hX
 have B2:=Hid.mk' (boxS n w)
 obtain ⟨w1,hw1⟩:∃ w1,Hid (w.alloc (.cells (wn n).toArray 49)=w1):=⟨_,rfl⟩
 rw[hw1.out] at B2
 have e1:w1.heap.size=w.heap.size+1:=by rw[← hw1.out,World.size_alloc]
 have B1:=Hid.mk' (boxCP ha w1)
 obtain ⟨w2,hw2⟩:∃ w2,Hid (w1.alloc (.cells (bl33 a).toArray 54)=w2):=⟨_,rfl⟩
 rw[hw2.out,e1] at B1
 have e2:w2.heap.size=w.heap.size+2:=by rw[← hw2.out,World.size_alloc,e1]
 obtain ⟨w3,hw3⟩:∃ w3,Hid (w2.alloc (.cells z33.toArray 54)=w3):=⟨_,rfl⟩
 have K:Hid (Row w3 w.heap.size (wn n)∧Row w3 (w.heap.size+1) (bl33 a)∧Row w3 (w.heap.size+2) z33∧Below w.heap.size w w3):=by
  have q1:Row w1 w.heap.size (wn n):=by rw[← hw1.out];exact row_new w _ _
  have q2:Row w2 (w.heap.size+1) (bl33 a):=by rw[← hw2.out,← e1];exact row_new w1 _ _
  have q3:Row w3 (w.heap.size+2) z33:=by rw[← hw3.out,← e2];exact row_new w2 _ _
  have b1:Below w.heap.size w w1:=by rw[← hw1.out];exact below1 w _
  have b2:Below w1.heap.size w1 w2:=by rw[← hw2.out];exact below1 w1 _
  have b3:Below w2.heap.size w2 w3:=by rw[← hw3.out];exact below1 w2 _
  exact ⟨(q1.below b2).below b3,q2.below b3,q3,(b1.trans (b2.mono (by omega))).trans (b3.mono (by omega))⟩
 have HE:Hid (w2.heap.size=w.heap.size+2):=e2
 have HL:Hid ((Tryz.prog.info? 54).map (·.size)=some (bl33 a).length):=by show _=_;rw[bl33_length ha];exact infoCP
 obtain ⟨d,hd1,hd2⟩:=Option.map_eq_some_iff.1 uCP
 obtain ⟨d',hd3,hd4⟩:=Option.map_eq_some_iff.1 u40
 have HD:Hid ((Tryz.prog.underlying 54=some d∧d.isRow=true)∧Tryz.prog.underlying 49=some d'∧d'.isRow=true):=⟨⟨hd1,hd2⟩,hd3,hd4⟩
 clear hd1 hd2 hd3 hd4 hw1 hw2 e1 e2
 obtain ⟨va,hva⟩:∃ v,Hid (pvl a=v):=⟨_,rfl⟩
 obtain ⟨vn,hvn⟩:∃ v,Hid (nv n=v):=⟨_,rfl⟩
 have B1':Hid ((Instr.box 54 va).run Tryz.prog w1=.ok (.pointer (some ⟨w.heap.size+1,0,none⟩)) w2):=by rw[← hva.out];exact B1
 rw[hvn.out] at B2
 rw[hva.out,hvn.out]
 clear B1
 go_enter Tryz.func34,Tryz.ntmps34
 go_wp2_with (first|(refine wpList_box (u:=vn) (v:=.pointer (some ⟨w.heap.size,0,none⟩)) (w':=w1) rfl 49 (.tmp 0) rfl ?_ ?_ ?_;rfl;exact B2.out)|(refine wpList_box (u:=va) (v:=.pointer (some ⟨w.heap.size+1,0,none⟩)) (w':=w2) rfl 54 (.tmp 1) rfl ?_ ?_ ?_;rfl;exact B1'.out)|(refine wpList_op (v:=.pointer (some ⟨w.heap.size+2,0,none⟩)) (w':=w3) rfl (.alloc 54) rfl ?_ ?_;(rw[← hw3.out,← HE.out];kernel_rfl))|(refine wpList_load_mid rfl 49 _ rfl w.heap.size 0 ?_ (wn n) d' ?_ ?_ ?_ ?_ ?_;rfl;exact K.out.1.2.1;exact HD.out.2.1;exact HD.out.2.2;exact i40;rw[show Value.agg (wn n).toArray=vn from hvn.out])|(refine wpList_load_mid rfl 54 _ rfl (w.heap.size+1) 0 ?_ (bl33 a) d ?_ ?_ ?_ ?_ ?_;rfl;exact K.out.2.1.2.1;exact HD.out.1.1;exact HD.out.1.2;exact HL.out;rw[show Value.agg (bl33 a).toArray=va from hva.out]))
 have HT:=ptTimes_c a ha n w3
 rw[hva.out,hvn.out] at HT
 refine HT.mono ?_
 rintro e w4 ⟨vv,rfl,hb4,k4,rfl,-,hR4⟩
 have K4:Hid (Row w4 (w.heap.size+2) z33∧Below w.heap.size w w4∧Row w4 k4 (wn n++bl33 a)):=⟨K.out.2.2.1.below hb4,K.out.2.2.2.trans (hb4.mono K.out.2.2.2.size),hR4⟩
 clear hb4 hR4 K HT B2 B1' hw3 HE
 go_wp2_with fail
 refine (one_point HC.out.1 HC.out.2.1 HC.out.2.2.1 HC.out.2.2.2 w4 (by rw[hae.out];exact K4.out.2.2)).mono ?_
 rintro e w5 ⟨vv,rfl,hb5,rfl⟩
 obtain ⟨T,hT⟩:∃ T,Hid (wr (EC.mul n X)=T):=⟨_,rfl⟩
 have hTs:T.size=33:=by rw[← hT.out];exact wr_size _
 rw[hT.out]
 have K5:Hid (Row w5 (w.heap.size+2) z33∧Below w.heap.size w w5):=⟨K4.out.1.below hb5,K4.out.2.1.trans (hb5.mono K4.out.2.1.size)⟩
 clear hb5 K4
 obtain ⟨w6,hw6⟩:∃ w6,Hid (w5.setCells (w.heap.size+2) 0 (bl33 T)=w6):=⟨_,rfl⟩
 have hlen:(bl33 T).length=33:=bl33_length hTs
 have K6:Hid (Row w6 (w.heap.size+2) (bl33 T)∧Below w.heap.size w w6):=by rw[← hw6.out];exact ⟨K5.out.1.put (by rw[hlen];rfl),RG.below_setCells (by omega) _ _ _ K5.out.2⟩
 obtain ⟨vt,hvt⟩:∃ vt,Hid (pvl T=vt):=⟨_,rfl⟩
 have HI:Hid ((Tryz.prog.info? 54).map (·.size)=some (bl33 T).length∧w5.there (w.heap.size+2) 0 (bl33 T).toArray.size∧(Tryz.prog.info? 54).map (·.size)=some (bl33 T).toArray.size):=by
  have e:(bl33 T).toArray.size=33:=by rw[List.size_toArray];exact hlen
  refine ⟨by rw[hlen];exact infoCP,by rw[e];exact K5.out.1.2.2,by rw[e];exact infoCP⟩
 clear hlen
 rw[hvt.out]
 go_wp2_with (first|(refine wpList_store_mid rfl 54 _ _ rfl (w.heap.size+2) 0 (bl33 T).toArray ?_ ?_ ?_ ?_ ?_ ?_;rfl;exact hvt.out.symm;exact HI.out.2.1;exact HI.out.2.2;exact bl33_one T;rw[show (bl33 T).toArray.toList=bl33 T from rfl,hw6.out]))
 refine bodyPost_ret (results_cell 4 54 rfl K6.out.1 rfl uCP HI.out.1) rfl ?_
 exact ⟨_,rfl,K6.out.2,by rw[hT.out];rfl⟩
theorem undU:Tryz.prog.underlying 22=some (.slice 5):=by kernel_rfl
theorem undI:Tryz.prog.underlying 3=some (.int .i64):=by kernel_rfl
theorem infoU:(Tryz.prog.info? 5).map (fun i=>(i.size,i.bytes,i.zero.map fun z=>z.cells.size))=some (1,1,some 1):=by kernel_rfl
theorem atB (k o n c i:Nat) (hi:i<n) (w:World):(Instr.indexAt 44 (.slice (some ⟨k,o,none⟩) n c) (.int .i64 i)).run Tryz.prog w=.ok (.pointer (some ⟨k,o+1*i,none⟩)) w:=by
 have h1:¬ (i:Int)<0:=by omega
 have h2:(i:Int)<n:=by omega
 go_simp
theorem grow_c (n:Nat) (hn:n≤10000000) (w:World):Calls Tryz.prog 91 #[.slice none 0 0,.int .i64 n] w (Ret fun e w'=>Below w.heap.size w w'∧w'.ownsRow w.heap.size 5 1 e 0 []):=by
 by_cases h0:n=0
 ·subst h0
  go_enter Tryz.func91,Tryz.ntmps91
  go_wp2
  go_ret
  exact ⟨_,rfl,Below.refl _ _,World.ownsRow_nil _ _ _ _⟩
 ·obtain ⟨i,hi,he⟩:=Option.map_eq_some_iff.1 infoU
  simp only[Prod.mk.injEq] at he
  obtain ⟨h1,h2,h3⟩:=he
  obtain ⟨z,hz,hz2⟩:=Option.map_eq_some_iff.1 h3
  have hr:=Lib.run_append_nil_zeros (P:=Tryz.prog) w 22 3 22 5 i z .i64 .i64 undU undI hi hz n (by omega) (by omega) (by omega) (by rw[h2];omega)
  have hcap:=grownCap_ge w n 0 5
  have hcap2:=grownCap_le_maxLen w n 0 5 (by unfold maxLen;omega)
  have hcs:(Builtin.zeroCells z.cells n++Builtin.zeroCells z.cells (grownCap w n 0 5-n)).size=grownCap w n 0 5*1:=by rw[Array.size_append,size_zeroCells,size_zeroCells,hz2];omega
  generalize grownCap w n 0 5=cp at hr hcap hcap2 hcs
  generalize Builtin.zeroCells z.cells n++Builtin.zeroCells z.cells (cp-n)=cur at hr hcs
  obtain ⟨w1,hw1⟩:∃ w1,Hid (w.drew.alloc (.cells cur 5)=w1):=⟨_,rfl⟩
  rw[hw1.out] at hr
  have HR:=Hid.mk' hr
  have K:Hid (Below w.heap.size w w1∧w1.ownsRow w.heap.size 5 1 (.slice (some ⟨w.heap.size,0,none⟩) 0 cp) 0 []):=by
   rw[← hw1.out]
   exact ⟨(Below.refl _ _).drew.alloc (Nat.le_refl _) _,World.ownsRow_made w.drew cur cp (Nat.le_refl _) hcap2 hcs⟩
  clear hr hw1 hcs hi hz hz2 h1 h2 h3
  have hn1:(0:Int)<(n:Int):=by omega
  have hn2:¬ ((n:Int)<0):=by omega
  have hw:IntKind.i64.wrap (n:Int)=n:=by rw[IntKind.wrap_i64];omega
  go_enter Tryz.func91,Tryz.ntmps91
  go_wp2_with (at_builtin;refine Lib.wpList_append_run _ rfl _ _ _ _ rfl _ _ rfl rfl _ _ HR.out ?_)
  go_ret
  exact ⟨_,rfl,K.out.1,K.out.2⟩
def catL (L:Nat→Bs) (k:Nat):List UInt8:=(List.range k).flatMap fun j=>(L j).toList
theorem catL_succ (L:Nat→Bs) (i:Nat):catL L (i+1)=catL L i++(L i).toList:=by
 unfold catL
 rw[List.range_succ,List.flatMap_append]
 simp
theorem catL_le (L:Nat→Bs) {k m:Nat} (hs:∀ j,j<k→(L j).size≤m):∀ i,i≤k→(catL L i).length≤m*i
 | 0,_=>Nat.le_refl _
 | i+1,hi=>by
  have h1:=catL_le L hs i (by omega)
  have h2:=hs i (by omega)
  have e:(L i).toList.length=(L i).size:=rfl
  rw[catL_succ,List.length_append,e,Nat.mul_succ]
  omega
theorem El.below {n B:Nat} {W W':World} {x:Value} {b:Bs} (h:El n W x b) (hb:Below B W W') (hB:W.heap.size≤B):El n W' x b:=by
 obtain ⟨k,c,rfl,h1,h2,h3,h4⟩:=h
 exact ⟨k,c,rfl,h1,h2,Nat.lt_of_lt_of_le h3 hb.size,Holds.kept h4 (hb.block k (by omega))⟩
theorem own_app {base n m:Nat} {W:World} {v x:Value} {xs:List Value} {b:Bs} (hown:W.ownsRow base 5 1 v n xs) (hx:El m W x b) (hn:n+m≤100000000) (hb:base≤W.heap.size) :
 ∃ v' W',(Builtin.append_ #[22,22] 22 #[v,x]).run Tryz.prog W=.ok v' W'∧W'.ownsRow base 5 1 v' (n+m) (xs++cb b)∧W.grownBy W' v.ownBlock:=by
 obtain ⟨i,hi,he⟩:=Option.map_eq_some_iff.1 infoU
 simp only[Prod.mk.injEq] at he
 obtain ⟨h1,h2,h3⟩:=he
 obtain ⟨z,hz,hz2⟩:=Option.map_eq_some_iff.1 h3
 obtain ⟨k,c,rfl,e1,e2,e3,e4⟩:=hx
 obtain ⟨v',W',r1,r2,r3,-⟩:=run_append_own (P:=Tryz.prog) W base 22 22 5 i z 1 1 undU hi hz h1 h2 hz2 (by decide) v n xs hown ⟨k,0,none⟩ m c (cb b) (by rw[cb_length,e2];omega)
  (fun j u hj=>by
   have:=(cb_range e4).1 j u hj
   rw[Nat.zero_add] at this
   rw[add0];exact this) (fun u hu=>by
   obtain ⟨y,-,rfl⟩:=List.mem_map.1 hu
   rfl) (by unfold maxLen;omega) (by omega) hb
 exact ⟨v',W',r1,r2,r3⟩
theorem cb_cat (L:Nat→Bs) (i:Nat):(catL L (i+1)).map encB=(catL L i).map encB++cb (L i):=by rw[catL_succ,List.map_append];rfl
theorem concat_c (g k c:Nat) (L:Nat→Bs) (hk:k≤1000) (hs:∀ j,j<k→(L j).size≤10000) (w:World) (hg:g<w.heap.size) (hL:∀ j,j<k→∃ x,w.cell? ⟨g,j,none⟩=some x∧El (L j).size w x (L j)) :
 Calls Tryz.prog 37 #[.slice (some ⟨g,0,none⟩) k c] w (Ret fun e w'=>Below w.heap.size w w'∧w'.ownsRow w.heap.size 5 1 e (catL L k).length ((catL L k).map encB)):=by
 have HL:=Hid.mk' hL
 have HS:Hid (∀ i,i≤k→(catL L i).length≤10000*i):=catL_le L hs
 have HG:=Hid.mk' hg
 clear hL hs hg
 go_enter Tryz.func37,Tryz.ntmps37
 go_wp2_with fail
 go_loopg [3,11] k (fun m s3 s11 W=>∃ i:Nat,i+m=k∧s11=.int .i64 i∧s3=.int .i64 ((catL L i).length:Int)∧w=W)
 case atStart=>exact ⟨0,by omega,rfl,rfl,rfl⟩
 case round =>
  obtain ⟨i,hik,rfl,rfl,rfl⟩:=hrel
  by_cases hi:i<k
  ·have hi':(i:Int)<(k:Int):=by omega
   obtain ⟨x,hc,hE⟩:=HL.out i hi
   obtain ⟨kx,cx,rfl,h1,-⟩:=hE
   have hix:=atB g 0 k c i hi
   rw[show 0+1*i=i by omega] at hix
   have hlen:(catL L (i+1)).length=(catL L i).length+(L i).size:=by rw[catL_succ,List.length_append];rfl
   have hb1:=HS.out i (by omega)
   have hb2:=HS.out (i+1) (by omega)
   obtain ⟨a,ha⟩:∃ a,Hid ((catL L i).length=a):=⟨_,rfl⟩
   obtain ⟨b,hb⟩:∃ b,Hid ((L i).size=b):=⟨_,rfl⟩
   rw[ha.out] at hlen hb1
   rw[hb.out] at hlen h1
   rw[ha.out]
   have hwr:IntKind.i64.wrap ((a:Int)+(b:Int))=((a+b:Nat):Int):=by rw[IntKind.wrap_i64];omega
   have hng:¬ (((a+b:Nat):Int)<0):=by omega
   rw[hb.out] at hc
   go_wp2
   go_roundg (gk-1)
   case measure=>omega
   case rel=>exact ⟨i+1,by omega,rfl,by rw[hlen,Int.natCast_add],rfl⟩
  ·have hi':¬ (i:Int)<(k:Int):=by omega
   obtain rfl:i=k:=by omega
   go_wp2_with fail
   refine (grow_c (catL L i).length (by have:=HS.out i (Nat.le_refl _);omega) w).mono ?_
   rintro e w1 ⟨v,rfl,hb1,ho1⟩
   have K1:Hid (Below w.heap.size w w1∧w1.ownsRow w.heap.size 5 1 v (catL L 0).length ((catL L 0).map encB)):=⟨hb1,ho1⟩
   clear hb1 ho1
   go_wp2_with fail
   go_loopg [6,27] i (fun m s6 s27 W=>∃ j:Nat,j+m=i∧s27=.int .i64 j∧Hid (Below w.heap.size w W∧W.ownsRow w.heap.size 5 1 s6 (catL L j).length ((catL L j).map encB)))
   case atStart=>exact ⟨0,by omega,rfl,K1⟩
   case round =>
    clear K1
    obtain ⟨j,hjk,rfl,KM⟩:=hrel
    by_cases hj:j<i
    ·have hj':(j:Int)<(i:Int):=by omega
     obtain ⟨x,hc0,hE0⟩:=HL.out j hj
     have hc:wr.cell? ⟨g,j,none⟩=some x:=by rw[KM.out.1.cell (p:=⟨g,j,none⟩) HG.out];exact hc0
     have hE:=hE0.below KM.out.1 (Nat.le_refl _)
     have hb2:=HS.out (j+1) (by omega)
     have hlen:(catL L (j+1)).length=(catL L j).length+(L j).size:=by rw[catL_succ,List.length_append];rfl
     obtain ⟨v',W',r1,r2,r3⟩:=own_app KM.out.2 hE (by omega) KM.out.1.size
     rw[← hlen,← cb_cat] at r2
     have KN:Hid (Below w.heap.size w W'∧W'.ownsRow w.heap.size 5 1 v' (catL L (j+1)).length ((catL L (j+1)).map encB)):=⟨KM.out.1.grown r3 KM.out.1.size (fun k hk=>(KM.out.2.lt k hk).1),r2⟩
     have HAP:=Hid.mk' r1
     obtain ⟨kx,cx,rfl,-⟩:=hE
     have hix:=atB g 0 i c j hj
     rw[show 0+1*j=j by omega] at hix
     clear r1 r2 r3 hlen hb2 KM hE0 hc0
     go_wp2_with (first|(refine wpList_app (x:=u6) (y:=.slice (some ⟨kx,0,none⟩) (L j).size cx) (v:=v') (w':=W') rfl _ _ 22 rfl ?_ ?_ ?_ ?_;rfl;rfl;exact HAP.out)|fail)
     go_roundg (gk-1)
     case measure=>omega
     case rel=>exact ⟨j+1,by omega,rfl,KN⟩
    ·have hj':¬ (j:Int)<(i:Int):=by omega
     obtain rfl:j=i:=by omega
     go_wp2
     go_ret
     exact ⟨_,rfl,KM.out.1,KM.out.2⟩
end
namespace RG
open Go Go.RowKit
variable {P:Program} {ops:Array Oper} {Q:Exit→Act→World→Prop} {w:World} {a0:Act}
def AllE (a:Act):List (Tmp × Value)→Prop
 | []=>True
 | x :: r=>a.eval (.tmp x.1)=x.2∧AllE a r
def evl (ps:List (Tmp × Value)) (t:Tmp):Value:=match ps.find? (fun x=>x.1 == t) with|some x=>x.2|none=>undef
theorem AllE.mem {a:Act}:∀ {ps:List (Tmp × Value)},AllE a ps→∀ x∈ps,a.eval (.tmp x.1)=x.2
 | [],_,x,hx=>by cases hx
 | y :: r,h,x,hx=>by
  rcases List.mem_cons.1 hx with rfl|hx
  ·exact h.1
  ·exact AllE.mem h.2 x hx
theorem AllE.ev {a:Act} {ps:List (Tmp × Value)} (h:AllE a ps):∀ t∈ps.map (·.1),a.eval (.tmp t)=evl ps t:=fun t ht=>by
 obtain ⟨x,hx,rfl⟩:=List.mem_map.1 ht
 unfold evl
 cases hf:ps.find? (fun y=>y.1 == x.1) with
 | none =>
  have:=List.find?_eq_none.1 hf x hx
  simp at this
 | some y =>
  have h1:=List.mem_of_find?_eq_some hf
  have h2:y.1=x.1:=by simpa using List.find?_some hf
  have:=h.mem y h1
  rw[h2] at this
  exact this
structure Gw where
 R:Nat→Value→World→Prop
 B:World→Prop
 sR:∀ i v w w',Below w.heap.size w w'→R i v w→R i v w'
 sB:∀ w w',Below w.heap.size w w'→B w→B w'
def Gw.flow (G:Gw):Flow:=⟨G.R,fun _=>G.B,fun _ w w'=>Below w.heap.size w w',fun _=>[],fun _=>[]⟩
structure PreG (G:Gw) (ops:Array Oper) (a0:Act) (k:Nat) (o:Oper) (a:Act) (w:World):Prop where
 n:∀ j d,depB o j=true→dstOf ops j=some d→G.R j (a.eval (.tmp d)) w
 o:∀ t,freeF ops k t=true→a.eval (.tmp t)=a0.eval (.tmp t)
 b:G.B w
variable {G:Gw}
theorem pre_of {k:Nat} {o:Oper} {a:Act} (h:PreF G.flow ops a0 k o a w):PreG G ops a0 k o a w:=⟨fun j d hj hd=>h.n j d hj rfl hd,h.o,h.b 0 rfl⟩
theorem gw_val {k:Nat} {o:Oper} (h:∀ (a:Act) (w:World),PreG G ops a0 k o a w→∃ (ps:List (Tmp × Value)) (v:Value) (w':World),AllE a ps∧(seenT (ps.map (·.1)) o,(execOp (evo (evl ps)) o).run P w)=(true,.ok (.value v) w')∧Below w.heap.size w w'∧G.R k v w'):CertF P Q G.flow ops a0 k o:=
 cf_val fun a w hp=>by
  obtain ⟨ps,v,w',he,hs,hE⟩:=h a w (pre_of hp)
  simp only[Prod.mk.injEq] at hs
  refine ⟨v,w',?_,hE⟩
  rw[exec_ev (evl ps) (ps.map (·.1)) hs.1 he.ev]
  exact hs.2
theorem gw_call {k:Nat} {o:Oper} (h:∀ (a:Act) (w:World),PreG G ops a0 k o a w→∃ (ps:List (Tmp × Value)) (f:FuncId) (args:Array Value),AllE a ps∧(seenT (ps.map (·.1)) o,(execOp (evo (evl ps)) o).run P w)=(true,.ok (.enter f args) w)∧Calls P f args w (Ret fun e w'=>Below w.heap.size w w'∧G.R k e w')):CertF P Q G.flow ops a0 k o:=by
 intro a w K h1 h2 h3 hK
 obtain ⟨ps,f,args,he,hs,hc⟩:=h a w (pre_of ⟨h1,h2,h3⟩)
 simp only[Prod.mk.injEq] at hs
 unfold Oper.wp
 rw[exec_ev (evl ps) (ps.map (·.1)) hs.1 he.ev,hs.2,Oper.upon_enter]
 refine hc.mono ?_
 rintro e w' ⟨v,rfl,hE,hR⟩
 exact hK _ _ hE hR
theorem gw_load {k:Nat} {o:Oper} (T:TypeId) (t:Tmp) (ho:o.op=.load T (.tmp t)) (hu:(P.underlying T).map (·.isRow)=some true)
 (h:∀ (a:Act) (w:World),PreG G ops a0 k o a w→∃ g off cs,a.eval (.tmp t)=.pointer (some ⟨g,off,none⟩)∧w.rangeAt g off cs∧(P.info? T).map (·.size)=some cs.length∧G.R k (.agg cs.toArray) w):CertF P Q G.flow ops a0 k o:=
 cf_load T t ho hu fun a w hp=>by
  obtain ⟨g,off,cs,h1,h2,h3,h4⟩:=h a w (pre_of hp)
  exact ⟨g,off,cs,h1,h2,h3,Below.refl _ _,h4⟩
theorem Gw.reg {m:Nat} (hc:chkF ops a0.tmps.size=true) (h:CertsF P Q G.flow ops a0 0 (ops.toList.take m)):RegF P Q G.flow ops a0 m:=
 ⟨hc,certs_but h,fun i j _ _ _ _ _ v w w' hE hR=>G.sR j v w w' hE hR,fun i b _ _ w w' hE hB=>G.sB w w' hE hB⟩
theorem Gw.draws {id:Nat} (G:Gw) (hm:P.follows .mixedOrders=true) (hc:chkF ops a0.tmps.size=true) (h:CertsF P Q G.flow ops a0 0 (ops.toList.take ops.size)) (hB:G.B w.drew)
 (hp:∀ (V:Nat→Value) (w':World),(∀ i,i<ops.size→G.R i (V i) w')→G.B w'→Q .normal (putV V ops.toList 0 a0) w'):(Code.region id ops true).wp P Q a0 w:=
 flow_draws G.flow hm (Gw.reg hc h) (fun _=>hB) fun V w' h1 h2=>hp V w' (fun i hi=>h1 i hi rfl) (h2 0 rfl)
theorem Gw.last {id:Nat} (G:Gw) (n:Nat) (hn:((ops.size == n+1) && (List.range n).all (fun j=>depOn ops n j || (List.range n).any (fun i=>depOn ops n i && depOn ops i j)))=true) (hm:P.follows .mixedOrders=true) (hc:chkF ops a0.tmps.size=true) (h:CertsF P Q G.flow ops a0 0 (ops.toList.take n)) (hB:G.B w.drew)
 (hp:∀ (V:Nat→Value) (w':World),(∀ i,i<n→G.R i (V i) w')→G.B w'→wpList P ops Q (ops.toList.drop n) (putV V (ops.toList.take n) 0 a0) w'):(Code.region id ops true).wp P Q a0 w:=by
 rw[Bool.and_eq_true,beq_iff_eq] at hn
 exact flow_last G.flow n hn.1 hn.2 hm (Gw.reg hc h) (fun _=>hB) fun V w' h1 h2=>hp V w' (fun i hi=>h1 i hi rfl) (h2 0 rfl)
end RG
section
open Go.RowKit Go.Sort Go.Deep
variable {P:Nat} [NeZero P] {N:Nat}
structure Kp (w:World) (W:World) (rs:List (Nat × List Value)):Prop where
 bl:Below w.heap.size w W
 rw:∀ x∈rs,Row W x.1 x.2
theorem Kp.grow {w W W':World} {rs:List (Nat × List Value)} (h:Kp w W rs) (hb:Below W.heap.size W W'):Kp w W' rs:=⟨h.bl.trans (hb.mono h.bl.size),fun x hx=>(h.rw x hx).below hb⟩
theorem Kp.drew {w W:World} {rs:List (Nat × List Value)} (h:Kp w W rs):Kp w W.drew rs:=⟨h.bl.drew,h.rw⟩
theorem Kp.at {w W:World} {rs:List (Nat × List Value)} (h:Kp w W rs) {k:Nat} {c:List Value} (i:Nat) (hi:rs[i]? = some (k,c)):Row W k c:=h.rw _ (List.mem_of_getElem? hi)
theorem Kp.put {w W:World} {rs:List (Nat × List Value)} {k:Nat} {old new:List Value} (h:Kp w W rs) (hr:Row W k old) (hl:new.length=old.length) (hk:w.heap.size≤k) (hne:∀ x∈rs,x.1≠k):Kp w (W.setCells k 0 new) ((k,new) :: rs):=
 ⟨RG.below_setCells hk _ _ _ h.bl,fun x hx=>by
  rcases List.mem_cons.1 hx with rfl|hx
  ·exact hr.put hl
  ·exact (h.rw x hx).other (hne x hx)⟩
def Nw (B:Nat) (c:List Value) (v:Value) (W:World):Prop:=∃ k,v=.pointer (some ⟨k,0,none⟩)∧B≤k∧Row W k c
theorem Nw.grow {B:Nat} {c:List Value} {v:Value} {W W':World} (h:Nw B c v W) (hb:Below W.heap.size W W'):Nw B c v W':=by
 obtain ⟨k,h1,h2,h3⟩:=h
 exact ⟨k,h1,h2,h3.below hb⟩
section
variable (w:World) (k6 k8 k9 k10 x kk c z B0:Nat) (A F:Bs) (v1:Value)
def R5:Nat→Value→World→Prop
 | 0,v,_=>v=nv kk
 | 1,v,_=>v=pvl A
 | 2,v,_=>v=pvl F
 | 3,v,W=>Nw B0 z33 v W
 | _,_,_=>True
def G5:RG.Gw:=⟨R5 kk B0 A F,fun W=>Kp w W [(k8,wn kk),(k6,wn x)]∧B0≤W.heap.size,fun i v W W' hb h=>by
 match i,h with
 | 0,h=>exact h
 | 1,h=>exact h
 | 2,h=>exact h
 | 3,h=>exact Nw.grow h hb
 | _+4,_=>trivial,fun W W' hb h=>⟨h.1.grow hb,Nat.le_trans h.2 hb.size⟩⟩
def R6 (A':Bs):Nat→Value→World→Prop
 | 0,v,_=>v=nv x
 | 1,v,_=>v=pvl A
 | 2,v,_=>v=pvl A'
 | 3,v,_=>v=pvl F
 | 4,v,_=>v=v1
 | 5,v,_=>v=nv c
 | 6,v,W=>Nw B0 [.int .u64 0,.int .u64 0,.int .u64 0,.int .u64 0] v W
 | _,_,_=>True
def G6 (A':Bs):RG.Gw:=⟨R6 x c B0 A F v1 A',fun W=>Kp w W [(k9,bl33 F),(k8,wn kk),(k6,wn x)]∧B0≤W.heap.size,fun i v W W' hb h=>by
 match i,h with
 | 0,h=>exact h
 | 1,h=>exact h
 | 2,h=>exact h
 | 3,h=>exact h
 | 4,h=>exact h
 | 5,h=>exact h
 | 6,h=>exact Nw.grow h hb
 | _+7,_=>trivial,fun W W' hb h=>⟨h.1.grow hb,Nat.le_trans h.2 hb.size⟩⟩
def Two (v:Value) (W:World):Prop:=∃ k y,v=.slice (some ⟨k,0,none⟩) 2 2∧k<W.heap.size∧W.cell? ⟨k,0,none⟩=some (.slice (some ⟨k9,0,none⟩) 33 33)∧W.cell? ⟨k,1,none⟩=some y∧El 32 W y (bx z)
def Ans (v:Value) (W:World):Prop:=W.ownsRow B0 5 1 v 65 ((F.toList++(bx z).toList).map encB)
def R7:Nat→Value→World→Prop
 | 0,v,_=>v=.slice (some ⟨k9,0,none⟩) 33 33
 | 1,v,_=>v=nv c
 | 2,v,_=>v=nv kk
 | 3,v,_=>v=nv x
 | 4,v,_=>v=nv z
 | 5,v,W=>El 32 W v (bx z)
 | 6,v,W=>Two k9 z v W
 | 7,v,W=>Ans z B0 F v W
 | 8,v,W=>Ans z B0 F v W
 | 9,v,_=>v=.int .i64 0
 | _,_,_=>True
theorem Ans.grow {v:Value} {W W':World} (h:Ans z B0 F v W) (hb:Below W.heap.size W W'):Ans z B0 F v W':=
 h.kept (row:=none) ⟨hb.os,hb.tape,hb.output,hb.size,fun k hk _=>hb.block k hk⟩ (by cases hv:v.ownBlock<;>simp)
theorem Two.grow {v:Value} {W W':World} (h:Two k9 z v W) (hb:Below W.heap.size W W'):Two k9 z v W':=by
 obtain ⟨k,y,h1,h2,h3,h4,h5⟩:=h
 exact ⟨k,y,h1,Nat.lt_of_lt_of_le h2 hb.size,by rw[hb.cell (p:=⟨k,0,none⟩) h2];exact h3,by rw[hb.cell (p:=⟨k,1,none⟩) h2];exact h4,h5.below hb (Nat.le_refl _)⟩
def G7:RG.Gw:=⟨R7 k9 x kk c z B0 F,fun W=>Kp w W [(k10,wn c),(k9,bl33 F),(k8,wn kk),(k6,wn x)]∧B0≤W.heap.size,fun i v W W' hb h=>by
 match i,h with
 | 0,h=>exact h
 | 1,h=>exact h
 | 2,h=>exact h
 | 3,h=>exact h
 | 4,h=>exact h
 | 5,h=>exact El.below h hb (Nat.le_refl _)
 | 6,h=>exact Two.grow k9 z h hb
 | 7,h=>exact Ans.grow z B0 F h hb
 | 8,h=>exact Ans.grow z B0 F h hb
 | 9,h=>exact h
 | _+10,_=>trivial,fun W W' hb h=>⟨h.1.grow hb,Nat.le_trans h.2 hb.size⟩⟩
end
end
section
open Go.RowKit Go.Sort Go.Deep
variable {P:Nat} [NeZero P] {N:Nat}
def nonceL:ByteArray:=⟨#[110,111,110,99,101,32,115,105,103,110]⟩
theorem sign_y (C:Fld P) (O:Ord N) (p0 p1:Option Addr) (n0 c0 n1 c1:Nat) (sk tx:Bs) (w:World) (hA:Arg w (.slice p0 n0 c0) sk) (h0:SP.PartOk w (.slice p0 n0 c0) sk.toList) (h1:SP.PartOk w (.slice p1 n1 c1) tx.toList)
 (x:Nat) (hx:rq N sk=some x) (hx0:x≠0) (kk c z:Nat) (hkk:chL N nonceL.data.toList [sk.toList,tx.toList]=kk) (hc:asg N (wr (EC.mul x (gG P))).toList (wr (EC.mul kk (gG P))).toList tx.toList=c) (hz:sPl N kk (sTi N c x)=z) :
 Calls Tryz.prog 10 #[.slice p0 n0 c0,.slice p1 n1 c1] w (Ret fun e w'=>Below w.heap.size w w'∧∃ v,e=.tuple #[v,.int .i64 0]∧Ans z w.heap.size (wr (EC.mul kk (gG P))) v w'):=by
 have hxN:x<N:=by
  unfold rq at hx
  split at hx
  ·rename_i h
   rw[← Option.some.inj hx];exact h.2
  ·cases hx
 have hkN:kk<N:=by rw[← hkk];exact redu_lt O _
 have hcN:c<N:=by rw[← hc];exact asg_lt O _ _ _
 have hR:=rsecret_c O (.slice p0 n0 c0) sk w hA
 rw[hx] at hR
 have e1:(!decide (x=0))=true:=by simp[hx0]
 rw[show (some x).getD 0=x from rfl,show ((some x).isSome && !decide (x=0))=true by rw[e1];rfl] at hR
 have HR:=Hid.mk' hR
 have HC:Hid (Fld P∧Ord N∧x<N∧kk<N∧c<N∧sPl N kk (sTi N c x)=z):=⟨C,O,hxN,hkN,hcN,hz⟩
 have HP:Hid (SP.PartOk w (.slice p0 n0 c0) sk.toList∧SP.PartOk w (.slice p1 n1 c1) tx.toList):=⟨h0,h1⟩
 have HK:=Hid.mk' hkk
 obtain ⟨A,hAe⟩:∃ A,Hid (wr (gG P)=A):=⟨_,rfl⟩
 obtain ⟨F,hFe⟩:∃ F,Hid (wr (EC.mul kk (gG P))=F):=⟨_,rfl⟩
 obtain ⟨A',hAe'⟩:∃ A',Hid (wr (EC.mul x (gG P))=A'):=⟨_,rfl⟩
 rw[hFe.out,hAe'.out] at hc
 rw[hFe.out]
 have HQ:=Hid.mk' hc
 have HF:Hid (F.size=33∧A'.size=33):=⟨by rw[← hFe.out];exact wr_size _,by rw[← hAe'.out];exact wr_size _⟩
 clear C O hA h0 h1 hx hx0 hkk hc hz hxN hkN hcN hR e1
 obtain ⟨vx,hvx⟩:∃ v,Hid (nv x=v):=⟨_,rfl⟩
 rw[hvx.out] at HR
 obtain ⟨d',hd3,hd4⟩:=Option.map_eq_some_iff.1 u40
 have HD:Hid (Tryz.prog.underlying 49=some d'∧d'.isRow=true):=⟨hd3,hd4⟩
 clear hd3 hd4
 go_enter Tryz.func10,Tryz.ntmps10
 go_wp2_with fail
 refine HR.out.mono ?_
 rintro e w1 ⟨vv,rfl,hb1,rfl⟩
 obtain ⟨w2,hw2⟩:∃ w2,Hid (w1.alloc (.cells #[.int .u64 0,.int .u64 0,.int .u64 0,.int .u64 0] 49)=w2):=⟨_,rfl⟩
 obtain ⟨w3,hw3⟩:∃ w3,Hid (w2.setCells w1.heap.size 0 (wn x)=w3):=⟨_,rfl⟩
 obtain ⟨k6,hk6⟩:∃ k6,Hid (w1.heap.size=k6):=⟨_,rfl⟩
 rw[hk6.out] at hw3
 have F2:Hid (Row w2 k6 [.int .u64 0,.int .u64 0,.int .u64 0,.int .u64 0]∧Below w.heap.size w w2∧w.heap.size≤k6):=by
  rw[← hw2.out,← hk6.out]
  exact ⟨row_new w1 _ _,hb1.alloc hb1.size _,hb1.size⟩
 have K3:Hid (Kp w w3 [(k6,wn x)]):=by
  rw[← hw3.out]
  exact ⟨RG.below_setCells F2.out.2.2 _ _ _ F2.out.2.1,fun y hy=>by rw[show y=(k6,wn x) by simpa using hy];exact F2.out.1.put rfl⟩
 clear hb1 HR
 go_wp2_with (first|(refine wpList_op (v:=.pointer (some ⟨k6,0,none⟩)) (w':=w2) rfl (.alloc 49) rfl ?_ ?_;(rw[← hw2.out,← hk6.out];kernel_rfl))|(refine wpList_store_mid rfl 49 _ _ rfl k6 0 (wn x).toArray ?_ ?_ ?_ ?_ ?_ ?_;rfl;exact hvx.out.symm;exact F2.out.1.2.2;exact i40;exact wn_one x;rw[show (wn x).toArray.toList=wn x from rfl,hw3.out])|fail)
 clear hw2 hw3 hk6 F2
 obtain ⟨w4,hw4⟩:∃ w4,Hid (w3.alloc (.cells #[.slice p0 n0 c0,.slice p1 n1 c1] 22)=w4):=⟨_,rfl⟩
 have hb4:Below w3.heap.size w3 w4:=by rw[← hw4.out];exact below1 _ _
 have K4:Hid (Kp w w4 [(k6,wn x)]):=K3.out.grow hb4
 have HPs:Hid (SP.PartsOk w4 (some ⟨w3.heap.size,0,none⟩) [sk.toList,tx.toList]):=by
  refine Or.inr ⟨w3.heap.size,0,rfl,fun j hj=>?_⟩
  have hM:w4.rangeAt w3.heap.size 0 [.slice p0 n0 c0,.slice p1 n1 c1]:=by rw[← hw4.out];exact (RG.Made.alloc w3 [.slice p0 n0 c0,.slice p1 n1 c1] 22).range
  have hj2:j=0∨j=1:=by simp at hj;omega
  rcases hj2 with rfl|rfl
  ·exact ⟨_,hM 0 _ rfl,HP.out.1.below K4.out.bl⟩
  ·exact ⟨_,hM 1 _ rfl,HP.out.2.below K4.out.bl⟩
 rw[hw4.out]
 refine (chance_c HC.out.2.1 nonceL (some ⟨w3.heap.size,0,none⟩) 2 2 [sk.toList,tx.toList] w4 (by decide) rfl (by decide) HPs.out).mono ?_
 rintro e w5 ⟨vv,rfl,hb5,rfl⟩
 rw[HK.out]
 have K5:Hid (Kp w w5 [(k6,wn x)]):=K4.out.grow hb5
 clear hb4 hb5 K3 K4 HPs hw4
 obtain ⟨vk,hvk⟩:∃ v,Hid (nv kk=v):=⟨_,rfl⟩
 rw[hvk.out]
 obtain ⟨w6,hw6⟩:∃ w6,Hid (w5.alloc (.cells #[.int .u64 0,.int .u64 0,.int .u64 0,.int .u64 0] 49)=w6):=⟨_,rfl⟩
 obtain ⟨k8,hk8⟩:∃ k8,Hid (w5.heap.size=k8):=⟨_,rfl⟩
 obtain ⟨w7,hw7⟩:∃ w7,Hid (w6.setCells k8 0 (wn kk)=w7):=⟨_,rfl⟩
 have F6:Hid (Row w6 k8 [.int .u64 0,.int .u64 0,.int .u64 0,.int .u64 0]∧Kp w w6 [(k6,wn x)]):=by
  rw[← hw6.out,← hk8.out]
  exact ⟨row_new w5 _ _,K5.out.grow (below1 _ _)⟩
 have K7:Hid (Kp w w7 [(k8,wn kk),(k6,wn x)]):=by
  rw[← hw7.out]
  refine F6.out.2.put F6.out.1 rfl (by rw[← hk8.out];exact K5.out.bl.size) fun y hy=>?_
  rw[show y=(k6,wn x) by simpa using hy,← hk8.out]
  exact Nat.ne_of_lt (K5.out.at 0 rfl).1
 go_wp2_with (first|(refine wpList_op (v:=.pointer (some ⟨k8,0,none⟩)) (w':=w6) rfl (.alloc 49) rfl ?_ ?_;(rw[← hw6.out,← hk8.out];kernel_rfl))|(refine wpList_store_mid rfl 49 _ _ rfl k8 0 (wn kk).toArray ?_ ?_ ?_ ?_ ?_ ?_;rfl;exact hvk.out.symm;exact F6.out.1.2.2;exact i40;exact wn_one kk;rw[show (wn kk).toArray.toList=wn kk from rfl,hw7.out])|fail)
 clear hw6 hw7 hk8 F6 K5
 refine (G5 w k6 k8 x kk w7.heap.size A F).last 4 (by kernel_rfl) (by kernel_rfl) (by kernel_rfl) ⟨
  RG.gw_load 49 8 rfl u40 fun a W hp=>⟨k8,0,wn kk,hp.o 8 (by kernel_rfl),(hp.b.1.at 0 rfl).2.1,i40,rfl⟩,
  RG.gw_call fun a W hp=>⟨[],35,#[],trivial,by kernel_rfl,(gen_c HC.out.1 W).mono (by
   rintro e W' ⟨u,rfl,hb,rfl⟩
   exact ⟨_,rfl,hb,by rw[hAe.out];rfl⟩)⟩,
  RG.gw_call fun a W hp=>⟨[(22,nv kk),(23,pvl A)],34,#[nv kk,pvl A],⟨hp.n 0 22 (by kernel_rfl) (by kernel_rfl),hp.n 1 23 (by kernel_rfl) (by kernel_rfl),trivial⟩,by kernel_rfl,by
   rw[← hAe.out]
   refine (times_c HC.out.1 HC.out.2.1 HC.out.2.2.2.1 (gG_on HC.out.1) W).mono ?_
   rintro e W' ⟨u,rfl,hb,rfl⟩
   exact ⟨_,rfl,hb,by rw[hFe.out];rfl⟩⟩,
  RG.gw_val fun a W hp=>⟨[],.pointer (some ⟨W.heap.size,0,none⟩),W.alloc (.cells z33.toArray 54),trivial,by kernel_rfl,below1 _ _,W.heap.size,rfl,hp.b.2,row_new W _ _⟩,trivial⟩ ⟨K7.out.drew,Nat.le_refl _⟩ ?_
 intro V w8 hR8 hB8
 obtain ⟨k9,hk9,hk9b,hk9r⟩:=show Nw w7.heap.size z33 (V 3) w8 from hR8 3 (by decide)
 have hV2:V 2=pvl F:=hR8 2 (by decide)
 dsimp only[RG.putV,Nat.reduceAdd,List.take,List.drop]
 obtain ⟨vF,hvF⟩:∃ v,Hid (pvl F=v):=⟨_,rfl⟩
 rw[hk9,hV2,hvF.out]
 generalize V 0=s22
 generalize V 1=s23
 obtain ⟨w9,hw9⟩:∃ w9,Hid (w8.setCells k9 0 (bl33 F)=w9):=⟨_,rfl⟩
 have hlen:(bl33 F).length=33:=bl33_length HF.out.1
 have HB8:Hid (Kp w w8 [(k8,wn kk),(k6,wn x)]∧w7.heap.size≤w8.heap.size):=hB8
 have K9:Hid (Kp w w9 [(k9,bl33 F),(k8,wn kk),(k6,wn x)]):=by
  rw[← hw9.out]
  refine HB8.out.1.put hk9r (by rw[hlen];rfl) (Nat.le_trans K7.out.bl.size hk9b) fun y hy=>?_
  have h8:=(K7.out.rw y hy).1
  omega
 have HI:Hid (w8.there k9 0 (bl33 F).toArray.size∧(Tryz.prog.info? 54).map (·.size)=some (bl33 F).toArray.size∧(Tryz.prog.info? 54).map (·.size)=some (bl33 F).length):=by
  have e:(bl33 F).toArray.size=33:=by rw[List.size_toArray];exact hlen
  rw[e,hlen]
  exact ⟨hk9r.2.2,infoCP,infoCP⟩
 clear hlen hR8 hB8 hk9 hk9b hk9r hV2 HB8 K7 V
 go_wp2_with (first|(refine wpList_store_mid rfl 54 _ _ rfl k9 0 (bl33 F).toArray ?_ ?_ ?_ ?_ ?_ ?_;rfl;exact hvF.out.symm;exact HI.out.1;exact HI.out.2.1;exact bl33_one F;rw[show (bl33 F).toArray.toList=bl33 F from rfl,hw9.out])|fail)
 clear hw9
 refine (G6 w k6 k8 k9 x kk c w9.heap.size A F (.slice p1 n1 c1) A').last 7 (by kernel_rfl) (by kernel_rfl) (by kernel_rfl) ⟨
  RG.gw_load 49 6 rfl u40 fun a W hp=>⟨k6,0,wn x,hp.o 6 (by kernel_rfl),(hp.b.1.at 2 rfl).2.1,i40,rfl⟩,
  RG.gw_call fun a W hp=>⟨[],35,#[],trivial,by kernel_rfl,(gen_c HC.out.1 W).mono (by
   rintro e W' ⟨u,rfl,hb,rfl⟩
   exact ⟨_,rfl,hb,by rw[hAe.out];rfl⟩)⟩,
  RG.gw_call fun a W hp=>⟨[(25,nv x),(26,pvl A)],34,#[nv x,pvl A],⟨hp.n 0 25 (by kernel_rfl) (by kernel_rfl),hp.n 1 26 (by kernel_rfl) (by kernel_rfl),trivial⟩,by kernel_rfl,by
   rw[← hAe.out]
   refine (times_c HC.out.1 HC.out.2.1 HC.out.2.2.1 (gG_on HC.out.1) W).mono ?_
   rintro e W' ⟨u,rfl,hb,rfl⟩
   exact ⟨_,rfl,hb,by rw[hAe'.out];rfl⟩⟩,
  RG.gw_load 54 9 rfl uCP fun a W hp=>⟨k9,0,bl33 F,hp.o 9 (by kernel_rfl),(hp.b.1.at 0 rfl).2.1,HI.out.2.2,rfl⟩,
  RG.gw_val fun a W hp=>⟨[(1,.slice p1 n1 c1)],.slice p1 n1 c1,W,⟨hp.o 1 (by kernel_rfl),trivial⟩,by kernel_rfl,Below.refl _ _,rfl⟩,
  RG.gw_call fun a W hp=>⟨[(27,pvl A'),(28,pvl F),(29,.slice p1 n1 c1)],36,#[pvl A',pvl F,.slice p1 n1 c1],⟨hp.n 2 27 (by kernel_rfl) (by kernel_rfl),hp.n 3 28 (by kernel_rfl) (by kernel_rfl),hp.n 4 29 (by kernel_rfl) (by kernel_rfl),trivial⟩,by kernel_rfl,by
   refine (sAsked_c HC.out.2.1 A' F HF.out.2 HF.out.1 p1 n1 c1 tx.toList W (HP.out.2.below hp.b.1.bl)).mono ?_
   rintro e W' ⟨u,rfl,hb,rfl⟩
   exact ⟨_,rfl,hb,by rw[HQ.out];rfl⟩⟩,
  RG.gw_val fun a W hp=>⟨[],.pointer (some ⟨W.heap.size,0,none⟩),W.alloc (.cells #[.int .u64 0,.int .u64 0,.int .u64 0,.int .u64 0] 49),trivial,by kernel_rfl,below1 _ _,W.heap.size,rfl,hp.b.2,row_new W _ _⟩,trivial⟩ ⟨K9.out.drew,Nat.le_refl _⟩ ?_
 intro V wa hRa hBa
 obtain ⟨k10,hk10,hk10b,hk10r⟩:=show Nw w9.heap.size [.int .u64 0,.int .u64 0,.int .u64 0,.int .u64 0] (V 6) wa from hRa 6 (by decide)
 have hV5:V 5=nv c:=hRa 5 (by decide)
 dsimp only[RG.putV,Nat.reduceAdd,List.take,List.drop]
 obtain ⟨vc,hvc⟩:∃ v,Hid (nv c=v):=⟨_,rfl⟩
 rw[hk10,hV5,hvc.out]
 generalize V 0=s25
 generalize V 1=s26
 generalize V 2=s27
 generalize V 3=s28
 generalize V 4=s29
 obtain ⟨wb,hwb⟩:∃ wb,Hid (wa.setCells k10 0 (wn c)=wb):=⟨_,rfl⟩
 have HBa:Hid (Kp w wa [(k9,bl33 F),(k8,wn kk),(k6,wn x)]∧w9.heap.size≤wa.heap.size):=hBa
 have Kb:Hid (Kp w wb [(k10,wn c),(k9,bl33 F),(k8,wn kk),(k6,wn x)]):=by
  rw[← hwb.out]
  refine HBa.out.1.put hk10r rfl (Nat.le_trans K9.out.bl.size hk10b) fun y hy=>?_
  have h8:=(K9.out.rw y hy).1
  omega
 have HJ:Hid (wa.there k10 0 [Value.int .u64 0,.int .u64 0,.int .u64 0,.int .u64 0].length):=hk10r.2.2
 clear hRa hBa hk10 hk10b hk10r hV5 HBa K9 V
 simp only[Act.put,List.setIfInBounds_toArray,List.set_cons_succ,List.set_cons_zero]
 go_wp2_with (first|(refine wpList_store_mid rfl 49 _ _ rfl k10 0 (wn c).toArray ?_ ?_ ?_ ?_ ?_ ?_;rfl;exact hvc.out.symm;exact HJ.out;exact i40;exact wn_one c;rw[show (wn c).toArray.toList=wn c from rfl,hwb.out])|fail)
 clear hwb HJ
 refine (G7 w k6 k8 k9 k10 x kk c z w.heap.size F).draws (by kernel_rfl) (by kernel_rfl) ⟨
  RG.gw_val fun a W hp=>⟨[(9,.pointer (some ⟨k9,0,none⟩))],.slice (some ⟨k9,0,none⟩) 33 33,W,⟨hp.o 9 (by kernel_rfl),trivial⟩,by kernel_rfl,Below.refl _ _,rfl⟩,
  RG.gw_load 49 10 rfl u40 fun a W hp=>⟨k10,0,wn c,hp.o 10 (by kernel_rfl),(hp.b.1.at 0 rfl).2.1,i40,rfl⟩,
  RG.gw_load 49 8 rfl u40 fun a W hp=>⟨k8,0,wn kk,hp.o 8 (by kernel_rfl),(hp.b.1.at 2 rfl).2.1,i40,rfl⟩,
  RG.gw_load 49 6 rfl u40 fun a W hp=>⟨k6,0,wn x,hp.o 6 (by kernel_rfl),(hp.b.1.at 3 rfl).2.1,i40,rfl⟩,
  RG.gw_call fun a W hp=>⟨[(32,nv c),(33,nv kk),(34,nv x)],38,#[nv c,nv kk,nv x],⟨hp.n 1 32 (by kernel_rfl) (by kernel_rfl),hp.n 2 33 (by kernel_rfl) (by kernel_rfl),hp.n 3 34 (by kernel_rfl) (by kernel_rfl),trivial⟩,by kernel_rfl,by
   refine (answer_c HC.out.2.1 HC.out.2.2.2.2.1 HC.out.2.2.2.1 HC.out.2.2.1 W).mono ?_
   rintro e W' ⟨u,rfl,hb,rfl⟩
   exact ⟨_,rfl,hb,by rw[HC.out.2.2.2.2.2];rfl⟩⟩,
  RG.gw_call fun a W hp=>⟨[(35,nv z)],39,#[nv z],⟨hp.n 4 35 (by kernel_rfl) (by kernel_rfl),trivial⟩,by kernel_rfl,by
   refine (sbytes_c HC.out.2.1 (by rw[← HC.out.2.2.2.2.2];exact Nat.mod_lt _ HC.out.2.1.pos) W).mono ?_
   rintro e W' ⟨u,rfl,k',hm,rfl⟩
   exact ⟨_,rfl,hm.bel,El.of_made hm (bx_size z)⟩⟩,
  RG.gw_val fun a W hp=>⟨[(31,.slice (some ⟨k9,0,none⟩) 33 33),(36,a.eval (.tmp 36))],.slice (some ⟨W.heap.size,0,none⟩) 2 2,W.alloc (.cells #[.slice (some ⟨k9,0,none⟩) 33 33,a.eval (.tmp 36)] 22),⟨hp.n 0 31 (by kernel_rfl) (by kernel_rfl),rfl,trivial⟩,by
   obtain ⟨k',c',he,-⟩:=show El 32 W (a.eval (.tmp 36)) (bx z) from hp.n 5 36 (by kernel_rfl) (by kernel_rfl)
   rw[he];kernel_rfl,below1 _ _,by
   have hE:=show El 32 W (a.eval (.tmp 36)) (bx z) from hp.n 5 36 (by kernel_rfl) (by kernel_rfl)
   refine ⟨W.heap.size,a.eval (.tmp 36),rfl,by rw[World.size_alloc];omega,by rw[World.cell?_alloc_new];rfl,by rw[World.cell?_alloc_new];rfl,hE.below (below1 _ _) (Nat.le_refl _)⟩⟩,
  RG.gw_call fun a W hp=>⟨[(37,a.eval (.tmp 37))],37,#[a.eval (.tmp 37)],⟨rfl,trivial⟩,by kernel_rfl,by
   obtain ⟨k',y,he,h1,h2,h3,h4⟩:=show Two k9 z (a.eval (.tmp 37)) W from hp.n 6 37 (by kernel_rfl) (by kernel_rfl)
   rw[he]
   have hF:=(hp.b.1.at 1 rfl:Row W k9 (bl33 F))
   refine (concat_c k' 2 2 (fun j=>if j=0 then F else bx z) (by decide) (fun j hj=>?_) W h1 (fun j hj=>?_)).mono ?_
   ·split
    ·rw[HF.out.1];decide
    ·rw[bx_size];decide
   ·have hj2:j=0∨j=1:=by omega
    rcases hj2 with rfl|rfl
    ·exact ⟨_,h2,k9,33,by rw[if_pos rfl,HF.out.1],by rw[if_pos rfl,HF.out.1];exact Nat.le_refl _,rfl,hF.1,row_holds hF⟩
    ·refine ⟨_,h3,?_⟩
     show El (bx z).size W y (bx z)
     rw[bx_size];exact h4
   ·rintro e W' ⟨u,rfl,hb,ho⟩
    refine ⟨_,rfl,hb,?_⟩
    have e1:catL (fun j=>if j=0 then F else bx z) 2=F.toList++(bx z).toList:=by
     rw[catL_succ,catL_succ];rfl
    rw[e1] at ho
    have e2:(F.toList++(bx z).toList).length=65:=by
     rw[List.length_append,show F.toList.length=33 from HF.out.1,show (bx z).toList.length=32 from bx_size z]
    rw[e2] at ho
    exact ⟨ho.1,ho.2.imp id fun ⟨g,cap,cur,q1,q2,q3⟩=>⟨g,cap,cur,q1,Nat.le_trans hp.b.2 q2,q3⟩⟩⟩,
  RG.gw_val fun a W hp=>⟨[(38,a.eval (.tmp 38))],a.eval (.tmp 38),W,⟨rfl,trivial⟩,by kernel_rfl,Below.refl _ _,hp.n 7 38 (by kernel_rfl) (by kernel_rfl)⟩,
  RG.gw_val fun a W hp=>⟨[],.int .i64 0,W,trivial,by kernel_rfl,Below.refl _ _,rfl⟩,trivial⟩ ⟨Kb.out.drew,Kb.out.bl.size⟩ ?_
 intro V wc hRc hBc
 have hV9:V 9=.int .i64 0:=hRc 9 (Nat.lt_of_succ_le (Nat.le_of_ble_eq_true (by kernel_rfl)))
 have HA8:Hid (Ans z w.heap.size F (V 8) wc):=hRc 8 (Nat.lt_of_succ_le (Nat.le_of_ble_eq_true (by kernel_rfl)))
 have HBc:Hid (Below w.heap.size w wc):=hBc.1.bl
 dsimp only[RG.putV,Nat.reduceAdd]
 simp only[Act.put,List.setIfInBounds_toArray,List.set_cons_succ,List.set_cons_zero]
 rw[hV9]
 generalize V 8=s8 at HA8 ⊢
 clear hRc hBc Kb
 go_wp2
 go_ret2
 exact ⟨_,rfl,HBc.out,s8,rfl,HA8.out⟩
theorem sign_n (O:Ord N) (p0 p1:Option Addr) (n0 c0 n1 c1:Nat) (sk:Bs) (w:World) (hA:Arg w (.slice p0 n0 c0) sk) (hx:((rq N sk).isSome && !decide ((rq N sk).getD 0=0))=false) :
 Calls Tryz.prog 10 #[.slice p0 n0 c0,.slice p1 n1 c1] w (Ret fun e w'=>Below w.heap.size w w'∧e=.tuple #[.slice none 0 0,.int .i64 3]):=by
 have hR:=rsecret_c O (.slice p0 n0 c0) sk w hA
 rw[hx] at hR
 have HR:=Hid.mk' hR
 obtain ⟨x,hxe⟩:∃ x,Hid ((rq N sk).getD 0=x):=⟨_,rfl⟩
 rw[hxe.out] at HR
 obtain ⟨vx,hvx⟩:∃ v,Hid (nv x=v):=⟨_,rfl⟩
 rw[hvx.out] at HR
 clear O hA hR hx hxe
 go_enter Tryz.func10,Tryz.ntmps10
 go_wp2_with fail
 refine HR.out.mono ?_
 rintro e w1 ⟨vv,rfl,hb1,rfl⟩
 obtain ⟨w2,hw2⟩:∃ w2,Hid (w1.alloc (.cells #[.int .u64 0,.int .u64 0,.int .u64 0,.int .u64 0] 49)=w2):=⟨_,rfl⟩
 obtain ⟨k6,hk6⟩:∃ k6,Hid (w1.heap.size=k6):=⟨_,rfl⟩
 obtain ⟨w3,hw3⟩:∃ w3,Hid (w2.setCells k6 0 (wn x)=w3):=⟨_,rfl⟩
 have F2:Hid (Row w2 k6 [.int .u64 0,.int .u64 0,.int .u64 0,.int .u64 0]∧Below w.heap.size w w2∧w.heap.size≤k6):=by
  rw[← hw2.out,← hk6.out]
  exact ⟨row_new w1 _ _,hb1.alloc hb1.size _,hb1.size⟩
 have K3:Hid (Below w.heap.size w w3):=by
  rw[← hw3.out]
  exact RG.below_setCells F2.out.2.2 _ _ _ F2.out.2.1
 clear hb1 HR
 go_wp2_with (first|(refine wpList_op (v:=.pointer (some ⟨k6,0,none⟩)) (w':=w2) rfl (.alloc 49) rfl ?_ ?_;(rw[← hw2.out,← hk6.out];kernel_rfl))|(refine wpList_store_mid rfl 49 _ _ rfl k6 0 (wn x).toArray ?_ ?_ ?_ ?_ ?_ ?_;rfl;exact hvx.out.symm;exact F2.out.1.2.2;exact i40;exact wn_one x;rw[show (wn x).toArray.toList=wn x from rfl,hw3.out])|fail)
 go_ret2
 exact ⟨_,rfl,K3.out,rfl⟩
theorem fl3:∃ (P:Nat) (_:NeZero P),Fl3 P:=by
 obtain ⟨P,hz,hP,hc⟩:=EC.cur
 have h0:P=Go.Proofs.YtglhhepedoffeaaGreat.p0:=by rw[hP];decide +kernel
 have hg:=gap0
 have hr:=refP0
 have h2:2≤Go.Proofs.YtglhhepedoffeaaGreat.p0%18446744073709551616:=by decide +kernel
 have h4:Go.Proofs.YtglhhepedoffeaaGreat.p0/4%18446744073709551616<18446744073709551615:=by decide +kernel
 have h3:Go.Proofs.YtglhhepedoffeaaGreat.p0%4=3:=by decide +kernel
 have h7:7<Go.Proofs.YtglhhepedoffeaaGreat.p0:=by decide +kernel
 rw[← h0] at hg hr h2 h4 h3 h7
 exact ⟨P,hz,⟨⟨hg,hc,h2,h4,h3,h7⟩,hr⟩⟩
theorem str_eqL (a:Bs):((⟨a⟩:ByteArray).toList == (⟨a⟩:ByteArray).toList)=true:=by simp
end
section
open Go.RowKit Go.Sort Go.Deep
variable {P:Nat} [NeZero P] {N:Nat}
def Cv (W:World) (q:Option Addr) (n cap:Nat) (T:Bs):Prop:=(q=none∧n=0∧cap=0∧T=#[])∨∃ g,q=some ⟨g,0,none⟩∧T.size=n∧g<W.heap.size∧Holds encB W g 0 T
theorem Cv.grow {W W':World} {q:Option Addr} {n cap:Nat} {T:Bs} (h:Cv W q n cap T) (hb:Below W.heap.size W W'):Cv W' q n cap T:=by
 rcases h with h|⟨g,h1,h2,h3,h4⟩
 ·exact Or.inl h
 ·exact Or.inr ⟨g,h1,h2,Nat.lt_of_lt_of_le h3 hb.size,Holds.below h4 hb h3⟩
theorem Cv.conv {W:World} {q:Option Addr} {n cap:Nat} {T:Bs} (h:Cv W q n cap T):(convert 22 9 (.slice q n cap)).run Tryz.prog W=.ok (.string ⟨T⟩) W:=by
 rcases h with ⟨rfl,rfl,rfl,rfl⟩|⟨g,rfl,h2,h3,h4⟩
 ·kernel_rfl
 ·exact conv_str Tryz.prog 22 9 5 slice22 int5 str9 W g 0 n cap T h4 h2
theorem owns_holds {W:World} {B0 n:Nat} {v:Value} {T:Bs} (h:W.ownsRow B0 5 1 v n (cb T)) (hn:0<n) (hT:T.size=n):∃ q m cap,v=.slice q m cap∧Cv W q m cap T:=by
 have h0:=fun {g:Nat}=>h.cells (g:=g)
 rcases h.2 with ⟨-,h2⟩|⟨g,cap,cur,rfl,-,hc,-⟩
 ·omega
 ·have hr:W.rangeAt g 0 (cb T):=fun j u hu=>by
   have:=h0 (g:=g) rfl j u hu
   rw[add0] at this
   rw[Nat.zero_add]
   exact this
  refine ⟨_,_,_,rfl,Or.inr ⟨g,rfl,hT,(Array.getElem?_eq_some_iff.1 hc).1,cb_holds hr fun j hj=>⟨?_,?_⟩⟩⟩
  ·rw[hr j _ (List.getElem?_eq_getElem hj)];rfl
  ·simp[World.frozen?,hc]
theorem Ans.cv {z B0:Nat} {F:Bs} {v:Value} {W:World} (h:Ans z B0 F v W) (hF:F.size=33):∃ q n cap,v=.slice q n cap∧Cv W q n cap (F++bx z):=by
 have h0:W.ownsRow B0 5 1 v 65 ((F.toList++(bx z).toList).map encB):=h
 rw[← Array.toList_append] at h0
 exact owns_holds (T:=F++bx z) h0 (by decide) (by rw[Array.size_append,hF,bx_size])
theorem slLent (k n:Nat) (hn:n≤100000) (w:World):(Instr.sliceAt 22 (.slice (some ⟨k,0,none⟩) (n+160) (n+160)) none (some (.int .i64 n)) none).run Tryz.prog w=.ok (.slice (some ⟨k,0,none⟩) n (n+160)) w:=by
 have h1:¬ (n:Int)<0:=by omega
 have h2:(n:Int)≤(n:Int)+160:=by omega
 go_simp
structure Lw (w0 W:World) (k1:Nat) (sk tx:ByteArray):Prop where
 bl:Below w0.heap.size w0 W
 l0:Holds encB W w0.heap.size 0 (lent sk)
 l1:Holds encB W k1 0 (lent tx)
theorem Lw.grow {w0 W W':World} {k1:Nat} {sk tx:ByteArray} (h:Lw w0 W k1 sk tx) (hb:Below W.heap.size W W'):Lw w0 W' k1 sk tx:=
 ⟨h.bl.trans (hb.mono h.bl.size),Holds.below h.l0 hb (Holds.lt h.l0 (by rw[lent_size];omega)),Holds.below h.l1 hb (Holds.lt h.l1 (by rw[lent_size];omega))⟩
theorem Lw.drew {w0 W:World} {k1:Nat} {sk tx:ByteArray} (h:Lw w0 W k1 sk tx):Lw w0 W.drew k1 sk tx:=⟨h.bl.drew,h.l0,h.l1⟩
theorem lent_part' {W:World} {k:Nat} {s:ByteArray} (h:Holds encB W k 0 (lent s)) (hs:s.size≤16384):SP.PartOk W (.slice (some ⟨k,0,none⟩) s.size (s.size+160)) s.data.toList:=
 ⟨_,k,0,s.size+160,s.data,rfl,rfl,by show s.size≤_;omega,by show s.size≤_;omega,Or.inr ⟨rfl,SP.holds_text s h⟩⟩
theorem lent_arg {W:World} {k:Nat} {s:ByteArray} (h:Holds encB W k 0 (lent s)):Arg W (.slice (some ⟨k,0,none⟩) s.size (s.size+160)) s.data:=
 ⟨_,_,_,rfl,rfl,fun hs=>⟨k,0,rfl,by omega,Holds.lt h (by rw[lent_size];omega),SP.holds_text s h⟩⟩
theorem both_sign (C:Fl3 P) (O:Ord N) (sk tx:ByteArray) (hsk:sk.size≤4096) (htx:tx.size≤4096):∃ (T:Bs) (ec:Int),Gives 12 #[.string sk,.string tx] (.tuple #[.string ⟨T⟩,.int .i64 ec]) ∧
 ∀ (w0 W:World) (k1:Nat),Lw w0 W k1 sk tx→Calls Tryz.prog 10 #[.slice (some ⟨w0.heap.size,0,none⟩) sk.size (sk.size+160),.slice (some ⟨k1,0,none⟩) tx.size (tx.size+160)] W (Ret fun e w'=>Below W.heap.size W w'∧∃ q n cap,e=.tuple #[.slice q n cap,.int .i64 ec]∧Cv w' q n cap T):=by
 by_cases hok:((rq N sk.data).isSome && !decide ((rq N sk.data).getD 0=0))=true
 ·cases hx:rq N sk.data with
  | none=>rw[hx] at hok;cases hok
  | some x =>
   rw[hx] at hok
   have hx0:x≠0:=fun e=>by rw[e] at hok;cases hok
   have hnu:x=nuV sk.data:=rq_nu hx
   refine ⟨sgn P N sk tx,0,qSign_y C O sk tx hsk htx ?_ ?_,fun w0 W k1 hL=>?_⟩
   ·unfold sec
    rw[hx,← hnu]
    simp[hx0]
   ·rw[← hnu]
    unfold rq at hx
    split at hx
    ·rename_i h
     rw[← Option.some.inj hx];exact h.2
    ·cases hx
   ·refine (sign_y C.toFld O _ _ _ _ _ _ sk.data tx.data W (lent_arg hL.l0) (lent_part' hL.l0 (by omega)) (lent_part' hL.l1 (by omega)) x hx hx0 _ _ _ rfl rfl rfl).mono ?_
    rintro e w' ⟨v,rfl,hb,u,rfl,hA⟩
    obtain ⟨q,n,cap,rfl,hC⟩:=hA.cv (wr_size _)
    refine ⟨_,rfl,hb,q,n,cap,rfl,?_⟩
    rw[hnu] at hC
    exact hC
 ·refine ⟨#[],3,qSign_n O sk tx ?_,fun w0 W k1 hL=>?_⟩
  ·unfold sec
   cases hx:rq N sk.data with
   | none=>rfl
   | some x =>
    rw[← rq_nu hx]
    rw[hx] at hok
    simpa using hok
  ·refine (sign_n O _ _ _ _ _ _ sk.data W (lent_arg hL.l0) (by simpa using hok)).mono ?_
   rintro e w' ⟨v,rfl,hb,rfl⟩
   exact ⟨_,rfl,hb,none,0,0,rfl,Or.inl ⟨rfl,rfl,rfl,rfl⟩⟩
section
variable (w0:World) (k1:Nat) (sk tx:ByteArray) (T:Bs) (ec:Int)
def Rl:Nat→Value→World→Prop
 | 0,v,_=>v=.slice (some ⟨w0.heap.size,0,none⟩) (sk.size+160) (sk.size+160)
 | 1,v,_=>v=.string sk
 | 2,v,_=>v=.int .i64 (sk.size:Int)
 | 3,v,_=>v=.slice (some ⟨w0.heap.size,0,none⟩) sk.size (sk.size+160)
 | 4,v,_=>v=.slice (some ⟨k1,0,none⟩) (tx.size+160) (tx.size+160)
 | 5,v,_=>v=.string tx
 | 6,v,_=>v=.int .i64 (tx.size:Int)
 | 7,v,_=>v=.slice (some ⟨k1,0,none⟩) tx.size (tx.size+160)
 | 8,v,W=>∃ q n cap,v=.tuple #[.slice q n cap,.int .i64 ec]∧Cv W q n cap T
 | 9,v,W=>∃ q n cap,v=.tuple #[.slice q n cap,.int .i64 ec]∧Cv W q n cap T
 | 10,v,W=>∃ q n cap,v=.slice q n cap∧Cv W q n cap T
 | 11,v,_=>v=.int .i64 ec
 | 12,v,W=>∃ q n cap,v=.slice q n cap∧Cv W q n cap T
 | 13,v,_=>v=.int .i64 ec
 | _,_,_=>True
def Gl:RG.Gw:=⟨Rl w0 k1 sk tx T ec,fun W=>Lw w0 W k1 sk tx,fun i v W W' hb h=>by
 match i,h with
 | 0,h=>exact h
 | 1,h=>exact h
 | 2,h=>exact h
 | 3,h=>exact h
 | 4,h=>exact h
 | 5,h=>exact h
 | 6,h=>exact h
 | 7,h=>exact h
 | 8,⟨q,n,cap,h1,h2⟩=>exact ⟨q,n,cap,h1,h2.grow hb⟩
 | 9,⟨q,n,cap,h1,h2⟩=>exact ⟨q,n,cap,h1,h2.grow hb⟩
 | 10,⟨q,n,cap,h1,h2⟩=>exact ⟨q,n,cap,h1,h2.grow hb⟩
 | 11,h=>exact h
 | 12,⟨q,n,cap,h1,h2⟩=>exact ⟨q,n,cap,h1,h2.grow hb⟩
 | 13,h=>exact h
 | _+14,_=>trivial,fun W W' hb h=>h.grow hb⟩
end
theorem signs_all (C:Fl3 P) (O:Ord N) (sk tx:ByteArray) (h1:sk.size≤4096) (h2:tx.size≤4096) (w0:World) :
 Calls Tryz.prog 3 #[.string sk,.string tx] w0 fun e w'=>e=.returned (.bool true)∧Below w0.heap.size w0 w':=by
 obtain ⟨T,ec,href,hprog⟩:=both_sign C O sk tx h1 h2
 have HR:=Hid.mk' href
 have HP:=Hid.mk' hprog
 clear C O href hprog
 have g1:¬ (4096:Int)<(sk.size:Int):=by omega
 have g2:¬ (4096:Int)<(tx.size:Int):=by omega
 have g5:(sk.size:Int)≤(sk.size:Int)+160:=by omega
 have g6:(tx.size:Int)≤(tx.size:Int)+160:=by omega
 have H1:Hid (sk.size≤16384):=(by omega:sk.size≤16384)
 have H2:Hid (tx.size≤16384):=(by omega:tx.size≤16384)
 clear h1 h2
 go_enter Tryz.func3,Tryz.ntmps3
 go_wp2_with fail
 refine (Lent_any sk _ H1.out).mono ?_
 rintro e w1 ⟨rfl,hb1,hL1⟩
 go_wp2_with fail
 refine (Lent_any tx w1 H2.out).mono ?_
 rintro e w2 ⟨rfl,hb2,hL2⟩
 obtain ⟨k1,hk1⟩:∃ k1,Hid (w1.heap.size=k1):=⟨_,rfl⟩
 have K2:Hid (Lw w0 w2 k1 sk tx):=⟨hb1.trans (hb2.mono hb1.size),Holds.below hL1 hb2 (Holds.lt hL1 (by rw[lent_size];omega)),by rw[← hk1.out];exact hL2⟩
 rw[hk1.out]
 clear hb1 hb2 hL1 hL2 hk1
 go_wp2_with fail
 refine (Gl w0 k1 sk tx T ec).draws (by kernel_rfl) (by kernel_rfl) ⟨
  RG.gw_val fun a W hp=>⟨[(5,.slice (some ⟨w0.heap.size,0,none⟩) (sk.size+160) (sk.size+160))],.slice (some ⟨w0.heap.size,0,none⟩) (sk.size+160) (sk.size+160),W,⟨hp.o 5 (by kernel_rfl),trivial⟩,by kernel_rfl,Below.refl _ _,rfl⟩,
  RG.gw_val fun a W hp=>⟨[(0,.string sk)],.string sk,W,⟨hp.o 0 (by kernel_rfl),trivial⟩,by kernel_rfl,Below.refl _ _,rfl⟩,
  RG.gw_val fun a W hp=>⟨[(27,.string sk)],.int .i64 (sk.size:Int),W,⟨hp.n 1 27 (by kernel_rfl) (by kernel_rfl),trivial⟩,by kernel_rfl,Below.refl _ _,rfl⟩,
  RG.gw_val fun a W hp=>⟨[(26,.slice (some ⟨w0.heap.size,0,none⟩) (sk.size+160) (sk.size+160)),(28,.int .i64 (sk.size:Int))],.slice (some ⟨w0.heap.size,0,none⟩) sk.size (sk.size+160),W,⟨hp.n 0 26 (by kernel_rfl) (by kernel_rfl),hp.n 2 28 (by kernel_rfl) (by kernel_rfl),trivial⟩,by
   rw[Prod.mk.injEq]
   refine ⟨by kernel_rfl,?_⟩
   show ((Instr.sliceAt 22 (.slice (some ⟨w0.heap.size,0,none⟩) (sk.size+160) (sk.size+160)) none (some (.int .i64 (sk.size:Int))) none) >>= fun v=>pure (Next.value v)).run Tryz.prog W=_
   rw[Sem.run_bind,slLent _ _ (by have:=H1.out;omega)]
   rfl,Below.refl _ _,rfl⟩,
  RG.gw_val fun a W hp=>⟨[(6,.slice (some ⟨k1,0,none⟩) (tx.size+160) (tx.size+160))],.slice (some ⟨k1,0,none⟩) (tx.size+160) (tx.size+160),W,⟨hp.o 6 (by kernel_rfl),trivial⟩,by kernel_rfl,Below.refl _ _,rfl⟩,
  RG.gw_val fun a W hp=>⟨[(1,.string tx)],.string tx,W,⟨hp.o 1 (by kernel_rfl),trivial⟩,by kernel_rfl,Below.refl _ _,rfl⟩,
  RG.gw_val fun a W hp=>⟨[(31,.string tx)],.int .i64 (tx.size:Int),W,⟨hp.n 5 31 (by kernel_rfl) (by kernel_rfl),trivial⟩,by kernel_rfl,Below.refl _ _,rfl⟩,
  RG.gw_val fun a W hp=>⟨[(30,.slice (some ⟨k1,0,none⟩) (tx.size+160) (tx.size+160)),(32,.int .i64 (tx.size:Int))],.slice (some ⟨k1,0,none⟩) tx.size (tx.size+160),W,⟨hp.n 4 30 (by kernel_rfl) (by kernel_rfl),hp.n 6 32 (by kernel_rfl) (by kernel_rfl),trivial⟩,by
   rw[Prod.mk.injEq]
   refine ⟨by kernel_rfl,?_⟩
   show ((Instr.sliceAt 22 (.slice (some ⟨k1,0,none⟩) (tx.size+160) (tx.size+160)) none (some (.int .i64 (tx.size:Int))) none) >>= fun v=>pure (Next.value v)).run Tryz.prog W=_
   rw[Sem.run_bind,slLent _ _ (by have:=H2.out;omega)]
   rfl,Below.refl _ _,rfl⟩,
  RG.gw_call fun a W hp=>⟨[(29,.slice (some ⟨w0.heap.size,0,none⟩) sk.size (sk.size+160)),(33,.slice (some ⟨k1,0,none⟩) tx.size (tx.size+160))],10,#[.slice (some ⟨w0.heap.size,0,none⟩) sk.size (sk.size+160),.slice (some ⟨k1,0,none⟩) tx.size (tx.size+160)],⟨hp.n 3 29 (by kernel_rfl) (by kernel_rfl),hp.n 7 33 (by kernel_rfl) (by kernel_rfl),trivial⟩,by kernel_rfl,HP.out w0 W k1 hp.b⟩,
  RG.gw_val fun a W hp=>⟨[(34,a.eval (.tmp 34))],a.eval (.tmp 34),W,⟨rfl,trivial⟩,by kernel_rfl,Below.refl _ _,hp.n 8 34 (by kernel_rfl) (by kernel_rfl)⟩,
  RG.gw_val fun a W hp=>by
   obtain ⟨q,n,cap,he,hc⟩:=(hp.n 9 25 (by kernel_rfl) (by kernel_rfl):∃ q n cap,a.eval (.tmp 25)=.tuple #[.slice q n cap,.int .i64 ec]∧Cv W q n cap T)
   exact ⟨[(25,.tuple #[.slice q n cap,.int .i64 ec])],.slice q n cap,W,⟨he,trivial⟩,by kernel_rfl,Below.refl _ _,q,n,cap,rfl,hc⟩,
  RG.gw_val fun a W hp=>by
   obtain ⟨q,n,cap,he,hc⟩:=(hp.n 9 25 (by kernel_rfl) (by kernel_rfl):∃ q n cap,a.eval (.tmp 25)=.tuple #[.slice q n cap,.int .i64 ec]∧Cv W q n cap T)
   exact ⟨[(25,.tuple #[.slice q n cap,.int .i64 ec])],.int .i64 ec,W,⟨he,trivial⟩,by kernel_rfl,Below.refl _ _,rfl⟩,
  RG.gw_val fun a W hp=>⟨[(35,a.eval (.tmp 35))],a.eval (.tmp 35),W,⟨rfl,trivial⟩,by kernel_rfl,Below.refl _ _,hp.n 10 35 (by kernel_rfl) (by kernel_rfl)⟩,
  RG.gw_val fun a W hp=>⟨[(36,a.eval (.tmp 36))],a.eval (.tmp 36),W,⟨rfl,trivial⟩,by kernel_rfl,Below.refl _ _,hp.n 11 36 (by kernel_rfl) (by kernel_rfl)⟩,trivial⟩ K2.out.drew ?_
 intro V w3 hR hB
 obtain ⟨q,n,cap,hV,hC⟩:=(hR 12 (Nat.lt_of_succ_le (Nat.le_of_ble_eq_true (by kernel_rfl))):∃ q n cap,V 12=.slice q n cap∧Cv w3 q n cap T)
 have hV13:V 13=.int .i64 ec:=hR 13 (Nat.lt_of_succ_le (Nat.le_of_ble_eq_true (by kernel_rfl)))
 have K3:Hid (Lw w0 w3 k1 sk tx∧Cv w3 q n cap T):=⟨hB,hC⟩
 dsimp only[RG.putV,Nat.reduceAdd]
 simp only[Act.put,List.setIfInBounds_toArray,List.set_cons_succ,List.set_cons_zero]
 rw[hV,hV13]
 clear hR hB hV hC hV13 K2
 generalize V 0=s0
 generalize V 1=s1
 generalize V 2=s2
 generalize V 3=s3
 generalize V 4=s4
 generalize V 5=s5
 generalize V 6=s6
 generalize V 7=s7
 generalize V 8=s8
 generalize V 9=s9
 generalize V 10=s10
 generalize V 11=s11
 go_wp2_with fail
 refine (Still_any w0.heap.size _ sk w3 H1.out K3.out.1.l0 rfl).mono ?_
 rintro e w4 ⟨rfl,hb4⟩
 have K4:Hid (Lw w0 w4 k1 sk tx∧Cv w4 q n cap T):=⟨K3.out.1.grow hb4,K3.out.2.grow hb4⟩
 clear hb4 K3
 go_wp2_with fail
 refine (Still_any k1 _ tx w4 H2.out K4.out.1.l1 rfl).mono ?_
 rintro e w5 ⟨rfl,hb5⟩
 have K5:Hid (Lw w0 w5 k1 sk tx∧Cv w5 q n cap T):=⟨K4.out.1.grow hb5,K4.out.2.grow hb5⟩
 clear hb5 K4
 go_wp2_with fail
 refine (HR.out w5).mono ?_
 rintro e w6 ⟨vv,rfl,hb6,rfl⟩
 have K6:Hid (Lw w0 w6 k1 sk tx∧Cv w6 q n cap T):=⟨K5.out.1.grow hb6,K5.out.2.grow hb6⟩
 clear hb6 K5
 have hcv:=K6.out.2.conv
 have eT:=str_eqL T
 go_wp2
 go_ret
 exact ⟨by simp,K6.out.1.bl⟩
theorem ordN:Ord Go.Proofs.YtglhhepedoffeaaGreat.p1:=⟨gap1,refP1,by decide +kernel,by decide +kernel⟩
theorem signs_any (a b:ByteArray) (w0:World) :
 Calls Tryz.prog 3 #[.string a,.string b] w0 fun e w'=>e=.returned (.bool true)∧Below w0.heap.size w0 w':=by
 by_cases ha:a.size≤4096
 ·by_cases hb:b.size≤4096
  ·obtain ⟨P,hz,C⟩:=fl3
   exact signs_all C ordN a b ha hb w0
  ·have g1:¬ (4096:Int)<(a.size:Int):=by omega
   have g2:(4096:Int)<(b.size:Int):=by omega
   go_enter Tryz.func3,Tryz.ntmps3
   go_wp2
   go_ret
   exact ⟨rfl,Below.refl _ _⟩
 ·have g1:(4096:Int)<(a.size:Int):=by omega
  go_enter Tryz.func3,Tryz.ntmps3
  go_wp2
  go_ret
  exact ⟨rfl,Below.refl _ _⟩
end
/-
  THE ROW OF 'SigmaSigns' round its walk; the frame by the guide's program (howto/shells), the world behind the call told by 'Below'.
-/
namespace sigmaSigns
open Go.ChangeShapes Go.WideShapes Go.ChangeAt Go.RowKit
open Go.ChangeMaps (open_string shut_string)
theorem own:ownKnob Tryz.prog.godebug=none:=by kernel_rfl
theorem lifted (os:Os) (started:os.Started) (H:Type) (enc:TypeId × Value→H) :
 ReturnsInHanded {} Tryz.checked os 3 .any (Rows.sigmaSignsSpec.pre6 enc Tryz.prog Tryz.f3 Rows.sigmaSignsRow.domain false) (Rows.sigmaSignsSpec.post enc Tryz.prog Tryz.f3 false true false false):=by
 refine returnsInHanded_of_change (C:=Tryz.checked) own started (by kernel_rfl) Tryz.func3
  (ChangeSpec.witness6 (enc:=enc) (C:=Tryz.checked) false ⟨#[],#[.string ByteArray.empty,.string ByteArray.empty],[]⟩ 8 (by kernel_rfl) (by kernel_rfl) (by kernel_rfl) (by kernel_rfl)) ?_
 intro W base args ds gs before hval0 hW hcnd _
 have hval:∀ (j:Nat) t v,Tryz.f3.params[j]? = some t→args[j]? = some v→Value.okWide Tryz.prog W .any base t v:=hval0
 have hW':=hW
 obtain ⟨p,q,hA0,hV,rfl,hfz,hnd⟩:=hW
 have hA:DataW.TrodAll enc Tryz.prog W 0 (fun _=>true) true Tryz.f3.params.toList args.toList ds p:=hA0
 rw[Tryz.params3] at hA hval
 obtain ⟨v0,vs0,d0,ds0,p0,q0,hargs,rfl,rfl,h0,r0⟩:=trodAll_cons hA
 obtain ⟨v1,vs1,d1,ds1,p1,q1,rfl,rfl,rfl,h1,r1⟩:=trodAll_cons r0
 obtain ⟨rfl,rfl,rfl⟩:=trodAll_nil r1
 obtain rfl:args=#[v0,v1]:=by cases args;simp_all
 obtain ⟨rfl,rfl⟩:=trodVars_none hV
 obtain ⟨a0,rfl,rfl,rfl,w0⟩:=open_string Tryz.underlying9 (hval 0 9 v0 rfl rfl) h0
 obtain ⟨a1,rfl,rfl,rfl,w1⟩:=open_string Tryz.underlying9 (hval 1 9 v1 rfl rfl) h1
 clear hA0 hval0
 refine (signs_any a0 a1 W).mono fun e W' ⟨he,bel⟩=>?_
 subst he
 exact ⟨_,rfl,_,_,_,[],_,[],hW',(trodAll_cons_mk (shut_bool Tryz.underlying4 _) trodAll_mk0),(trodAll_cons_mk (shut_string Tryz.underlying9 w0) (trodAll_cons_mk (shut_string Tryz.underlying9 w1) trodAll_mk0)),rfl,bel.frame _,fun h=>by cases h⟩
theorem over:Rows.sigmaSignsRow.holds Tryz.pinned (OpenSpec.ofChange Rows.sigmaSignsSpec):=
 OpenClaim.holds_of_wide 3 Tryz.f3 rfl rfl rfl rfl rfl rfl rfl ⟨rfl,rfl,rfl,rfl,rfl⟩ rfl rfl rfl rfl rfl (by kernel_rfl) Tryz.func3 (by kernel_rfl)
  (of_decide_eq_true (by kernel_rfl)) (by unfold Func.isWrapper;first|(rw[if_pos (by decide +kernel)];kernel_rfl)|(rw[if_neg (by decide +kernel)];exact ⟨rfl,rfl⟩))
  (fun os started H enc _=>lifted os started H enc)
theorem proved:Rows.SigmaSignsSaid:=
 over
end sigmaSigns
section
theorem sigmaSigns_holds:Rows.SigmaSignsSaid:=sigmaSigns.proved
#print axioms sigmaSigns_holds
end
end Go.Proofs.YtglhhepedoffeaaGreat
