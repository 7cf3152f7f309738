import Derived.Lib.AppendZeros
import Derived.Deep.AppendSrc
import Derived.Test.YtnfpdihkjkimiaaGreatsh4
set_option linter.unusedVariables false
set_option linter.constructorNameAsVariable false
set_option linter.unusedSimpArgs false
set_option maxRecDepth 1000000
set_option maxHeartbeats 4000000
namespace Go.Proofs.YtnfpdihkjkimiaaGreat
namespace RG
open Go Go.RowKit
variable {P:Program} {ops:Array Oper} {Q:Exit→Act→World→Prop} {w:World} {a0:Act} {L:Array Bool}
structure Flow where
 R:Nat→Value→World→Prop
 B:Nat→World→Prop
 E:Nat→World→World→Prop
 kill:Nat→List Nat
 killB:Nat→List Nat
def dstOf (ops:Array Oper) (i:Nat):Option Tmp:=(ops[i]?).bind (·.dst)
def depOn (ops:Array Oper) (x k:Nat):Bool:=match ops[x]? with|some o=>depB o k|none=>true
def okK (ops:Array Oper) (k:Nat) (l:List Nat):Bool:=l.all (fun x=>x == k || depOn ops x k)
def freeF (ops:Array Oper) (k:Nat) (t:Tmp):Bool:=(List.range ops.size).all (fun i=>dstOf ops i != some t || i == k || depOn ops i k)
structure InvF (F:Flow) (ops:Array Oper) (a0:Act) (L:Array Bool) (a:Act) (w:World):Prop where
 size:L.size=ops.size
 cl:∀ (i:Nat) (o:Oper),ops[i]? = some o→on L i=true→∀ e∈o.after,Region.binds .any e=true→on L e.on=true
 def':a.defers=a0.defers
 sz:a.tmps.size=a0.tmps.size
 rest:∀ t:Tmp,(∀ i,on L i=true→dstOf ops i≠some t)→a.tmps[t]? = a0.tmps[t]?
 all:∃ V:Nat→Value,(∀ i d,on L i=true→dstOf ops i=some d→a.tmps[d]? = some (V i))∧(∀ i,on L i=true→(∀ x∈F.kill i,on L x=false)→F.R i (V i) w)
 base:∀ b,(∀ x∈F.killB b,on L x=false)→F.B b w
def CertF (P:Program) (Q:Exit→Act→World→Prop) (F:Flow) (ops:Array Oper) (a0:Act) (k:Nat) (o:Oper):Prop:=
 ∀ (a:Act) (w:World) (K:Act→World→Prop),
  (∀ j d,depB o j=true→okK ops k (F.kill j)=true→dstOf ops j=some d→F.R j (a.eval (.tmp d)) w) →
  (∀ t,freeF ops k t=true→a.eval (.tmp t)=a0.eval (.tmp t)) →
  (∀ b,okK ops k (F.killB b)=true→F.B b w) →
  (∀ v w',F.E k w w'→F.R k v w'→K (a.put o.dst v) w')→o.wp P a w K Q
def CertH (P:Program) (Q:Exit→Act→World→Prop) (F:Flow) (ops:Array Oper) (a0:Act) (k:Nat) (o:Oper):Prop:=
 match o.guard with
 | none=>CertF P Q F ops a0 k o
 | some (j,want)=>depB o j=true∧(dstOf ops j).isSome=true∧okK ops k (F.kill j)=true ∧
  (((∀ v w,F.R j v w→v=.bool want)∧CertF P Q F ops a0 k o)∨((∀ v w,F.R j v w→v=.bool (!want))∧∀ w,F.E k w w∧F.R k undef w))
def chkF (ops:Array Oper) (n:Nat):Bool:=
 (List.range ops.size).all (fun i=>match ops[i]? with
  | some o=>o.after.all (fun e=>!Region.binds .any e || e.on<i) && (match o.dst with|none=>true|some d=>decide (d<n) && (List.range ops.size).all (fun j=>j == i || dstOf ops j != some d))
  | none=>false)
structure RegF (P:Program) (Q:Exit→Act→World→Prop) (F:Flow) (ops:Array Oper) (a0:Act) (m:Nat):Prop where
 chk:chkF ops a0.tmps.size=true
 cert:∀ k o,k<m→ops[k]? = some o→CertH P Q F ops a0 k o
 stab:∀ i j,i<m→j<m→i≠j→(F.kill j).contains i=false→depOn ops j i=false→∀ v w w',F.E i w w'→F.R j v w→F.R j v w'
 stabB:∀ i b,i<m→(F.killB b).contains i=false→∀ w w',F.E i w w'→F.B b w→F.B b w'
variable {F:Flow} {m:Nat}
theorem RegF.of {k:Nat} {o:Oper} (h:RegF P Q F ops a0 m) (ho:ops[k]? = some o):(∀ e∈o.after,Region.binds .any e=true→e.on<k)∧∀ d,o.dst=some d→d<a0.tmps.size∧∀ j,dstOf ops j=some d→j=k:=by
 have hk:k<ops.size:=(Array.getElem?_eq_some_iff.1 ho).1
 have h1:=List.all_eq_true.1 h.chk k (List.mem_range.2 hk)
 rw[ho] at h1
 simp only[Bool.and_eq_true] at h1
 obtain ⟨h2,h3⟩:=h1
 refine ⟨fun e he hb=>?_,fun d hd=>?_⟩
 ·have:=Array.all_eq_true'.1 h2 e he
  simpa[hb] using this
 ·rw[hd] at h3
  simp only[Bool.and_eq_true,decide_eq_true_eq] at h3
  refine ⟨h3.1,fun j hj=>?_⟩
  have hjs:j<ops.size:=by
   unfold dstOf at hj
   cases hx:ops[j]? with
   | none=>rw[hx] at hj;cases hj
   | some x=>exact (Array.getElem?_eq_some_iff.1 hx).1
  have:=List.all_eq_true.1 h3.2 j (List.mem_range.2 hjs)
  simpa[hj] using this
theorem dstOf_some {i:Nat} {o:Oper} (ho:ops[i]? = some o):dstOf ops i=o.dst:=by unfold dstOf;rw[ho];rfl
theorem dep_on {a:Act} {x k:Nat} {o:Oper} (h:InvF F ops a0 L a w) {ho:ops[x]? = some o} (hd:depB o k=true) (hx:on L x=true):on L k=true:=by
 obtain ⟨e,he,hb⟩:=Array.any_eq_true'.1 hd
 simp only[Bool.and_eq_true,beq_iff_eq] at hb
 rw[← hb.2]
 exact h.cl x o ho hx e he hb.1
theorem on_lt {L:Array Bool} {x:Nat} (h:on L x=true):x<L.size:=by
 rcases Nat.lt_or_ge x L.size with h1|h1
 ·exact h1
 ·unfold on at h
  rw[Array.getD_eq_getD_getElem?,Array.getElem?_eq_none h1] at h
  cases h
theorem stepF {k:Nat} {o:Oper} {a:Act} (R:RegF P Q F ops a0 m) (hkm:k<m) (hlt:∀ i,on L i=true→i<m) (ho:ops[k]? = some o) (hun:on L k=false) (hdep:∀ e∈o.after,Region.binds .any e=true→on L e.on=true) (h:InvF F ops a0 L a w) :
 wpOp P ops Q k (InvF F ops a0 (L.setIfInBounds k true)) a w:=by
 obtain ⟨hback,hdst⟩:=R.of ho
 have hks:k<ops.size:=(Array.getElem?_eq_some_iff.1 ho).1
 have hkL:k<L.size:=by rw[h.size];exact hks
 have hdo:dstOf ops k=o.dst:=dstOf_some ho
 have hnot:∀ x,(x == k || depOn ops x k)=true→on L x=false:=fun x hx=>by
  cases hon:on L x with
  | false=>rfl
  | true =>
   rcases Bool.or_eq_true _ _ ▸ hx with h1|h1
   ·rw[show x=k by simpa using h1,hun] at hon;cases hon
   ·unfold depOn at h1
    have hxs:x<ops.size:=by rw[← h.size];exact on_lt hon
    have hox:ops[x]? = some ops[x]:=Array.getElem?_eq_getElem hxs
    rw[hox] at h1
    have:=dep_on (ho:=hox) h h1 hon
    rw[hun] at this;cases this
 obtain ⟨V,hV1,hV2⟩:=h.all
 have hp1:∀ j d,depB o j=true→okK ops k (F.kill j)=true→dstOf ops j=some d→a.tmps[d]? = some (V j)∧F.R j (V j) w:=fun j d hj hok hd=>by
  obtain ⟨e,he,hb⟩:=Array.any_eq_true'.1 hj
  simp only[Bool.and_eq_true,beq_iff_eq] at hb
  have hjon:on L j=true:=by rw[← hb.2];exact hdep e he hb.1
  exact ⟨hV1 j d hjon hd,hV2 j hjon fun x hx=>hnot x (List.all_eq_true.1 hok x hx)⟩
 have hpre1:∀ j d,depB o j=true→okK ops k (F.kill j)=true→dstOf ops j=some d→F.R j (a.eval (.tmp d)) w:=fun j d hj hok hd=>by
  rw[eval_of (hp1 j d hj hok hd).1]
  exact (hp1 j d hj hok hd).2
 have hpre2:∀ t,freeF ops k t=true→a.eval (.tmp t)=a0.eval (.tmp t):=fun t hf=>by
  have h1:=h.rest t fun i hi hd=>by
   have his:i<ops.size:=by rw[← h.size];exact on_lt hi
   have h2:=List.all_eq_true.1 hf i (List.mem_range.2 his)
   rw[hd] at h2
   have h3:(i == k || depOn ops i k)=true:=by simpa using h2
   rw[hnot i h3] at hi;cases hi
  show a.tmps.getD t undef=a0.tmps.getD t undef
  rw[Array.getD_eq_getD_getElem?,Array.getD_eq_getD_getElem?,h1]
 have hpre3:∀ b,okK ops k (F.killB b)=true→F.B b w:=fun b hb=>h.base b fun x hx=>hnot x (List.all_eq_true.1 hb x hx)
 have hpost:∀ v w',F.E k w w'→F.R k v w'→InvF F ops a0 (L.setIfInBounds k true) (a.put o.dst v) w':=fun v w' hE hR=>by
  have hon:∀ x,on (L.setIfInBounds k true) x=(on L x || k == x):=fun x=>on_set hkL
  refine ⟨by rw[Array.size_setIfInBounds];exact h.size,fun i oi hoi hi e he hb=>?_,?_,?_,fun t ht=>?_,⟨fun x=>if x=k then v else V x,fun i d hi hd=>?_,fun i hi hkl=>?_⟩,fun b hb=>?_⟩
  ·rw[hon] at hi ⊢
   by_cases hik:k=i
   ·subst hik
    rw[ho] at hoi
    obtain rfl:=Option.some.inj hoi
    rw[hdep e he hb,Bool.true_or]
   ·rw[h.cl i oi hoi (by simpa[hik] using hi) e he hb,Bool.true_or]
  ·rw[← h.def'];cases o.dst<;>rfl
  ·rw[put_size];exact h.sz
  ·have h1:o.dst≠some t:=fun hd=>ht k (by rw[hon];simp) (by rw[hdo];exact hd)
   rw[put_other a v h1]
   exact h.rest t fun i hi=>ht i (by rw[hon,hi,Bool.true_or])
  ·rw[hon] at hi
   by_cases hik:i=k
   ·subst hik
    rw[hdo] at hd
    rw[hd]
    show (a.tmps.setIfInBounds d v)[d]? = some (if i=i then v else V i)
    rw[if_pos (rfl:i=i)]
    rw[Array.getElem?_setIfInBounds,if_pos rfl,if_pos (by rw[h.sz];exact (hdst d hd).1)]
   ·have hne:o.dst≠some d:=fun hd2=>hik ((hdst d hd2).2 i hd)
    rw[put_other a v hne]
    show _=some (if i=k then v else V i)
    rw[if_neg hik]
    have hik':¬ k=i:=fun e=>hik e.symm
    exact hV1 i d (by simpa[hik'] using hi) hd
  ·rw[hon] at hi
   by_cases hik:i=k
   ·subst hik
    show F.R i (if i=i then v else V i) w'
    rw[if_pos rfl];exact hR
   ·show F.R i (if i=k then v else V i) w'
    rw[if_neg hik]
    have hik':¬ k=i:=fun e=>hik e.symm
    have hi':on L i=true:=by simpa[hik'] using hi
    have h1:∀ x∈F.kill i,on L x=false:=fun x hx=>by
     have:=hkl x hx
     rw[hon,Bool.or_eq_false_iff] at this
     exact this.1
    have h2:(F.kill i).contains k=false:=by
     cases hc:(F.kill i).contains k with
     | false=>rfl
     | true =>
      have:=hkl k (by simpa using hc)
      rw[hon] at this
      simp at this
    have his:i<ops.size:=by rw[← h.size];exact on_lt hi'
    have h3:depOn ops i k=false:=by
     cases hc:depOn ops i k with
     | false=>rfl
     | true=>rw[hnot i (by rw[hc,Bool.or_true])] at hi';cases hi'
    exact R.stab k i hkm (hlt i hi') (Ne.symm hik) h2 h3 _ _ _ hE (hV2 i hi' h1)
  ·have h1:∀ x∈F.killB b,on L x=false:=fun x hx=>by
    have:=hb x hx
    rw[hon,Bool.or_eq_false_iff] at this
    exact this.1
   have h2:(F.killB b).contains k=false:=by
    cases hc:(F.killB b).contains k with
    | false=>rfl
    | true =>
     have:=hb k (by simpa using hc)
     rw[hon] at this
     simp at this
   exact R.stabB k b hkm h2 _ _ hE (h.base b h1)
 have hC:=R.cert k o hkm ho
 unfold CertH at hC
 unfold wpOp
 rw[ho]
 dsimp only
 cases hg:o.guard with
 | none =>
  rw[hg] at hC
  rw[wanted_none hg,if_pos rfl]
  left
  exact hC a w _ hpre1 hpre2 hpre3 hpost
 | some jw =>
  obtain ⟨j,want⟩:=jw
  rw[hg] at hC
  obtain ⟨hd1,hd2,hd3,hcase⟩:=hC
  obtain ⟨d,hd⟩:=Option.isSome_iff_exists.1 hd2
  obtain ⟨hs,hRj⟩:=hp1 j d hd1 hd3 hd
  have hy:∀ b,V j=.bool b→Region.wanted o (yielded ops a.tmps)=(b == want):=fun b hb=>by
   have h4:yielded ops a.tmps j=some b:=by
    unfold dstOf at hd
    unfold yielded
    cases hoj:ops[j]? with
    | none=>rw[hoj] at hd;cases hd
    | some oj =>
     rw[hoj] at hd
     show (match oj.dst.bind (a.tmps[·]?) with|some (.bool b)=>some b|_=>none)=_
     rw[show oj.dst=some d from hd]
     show (match a.tmps[d]? with|some (.bool b)=>some b|_=>none)=_
     rw[hs,hb]
   unfold Region.wanted
   rw[hg]
   show (yielded ops a.tmps j == some want)=_
   rw[h4]
   cases b<;>cases want<;>rfl
  rcases hcase with ⟨hw,hc⟩|⟨hw,hsk⟩
  ·rw[hy _ (hw _ _ hRj),show (want == want)=true by cases want<;>rfl,if_pos rfl]
   left
   exact hc a w _ hpre1 hpre2 hpre3 hpost
  ·rw[hy _ (hw _ _ hRj),show ((!want) == want)=false by cases want<;>rfl]
   exact hpost undef w (hsk w).1 (hsk w).2
def putV (V:Nat→Value):List Oper→Nat→Act→Act
 | [],_,a=>a
 | o :: r,i,a=>putV V r (i+1) (a.put o.dst (V i))
theorem putV_defers (V:Nat→Value):∀ (l:List Oper) (i:Nat) (a:Act),(putV V l i a).defers=a.defers
 | [],_,_=>rfl
 | o :: r,i,a=>by
  rw[putV,putV_defers V r]
  cases o.dst<;>rfl
theorem putV_other (V:Nat→Value):∀ (l:List Oper) (i:Nat) (a:Act) (t:Tmp),(∀ o∈l,o.dst≠some t)→(putV V l i a).tmps[t]? = a.tmps[t]?
 | [],_,_,_,_=>rfl
 | o :: r,i,a,t,h=>by
  rw[putV,putV_other V r _ _ t (fun x hx=>h x (List.mem_cons_of_mem _ hx)),put_other a _ (h o List.mem_cons_self)]
theorem putV_same (V:Nat→Value):∀ (l:List Oper) (i:Nat) (a:Act) (j:Nat) (o:Oper) (d:Tmp),l[j]? = some o→o.dst=some d→(∀ j' o',l[j']? = some o'→o'.dst=some d→j'=j)→d<a.tmps.size→(putV V l i a).tmps[d]? = some (V (i+j))
 | [],_,_,_,_,_,h,_,_,_=>by simp at h
 | x :: r,i,a,0,o,d,h,hd,hu,hs=>by
  obtain rfl:x=o:=by simpa using h
  rw[putV,putV_other V r _ _ d (fun y hy hyd=>by
   obtain ⟨j',hj'⟩:=List.getElem?_of_mem hy
   have:=hu (j'+1) y (by simpa using hj') hyd
   omega),hd]
  show (a.tmps.setIfInBounds d _)[d]? = _
  rw[Array.getElem?_setIfInBounds,if_pos rfl,if_pos hs]
  rfl
 | x :: r,i,a,j+1,o,d,h,hd,hu,hs=>by
  rw[putV,putV_same V r (i+1) _ j o d (by simpa using h) hd (fun j' o' h' hd'=>by
   have:=hu (j'+1) o' (by simpa using h') hd'
   omega) (by rw[put_size];exact hs)]
  congr 2
  omega
theorem InvF.done {a:Act} (R:RegF P Q F ops a0 m) (h:InvF F ops a0 L a w) (hall:∀ i,i<ops.size→on L i=true)
 (hp:∀ (V:Nat→Value),(∀ i,i<ops.size→F.kill i=[]→F.R i (V i) w)→(∀ b,F.killB b=[]→F.B b w)→Q .normal (putV V ops.toList 0 a0) w):Q .normal a w:=by
 obtain ⟨V,hV1,hV2⟩:=h.all
 have e:a=putV V ops.toList 0 a0:=by
  refine Act.ext' ?_ (by rw[putV_defers];exact h.def')
  apply Array.ext_getElem?
  intro t
  by_cases ht:∃ (i:Nat) (o:Oper),ops[i]? = some o∧o.dst=some t
  ·obtain ⟨i,o,ho,hd⟩:=ht
   rw[hV1 i t (hall i (Array.getElem?_eq_some_iff.1 ho).1) (by rw[dstOf_some ho];exact hd)]
   rw[putV_same V ops.toList 0 a0 i o t (by rw[Array.getElem?_toList];exact ho) hd (fun j' o' hj' hd'=>((R.of ho).2 t hd).2 j' (by rw[Array.getElem?_toList] at hj';rw[dstOf_some hj'];exact hd')) ((R.of ho).2 t hd).1,Nat.zero_add]
  ·rw[h.rest t (fun i hi hd=>?_),putV_other V ops.toList 0 a0 t (fun o hm hd=>?_)]
   ·obtain ⟨i,hi⟩:=List.getElem?_of_mem hm
    rw[Array.getElem?_toList] at hi
    exact ht ⟨i,o,hi,hd⟩
   ·unfold dstOf at hd
    cases hx:ops[i]? with
    | none=>rw[hx] at hd;cases hd
    | some x=>rw[hx] at hd;exact ht ⟨i,x,hx,hd⟩
 rw[e]
 exact hp V (fun i hi hk=>hV2 i (hall i hi) (by rw[hk];simp)) (fun b hb=>h.base b (by rw[hb];simp))
theorem InvF.full {a:Act} (R:RegF P Q F ops a0 m) (h:InvF F ops a0 L a w) (hr:Region.ready .any ops L=[]):∀ i,i<ops.size→on L i=true:=by
 intro i
 induction i using Nat.strongRecOn with
 | ind i ih =>
  intro hi
  have ho:ops[i]? = some ops[i]:=Array.getElem?_eq_getElem _
  cases hon:on L i with
  | true=>rfl
  | false =>
   have:i∈Region.ready .any ops L:=mem_ready.2 ⟨?_,_,ho,fun e he hb=>?_⟩
   ·rw[hr] at this;cases this
   ·unfold on at hon
    rw[Array.getD_eq_getD_getElem?,Array.getElem?_eq_getElem (by rw[h.size];exact hi)] at hon ⊢
    exact hon
   ·have hlt:=(R.of ho).1 e he hb
    exact ih e.on hlt (Nat.lt_trans hlt hi)
theorem flow_draws {id:Nat} (F:Flow) (hm:P.follows .mixedOrders=true) (R:RegF P Q F ops a0 ops.size) (hB:∀ b,F.B b w.drew)
 (hp:∀ (V:Nat→Value) (w':World),(∀ i,i<ops.size→F.kill i=[]→F.R i (V i) w')→(∀ b,F.killB b=[]→F.B b w')→Q .normal (putV V ops.toList 0 a0) w'):(Code.region id ops true).wp P Q a0 w:=by
 have key:∀ (fuel:Nat) (L:Array Bool) (a:Act) (w:World),unl L=fuel→InvF F ops a0 L a w→wpAny P .any ops Q fuel L a w:=by
  intro fuel
  induction fuel with
  | zero =>
   intro L a w hu hI
   have hall:∀ i,i<ops.size→on L i=true:=fun i hi=>unl_zero hu i (by rw[hI.size];exact hi)
   refine ⟨?_,hI.done R hall (fun V=>hp V w)⟩
   apply List.eq_nil_iff_forall_not_mem.2
   intro i hi
   obtain ⟨h1,o,ho,-⟩:=mem_ready.1 hi
   have h2:=hall i (Array.getElem?_eq_some_iff.1 ho).1
   unfold on at h2
   rw[Array.getD_eq_getD_getElem?] at h1 h2
   cases hh:L[i]? with
   | none=>rw[hh] at h1;cases h1
   | some b=>rw[hh] at h1 h2;rw[show b=false from h1] at h2;cases h2
  | succ fuel ih =>
   intro L a w hu hI
   refine ⟨fun hr=>hI.done R (hI.full R hr) (fun V=>hp V w),fun i hi=>?_⟩
   obtain ⟨h1,o,ho,hdep⟩:=mem_ready.1 hi
   have hoff:on L i=false:=by
    unfold on
    rw[Array.getD_eq_getD_getElem?] at h1 ⊢
    cases hh:L[i]? with
    | none=>rfl
    | some b=>rw[hh] at h1;exact h1
   exact wpOp_mono (fun a' w' hI'=>ih _ a' w' (by have:=unl_set h1;omega) hI') (stepF R (Array.getElem?_eq_some_iff.1 ho).1 (fun i hi=>by rw[← hI.size];exact on_lt hi) ho hoff hdep hI)
 have hoff:∀ i,on (Array.replicate ops.size false) i=false:=fun i=>by
  unfold on
  rw[Array.getD_eq_getD_getElem?,Array.getElem?_replicate]
  by_cases h:i<ops.size
  ·rw[if_pos h];rfl
  ·rw[if_neg h];rfl
 refine wp_region_any hm (key _ _ a0 _ ?_ ⟨Array.size_replicate,(fun i o _ h=>by rw[hoff] at h;cases h),rfl,rfl,fun _ _=>rfl,⟨fun _=>undef,fun i d h=>(by rw[hoff] at h;cases h),fun i h=>(by rw[hoff] at h;cases h)⟩,fun b _=>hB b⟩)
 unfold unl
 rw[Array.toList_replicate,List.countP_replicate]
 simp
structure PreF (F:Flow) (ops:Array Oper) (a0:Act) (k:Nat) (o:Oper) (a:Act) (w:World):Prop where
 n:∀ j d,depB o j=true→okK ops k (F.kill j)=true→dstOf ops j=some d→F.R j (a.eval (.tmp d)) w
 o:∀ t,freeF ops k t=true→a.eval (.tmp t)=a0.eval (.tmp t)
 b:∀ b,okK ops k (F.killB b)=true→F.B b w
def CertsF (P:Program) (Q:Exit→Act→World→Prop) (F:Flow) (ops:Array Oper) (a0:Act):Nat→List Oper→Prop
 | _,[]=>True
 | k,o :: r=>CertH P Q F ops a0 k o∧CertsF P Q F ops a0 (k+1) r
theorem certs_go:∀ (l:List Oper) (i:Nat),CertsF P Q F ops a0 i l→∀ k o,l[k]? = some o→CertH P Q F ops a0 (i+k) o
 | [],_,_,k,o,h=>by simp at h
 | x :: r,i,hc,0,o,h=>by
  obtain rfl:x=o:=by simpa using h
  exact hc.1
 | x :: r,i,hc,k+1,o,h=>by
  have:=certs_go r (i+1) hc.2 k o (by simpa using h)
  rwa[show i+1+k=i+(k+1) by omega] at this
theorem certs_of (h:CertsF P Q F ops a0 0 ops.toList):∀ k o,k<ops.size→ops[k]? = some o→CertH P Q F ops a0 k o:=fun k o _ ho=>by
 have:=certs_go ops.toList 0 h k o (by rw[Array.getElem?_toList];exact ho)
 rwa[Nat.zero_add] at this
def evo (ev:Tmp→Value):Operand→Value
 | .tmp t=>ev t
 | .const v=>v
 | .global g=>.pointer (some ⟨g,0,none⟩)
 | .func f=>.func (.func f) #[] #[]
def seenT (T:List Tmp) (o:Oper):Bool:=
 (match o.op with | .select _ _=>false|_=>true) && o.op.operands.all (fun x=>match x with | .tmp t=>T.contains t|_=>true)
theorem exec_ev {a:Act} {o:Oper} (ev:Tmp→Value) (T:List Tmp) (h:seenT T o=true) (he:∀ t∈T,a.eval (.tmp t)=ev t):execOp a.eval o=execOp (evo ev) o:=by
 simp only[seenT,Bool.and_eq_true] at h
 refine execOp_congr o (fun cs b he=>?_) (fun x hx=>?_)
 ·rw[he] at h;exact absurd h.1 (by simp)
 ·have h1:=Array.all_eq_true'.1 h.2 x hx
  cases x with
  | tmp t=>exact he t (by simpa using h1)
  | const v=>rfl
  | global g=>rfl
  | func f=>rfl
theorem cf_val {k:Nat} {o:Oper} (h:∀ (a:Act) (w:World),PreF F ops a0 k o a w→∃ v w',(execOp a.eval o).run P w=.ok (.value v) w'∧F.E k w w'∧F.R k v w'):CertF P Q F ops a0 k o:=by
 intro a w K h1 h2 h3 hK
 obtain ⟨v,w',hr,hE,hR⟩:=h a w ⟨h1,h2,h3⟩
 unfold Oper.wp
 rw[hr]
 exact hK v w' hE hR
theorem cf_one {k:Nat} {o:Oper} (t:Tmp) (h:∀ (a:Act) (w:World),PreF F ops a0 k o a w→∃ v w',(seenT [t] o=true)∧(execOp (evo fun _=>a.eval (.tmp t)) o).run P w=.ok (.value v) w'∧F.E k w w'∧F.R k v w'):CertF P Q F ops a0 k o:=by
 refine cf_val fun a w hp=>?_
 obtain ⟨v,w',hs,hr,hE⟩:=h a w hp
 refine ⟨v,w',?_,hE⟩
 rw[exec_ev (fun _=>a.eval (.tmp t)) [t] hs (fun x hx=>by rw[show x=t by simpa using hx])]
 exact hr
theorem cf_call {k:Nat} {o:Oper} (t:Tmp) (h:∀ (a:Act) (w:World),PreF F ops a0 k o a w→∃ f args,(seenT [t] o=true)∧(execOp (evo fun _=>a.eval (.tmp t)) o).run P w=.ok (.enter f args) w∧Calls P f args w (Ret fun e w'=>F.E k w w'∧F.R k e w')):CertF P Q F ops a0 k o:=by
 intro a w K h1 h2 h3 hK
 obtain ⟨f,args,hs,hr,hc⟩:=h a w ⟨h1,h2,h3⟩
 unfold Oper.wp
 rw[exec_ev (fun _=>a.eval (.tmp t)) [t] hs (fun x hx=>by rw[show x=t by simpa using hx]),hr,Oper.upon_enter]
 refine hc.mono ?_
 rintro e w' ⟨v,rfl,hE,hR⟩
 exact hK _ _ hE hR
theorem cf_load {k:Nat} {o:Oper} (T:TypeId) (t:Tmp) (ho:o.op=.load T (.tmp t)) (hu:(P.underlying T).map (·.isRow)=some true)
 (h:∀ (a:Act) (w:World),PreF F ops a0 k o a w→∃ g off cs,a.eval (.tmp t)=.pointer (some ⟨g,off,none⟩)∧w.rangeAt g off cs∧(P.info? T).map (·.size)=some cs.length∧F.E k w w∧F.R k (.agg cs.toArray) w):CertF P Q F ops a0 k o:=by
 intro a w K h1 h2 h3 hK
 obtain ⟨g,off,cs,he,hr,hi,hE,hR⟩:=h a w ⟨h1,h2,h3⟩
 obtain ⟨d,hu,hd⟩:=Option.map_eq_some_iff.1 hu
 exact wp_load_mid T (.tmp t) ho g off he cs d hr hu hd hi (hK _ _ hE hR)
theorem cf_app {k:Nat} {o:Oper} (s u:Tmp) (t:TypeId) (ho:o.op=.call { callee:=.builtin .append,args:=#[.tmp s,.tmp u],argTypes:=#[t,t] })
 (h:∀ (a:Act) (w:World),PreF F ops a0 k o a w→∃ v w',(Builtin.append_ #[t,t] o.type #[a.eval (.tmp s),a.eval (.tmp u)]).run P w=.ok v w'∧F.E k w w'∧F.R k v w'):CertF P Q F ops a0 k o:=by
 intro a w K h1 h2 h3 hK
 obtain ⟨v,w',hr,hE,hR⟩:=h a w ⟨h1,h2,h3⟩
 unfold Oper.wp execOp
 simp only[ho,resolve,invoke,builtin,Sem.run_bind,Sem.run_pure,Result.andThen_ok,List.map_toArray,List.map_cons,List.map_nil,hr]
 exact hK _ _ hE hR
theorem certs_but (h:CertsF P Q F ops a0 0 (ops.toList.take m)):∀ k o,k<m→ops[k]? = some o→CertH P Q F ops a0 k o:=fun k o hk ho=>by
 have:=certs_go (ops.toList.take m) 0 h k o (by rw[List.getElem?_take,if_pos hk,Array.getElem?_toList];exact ho)
 rwa[Nat.zero_add] at this
theorem InvF.act {a:Act} (R:RegF P Q F ops a0 m) (h:InvF F ops a0 L a w) (hm:m≤ops.size) (hall:∀ i,on L i=true↔i<m) {V:Nat→Value} (hV1:∀ i d,on L i=true→dstOf ops i=some d→a.tmps[d]? = some (V i)):a=putV V (ops.toList.take m) 0 a0:=by
 refine Act.ext' ?_ (by rw[putV_defers];exact h.def')
 apply Array.ext_getElem?
 intro t
 by_cases ht:∃ (i:Nat) (o:Oper),i<m∧ops[i]? = some o∧o.dst=some t
 ·obtain ⟨i,o,him,ho,hd⟩:=ht
  rw[hV1 i t ((hall i).2 him) (by rw[dstOf_some ho];exact hd)]
  rw[putV_same V (ops.toList.take m) 0 a0 i o t (by rw[List.getElem?_take,if_pos him,Array.getElem?_toList];exact ho) hd (fun j' o' hj' hd'=>((R.of ho).2 t hd).2 j' (by
   rw[List.getElem?_take] at hj'
   split at hj'
   ·rw[Array.getElem?_toList] at hj';rw[dstOf_some hj'];exact hd'
   ·cases hj')) ((R.of ho).2 t hd).1,Nat.zero_add]
 ·rw[h.rest t (fun i hi hd=>?_),putV_other V (ops.toList.take m) 0 a0 t (fun o hm' hd=>?_)]
  ·obtain ⟨i,hi⟩:=List.getElem?_of_mem hm'
   rw[List.getElem?_take] at hi
   split at hi
   ·rename_i him
    rw[Array.getElem?_toList] at hi
    exact ht ⟨i,o,him,hi,hd⟩
   ·cases hi
  ·unfold dstOf at hd
   cases hx:ops[i]? with
   | none=>rw[hx] at hd;cases hd
   | some x=>rw[hx] at hd;exact ht ⟨i,x,(hall i).1 hi,hx,hd⟩
theorem flow_last {id:Nat} (F:Flow) (n:Nat) (hn:ops.size=n+1) (hd:(List.range n).all (fun j=>depOn ops n j || (List.range n).any (fun i=>depOn ops n i && depOn ops i j))=true) (hm:P.follows .mixedOrders=true) (R:RegF P Q F ops a0 n) (hB:∀ b,F.B b w.drew)
 (hp:∀ (V:Nat→Value) (w':World),(∀ i,i<n→F.kill i=[]→F.R i (V i) w')→(∀ b,F.killB b=[]→F.B b w')→wpList P ops Q (ops.toList.drop n) (putV V (ops.toList.take n) 0 a0) w'):(Code.region id ops true).wp P Q a0 w:=by
 have hon':ops[n]? = some (ops[n]'(by omega)):=Array.getElem?_eq_getElem _
 have key:∀ (fuel:Nat) (L:Array Bool) (a:Act) (w:World),unl L=fuel→on L n=false→InvF F ops a0 L a w→wpAny P .any ops Q fuel L a w:=by
  intro fuel
  induction fuel with
  | zero =>
   intro L a w hu hoff hI
   have:=unl_zero hu n (by rw[hI.size];omega)
   rw[hoff] at this;cases this
  | succ fuel ih =>
   intro L a w hu hoff hI
   refine ⟨fun hr=>?_,fun i hi=>?_⟩
   ·have:=hI.full R hr n (by omega)
    rw[hoff] at this;cases this
   ·obtain ⟨h1,o,ho,hdep⟩:=mem_ready.1 hi
    have his:i<ops.size:=(Array.getElem?_eq_some_iff.1 ho).1
    have hoi:on L i=false:=by
     unfold on
     rw[Array.getD_eq_getD_getElem?] at h1 ⊢
     cases hh:L[i]? with
     | none=>rfl
     | some b=>rw[hh] at h1;exact h1
    by_cases hin:i=n
    ·subst hin
     have hall:∀ j,on L j=true↔j<i:=fun j=>by
      constructor
      ·intro hj
       have h2:j<ops.size:=by rw[← hI.size];exact on_lt hj
       rcases Nat.lt_or_ge j i with h|h
       ·exact h
       ·obtain rfl:j=i:=by omega
        rw[hoff] at hj;cases hj
      ·intro hj
       have hdir:∀ j,depOn ops i j=true→on L j=true:=fun j h2=>by
        unfold depOn at h2
        rw[ho] at h2
        obtain ⟨e,he,hb⟩:=Array.any_eq_true'.1 h2
        simp only[Bool.and_eq_true,beq_iff_eq] at hb
        have:=hdep e he hb.1
        rw[hb.2] at this
        exact this
       have h2:=List.all_eq_true.1 hd j (List.mem_range.2 hj)
       rw[Bool.or_eq_true] at h2
       rcases h2 with h2|h2
       ·exact hdir j h2
       ·obtain ⟨x,hx,h3⟩:=List.any_eq_true.1 h2
        rw[Bool.and_eq_true] at h3
        have hxo:=hdir x h3.1
        have hxs:x<ops.size:=by have:=List.mem_range.1 hx;omega
        have hox:ops[x]? = some ops[x]:=Array.getElem?_eq_getElem hxs
        have h4:=h3.2
        unfold depOn at h4
        rw[hox] at h4
        exact dep_on (ho:=hox) hI h4 hxo
     obtain ⟨V,hV1,hV2⟩:=hI.all
     have ha:=hI.act R (by omega) hall hV1
     have hkl:∀ l:List Nat,l=[]→∀ x∈l,on L x=false:=fun l hl x hx=>by rw[hl] at hx;cases hx
     have hfin:=hp V w (fun j hj hk=>hV2 j ((hall j).2 hj) (hkl _ hk)) (fun b hb=>hI.base b (hkl _ hb))
     have hdrop:ops.toList.drop i=[o]:=by
      have hlen:ops.toList.length=i+1:=by rw[Array.length_toList];exact hn
      rw[List.drop_eq_getElem_cons (by omega),List.drop_of_length_le (by omega)]
      have:ops.toList[i]? = some o:=by rw[Array.getElem?_toList];exact ho
      rw[List.getElem?_eq_getElem (by omega)] at this
      rw[Option.some.inj this]
     rw[hdrop,← ha] at hfin
     have hop:wpOp P ops Q i (fun a' w'=>Q .normal a' w') a w:=by
      unfold wpOp
      rw[ho]
      exact hfin
     refine wpOp_mono (fun a' w' hq=>?_) hop
     have hon2:∀ j,j<ops.size→on (L.setIfInBounds i true) j=true:=fun j hj=>by
      rw[on_set (by rw[hI.size];omega)]
      by_cases h:j<i
      ·rw[(hall j).2 h,Bool.true_or]
      ·rw[show j=i by omega];simp
     have hr:Region.ready .any ops (L.setIfInBounds i true)=[]:=by
      apply List.eq_nil_iff_forall_not_mem.2
      intro j hj
      obtain ⟨h1,o',ho',-⟩:=mem_ready.1 hj
      have h2:=hon2 j (Array.getElem?_eq_some_iff.1 ho').1
      unfold on at h2
      rw[Array.getD_eq_getD_getElem?] at h1 h2
      cases hh:(L.setIfInBounds i true)[j]? with
      | none=>rw[hh] at h1;cases h1
      | some b=>rw[hh] at h1 h2;rw[show b=false from h1] at h2;cases h2
     cases fuel with
     | zero=>exact ⟨hr,hq⟩
     | succ f=>exact ⟨fun _=>hq,fun j hj=>by rw[hr] at hj;cases hj⟩
    ·refine wpOp_mono (fun a' w' hI'=>ih _ a' w' (by have:=unl_set h1;omega) ?_ hI') (stepF R (by omega) (fun j hj=>?_) ho hoi hdep hI)
     ·rw[on_set (by rw[hI.size];exact his),hoff]
      simpa using hin
     ·have h2:j<ops.size:=by rw[← hI.size];exact on_lt hj
      rcases Nat.lt_or_ge j n with h|h
      ·exact h
      ·obtain rfl:j=n:=by omega
       rw[hoff] at hj;cases hj
 have hoff:∀ i,on (Array.replicate ops.size false) i=false:=fun i=>by
  unfold on
  rw[Array.getD_eq_getD_getElem?,Array.getElem?_replicate]
  by_cases h:i<ops.size
  ·rw[if_pos h];rfl
  ·rw[if_neg h];rfl
 refine wp_region_any hm (key _ _ a0 _ ?_ (hoff n) ⟨Array.size_replicate,(fun i o _ h=>by rw[hoff] at h;cases h),rfl,rfl,fun _ _=>rfl,⟨fun _=>undef,fun i d h=>(by rw[hoff] at h;cases h),fun i h=>(by rw[hoff] at h;cases h)⟩,fun b _=>hB b⟩)
 unfold unl
 rw[Array.toList_replicate,List.countP_replicate]
 simp
end RG
namespace RG
open Go Go.RowKit
variable {P:Program} {ops:Array Oper} {Q:Exit→Act→World→Prop} {w:World} {a0:Act}
def AllE (a:Act):List (Tmp × Value)→Prop
 | []=>True
 | x :: r=>a.eval (.tmp x.1)=x.2∧AllE a r
def evl (ps:List (Tmp × Value)) (t:Tmp):Value:=match ps.find? (fun x=>x.1 == t) with|some x=>x.2|none=>undef
theorem AllE.mem {a:Act}:∀ {ps:List (Tmp × Value)},AllE a ps→∀ x∈ps,a.eval (.tmp x.1)=x.2
 | [],_,x,hx=>by cases hx
 | y :: r,h,x,hx=>by
  rcases List.mem_cons.1 hx with rfl|hx
  ·exact h.1
  ·exact AllE.mem h.2 x hx
theorem AllE.ev {a:Act} {ps:List (Tmp × Value)} (h:AllE a ps):∀ t∈ps.map (·.1),a.eval (.tmp t)=evl ps t:=fun t ht=>by
 obtain ⟨x,hx,rfl⟩:=List.mem_map.1 ht
 unfold evl
 cases hf:ps.find? (fun y=>y.1 == x.1) with
 | none =>
  have:=List.find?_eq_none.1 hf x hx
  simp at this
 | some y =>
  have h1:=List.mem_of_find?_eq_some hf
  have h2:y.1=x.1:=by simpa using List.find?_some hf
  have:=h.mem y h1
  rw[h2] at this
  exact this
structure Gw where
 R:Nat→Value→World→Prop
 B:World→Prop
 sR:∀ i v w w',Below w.heap.size w w'→R i v w→R i v w'
 sB:∀ w w',Below w.heap.size w w'→B w→B w'
def Gw.flow (G:Gw):Flow:=⟨G.R,fun _=>G.B,fun _ w w'=>Below w.heap.size w w',fun _=>[],fun _=>[]⟩
structure PreG (G:Gw) (ops:Array Oper) (a0:Act) (k:Nat) (o:Oper) (a:Act) (w:World):Prop where
 n:∀ j d,depB o j=true→dstOf ops j=some d→G.R j (a.eval (.tmp d)) w
 o:∀ t,freeF ops k t=true→a.eval (.tmp t)=a0.eval (.tmp t)
 b:G.B w
variable {G:Gw}
theorem pre_of {k:Nat} {o:Oper} {a:Act} (h:PreF G.flow ops a0 k o a w):PreG G ops a0 k o a w:=⟨fun j d hj hd=>h.n j d hj rfl hd,h.o,h.b 0 rfl⟩
theorem gw_val {k:Nat} {o:Oper} (h:∀ (a:Act) (w:World),PreG G ops a0 k o a w→∃ (ps:List (Tmp × Value)) (v:Value) (w':World),AllE a ps∧(seenT (ps.map (·.1)) o,(execOp (evo (evl ps)) o).run P w)=(true,.ok (.value v) w')∧Below w.heap.size w w'∧G.R k v w'):CertF P Q G.flow ops a0 k o:=
 cf_val fun a w hp=>by
  obtain ⟨ps,v,w',he,hs,hE⟩:=h a w (pre_of hp)
  simp only[Prod.mk.injEq] at hs
  refine ⟨v,w',?_,hE⟩
  rw[exec_ev (evl ps) (ps.map (·.1)) hs.1 he.ev]
  exact hs.2
theorem gw_call {k:Nat} {o:Oper} (h:∀ (a:Act) (w:World),PreG G ops a0 k o a w→∃ (ps:List (Tmp × Value)) (f:FuncId) (args:Array Value),AllE a ps∧(seenT (ps.map (·.1)) o,(execOp (evo (evl ps)) o).run P w)=(true,.ok (.enter f args) w)∧Calls P f args w (Ret fun e w'=>Below w.heap.size w w'∧G.R k e w')):CertF P Q G.flow ops a0 k o:=by
 intro a w K h1 h2 h3 hK
 obtain ⟨ps,f,args,he,hs,hc⟩:=h a w (pre_of ⟨h1,h2,h3⟩)
 simp only[Prod.mk.injEq] at hs
 unfold Oper.wp
 rw[exec_ev (evl ps) (ps.map (·.1)) hs.1 he.ev,hs.2,Oper.upon_enter]
 refine hc.mono ?_
 rintro e w' ⟨v,rfl,hE,hR⟩
 exact hK _ _ hE hR
theorem gw_load {k:Nat} {o:Oper} (T:TypeId) (t:Tmp) (ho:o.op=.load T (.tmp t)) (hu:(P.underlying T).map (·.isRow)=some true)
 (h:∀ (a:Act) (w:World),PreG G ops a0 k o a w→∃ g off cs,a.eval (.tmp t)=.pointer (some ⟨g,off,none⟩)∧w.rangeAt g off cs∧(P.info? T).map (·.size)=some cs.length∧G.R k (.agg cs.toArray) w):CertF P Q G.flow ops a0 k o:=
 cf_load T t ho hu fun a w hp=>by
  obtain ⟨g,off,cs,h1,h2,h3,h4⟩:=h a w (pre_of hp)
  exact ⟨g,off,cs,h1,h2,h3,Below.refl _ _,h4⟩
theorem gw_bin {k:Nat} {o:Oper} (op:BinOp) (T T':TypeId) (t1 t2:Tmp) (ho:o.op=.binOp op T (.tmp t1) (.tmp t2) T')
 (h:∀ (a:Act) (w:World),PreG G ops a0 k o a w→∃ v1 v2 v,a.eval (.tmp t1)=v1∧a.eval (.tmp t2)=v2∧(eqGuard op T (.tmp t1) (.tmp t2) v1 v2).run P w=.ok () w∧(binOp op T v1 v2).run P w=.ok v w∧G.R k v w):CertF P Q G.flow ops a0 k o:=
 cf_val fun a w hp=>by
  obtain ⟨v1,v2,v,h1,h2,hg,hb,hR⟩:=h a w (pre_of hp)
  refine ⟨v,w,?_,Below.refl _ _,hR⟩
  unfold execOp
  rw[ho]
  dsimp only
  rw[h1,h2,Sem.run_bind,Sem.run_bind,hg]
  dsimp only[Result.andThen]
  rw[hb]
  rfl
theorem Gw.reg {m:Nat} (hc:chkF ops a0.tmps.size=true) (h:CertsF P Q G.flow ops a0 0 (ops.toList.take m)):RegF P Q G.flow ops a0 m:=
 ⟨hc,certs_but h,fun i j _ _ _ _ _ v w w' hE hR=>G.sR j v w w' hE hR,fun i b _ _ w w' hE hB=>G.sB w w' hE hB⟩
theorem Gw.draws {id:Nat} (G:Gw) (hm:P.follows .mixedOrders=true) (hc:chkF ops a0.tmps.size=true) (h:CertsF P Q G.flow ops a0 0 (ops.toList.take ops.size)) (hB:G.B w.drew)
 (hp:∀ (V:Nat→Value) (w':World),(∀ i,i<ops.size→G.R i (V i) w')→G.B w'→Q .normal (putV V ops.toList 0 a0) w'):(Code.region id ops true).wp P Q a0 w:=
 flow_draws G.flow hm (Gw.reg hc h) (fun _=>hB) fun V w' h1 h2=>hp V w' (fun i hi=>h1 i hi rfl) (h2 0 rfl)
theorem Gw.last {id:Nat} (G:Gw) (n:Nat) (hn:((ops.size == n+1) && (List.range n).all (fun j=>depOn ops n j || (List.range n).any (fun i=>depOn ops n i && depOn ops i j)))=true) (hm:P.follows .mixedOrders=true) (hc:chkF ops a0.tmps.size=true) (h:CertsF P Q G.flow ops a0 0 (ops.toList.take n)) (hB:G.B w.drew)
 (hp:∀ (V:Nat→Value) (w':World),(∀ i,i<n→G.R i (V i) w')→G.B w'→wpList P ops Q (ops.toList.drop n) (putV V (ops.toList.take n) 0 a0) w'):(Code.region id ops true).wp P Q a0 w:=by
 rw[Bool.and_eq_true,beq_iff_eq] at hn
 exact flow_last G.flow n hn.1 hn.2 hm (Gw.reg hc h) (fun _=>hB) fun V w' h1 h2=>hp V w' (fun i hi=>h1 i hi rfl) (h2 0 rfl)
end RG
section
open Go.RowKit Go.Sort Go.Deep
variable {P:Nat} [NeZero P] {N:Nat}
theorem setCell_row {w:World} {g o:Nat} {v:Value} {cur:Array Value} {e:TypeId} {z:Nat × Nat} (h:w.heap[g]? = some (.cells cur e z)):∃ cur2:Array Value,(w.setCell ⟨g,o,none⟩ v).heap[g]? = some (.cells cur2 e z)∧cur2.size=cur.size:=by
 have hlt:g<w.heap.size:=(Array.getElem?_eq_some_iff.1 h).1
 refine ⟨cur.setIfInBounds o v,?_,Array.size_setIfInBounds ..⟩
 have h2:w.heap[g]=.cells cur e z:=by rw[Array.getElem?_eq_getElem hlt] at h;exact Option.some.inj h
 simp[World.setCell,Array.getElem_modify,hlt,h2]
theorem setCells_row {g:Nat} {e:TypeId} {z:Nat × Nat}:∀ (vs:List Value) (o:Nat) (w:World) (cur:Array Value),w.heap[g]? = some (.cells cur e z)→∃ cur2:Array Value,(w.setCells g o vs).heap[g]? = some (.cells cur2 e z)∧cur2.size=cur.size
 | [],_,_,cur,h=>⟨cur,h,rfl⟩
 | v :: r,o,w,cur,h=>by
  obtain ⟨c1,h1,h2⟩:=setCell_row (o:=o) (v:=v) h
  obtain ⟨c2,h3,h4⟩:=setCells_row r (o+1) _ c1 h1
  exact ⟨c2,h3,h4.trans h2⟩
theorem owns_set {W:World} {base n s g o cap:Nat} {e:TypeId} {xs vs:List Value} (h:W.ownsRow base e s (.slice (some ⟨g,0,none⟩) n cap) n xs) (hl:o+vs.length≤n*s):(W.setCells g o vs).ownsRow base e s (.slice (some ⟨g,0,none⟩) n cap) n (RG.rep xs o vs):=by
 have hx:o+vs.length≤xs.length:=by rw[h.1];exact hl
 refine ⟨by rw[RG.rep_length hx];exact h.1,?_⟩
 rcases h.2 with ⟨h1,-⟩|⟨g',cap',cur,h1,h2,h3,h4,h5,h6,h7⟩
 ·cases h1
 ·injection h1 with e1 e2 e3
  injection e1 with e1
  injection e1 with e1
  subst e1
  subst e3
  obtain ⟨c2,k1,k2⟩:=setCells_row vs o W cur h3
  refine Or.inr ⟨g,cap,c2,rfl,h2,k1,h4,h5,by rw[k2];exact h6,?_⟩
  have hcs:n*s≤cur.size:=by rw[h6];exact Nat.mul_le_mul_right s h4
  apply List.ext_getElem?
  intro i
  rw[RG.rep_at hx,List.getElem?_take,← h7]
  have c1:∀ i,W.cell? ⟨g,i,none⟩=cur[i]?:=fun i=>cell_of_row W g i cur e (0,0) h3
  have c3:(W.setCells g o vs).cell? ⟨g,i,none⟩=c2[i]?:=cell_of_row _ g i c2 e (0,0) k1
  by_cases hi:i<n*s
  ·rw[if_pos hi]
   by_cases hin:o≤i∧i<o+vs.length
   ·rw[if_pos hin]
    have hj:i-o<vs.length:=by omega
    have:=World.cell?_setCells_in g vs o W (fun j hj=>by rw[c1 (o+j),Array.getElem?_eq_getElem (by omega)];rfl) (i-o) hj
    rw[show o+(i-o)=i by omega,c3] at this
    rw[Array.getElem?_toList,this,List.getElem?_eq_getElem hj]
   ·rw[if_neg hin,List.getElem?_take,if_pos hi,Array.getElem?_toList,Array.getElem?_toList,← c3,← c1 i]
    exact World.cell?_setCells_out g vs o W ⟨g,i,none⟩ (fun _ _=>by show i<o∨o+vs.length≤i;omega)
  ·rw[if_neg hi,if_neg (by omega),List.getElem?_take,if_neg hi]
theorem rep_app {xs ys vs:List Value} {o:Nat}:RG.rep (xs++ys) (xs.length+o) vs=xs++RG.rep ys o vs:=by
 unfold RG.rep
 rw[List.take_length_add_append,Nat.add_assoc,List.drop_length_add_append,List.append_assoc]
theorem row_len {n:Nat} {p:Bs} (hp:p.size=33):(wn n++bl33 p).length=37:=by rw[List.length_append,bl33_length hp];rfl
theorem cellsT_cons (x:Nat × Bs) (r:List (Nat × Bs)):cellsT (x :: r)=(wn x.1++bl33 x.2)++cellsT r:=by unfold cellsT;rw[List.flatMap_cons]
theorem cellsT_set (s:Nat):∀ (l:List (Nat × Bs)) (j:Nat) (hj:j<l.length),(∀ x∈l.map (·.2),x.size=33)→cellsT (l.set j (s,(l[j]).2))=RG.rep (cellsT l) (37*j) (wn s)
 | [],j,hj,_=>by cases hj
 | x :: r,0,_,_=>by
  show cellsT ((s,x.2) :: r)=_
  rw[cellsT_cons,cellsT_cons]
  rfl
 | x :: r,j+1,hj,hs=>by
  have hx:=row_len (n:=x.1) (hs x.2 (by simp))
  show cellsT (x :: r.set j (s,(r[j]'(by simpa using hj)).2))=_
  rw[cellsT_cons,cellsT_cons,cellsT_set s r j (by simpa using hj) (fun y hy=>hs y (List.mem_cons_of_mem _ hy)),show 37*(j+1)=(wn x.1++bl33 x.2).length+37*j by rw[hx];omega,rep_app]
theorem at?_some {p:Bs}:∀ {l:List (Nat × Bs)} {i j:Nat},at? p (l.map (·.2)) i=some j→i≤j∧∃ h:j-i<l.length,(l[j-i]).2=p∧∀ n,addT N l n p=l.set (j-i) (sPl N (l[j-i]).1 n,p)
 | [],i,j,h=>by cases h
 | (s,q) :: r,i,j,h=>by
  rw[List.map_cons] at h
  unfold at? at h
  by_cases hq:p=q
  ·rw[if_pos hq] at h
   obtain rfl:=Option.some.inj h
   refine ⟨Nat.le_refl _,by simp,?_,fun n=>?_⟩
   ·simp[hq]
   ·unfold addT
    rw[if_pos hq]
    simp[hq]
  ·rw[if_neg hq] at h
   obtain ⟨h1,h2,h3,h4⟩:=at?_some h
   have e:j-i=(j-(i+1))+1:=by omega
   refine ⟨by omega,by simp;omega,?_,fun n=>?_⟩
   ·simp only[e,List.getElem_cons_succ];exact h3
   ·unfold addT
    rw[if_neg hq,h4 n]
    simp only[e,List.getElem_cons_succ,List.set_cons_succ]
theorem addT_pts {n:Nat} {p:Bs} {l:List (Nat × Bs)} {j:Nat} (h:at? p (l.map (·.2)) 0=some j):(addT N l n p).map (·.2)=l.map (·.2)∧(addT N l n p).length=l.length:=by
 obtain ⟨-,h2,h3,h4⟩:=at?_some (N:=N) h
 rw[h4 n]
 refine ⟨?_,List.length_set ..⟩
 rw[List.map_set]
 apply List.ext_getElem?
 intro i
 rw[List.getElem?_set]
 by_cases hi:j-0=i
 ·subst hi
  rw[if_pos rfl,if_pos (by rw[List.length_map];exact h2),List.getElem?_map,List.getElem?_eq_getElem h2]
  exact congrArg some h3.symm
 ·rw[if_neg hi]
theorem Mx.again {w W:World} {m g cap:Nat} {l:List (Nat × Bs)} {p:Bs} {j:Nat} (h:Mx w W m l (.slice (some ⟨g,0,none⟩) l.length cap)) (hs:∀ x∈l.map (·.2),x.size=33) (hj:at? p (l.map (·.2)) 0=some j) (hl:j<l.length) (n:Nat) :
 Mx w (W.setCells g (37*j) (wn (sPl N (l[j]).1 n))) m (addT N l n p) (.slice (some ⟨g,0,none⟩) l.length cap):=by
 have hne:=h.own_ne (g:=g) rfl
 obtain ⟨e1,e2⟩:=addT_pts (N:=N) (n:=n) hj
 refine ⟨RG.below_setCells hne.2.1 _ _ _ h.bl,?_,h.lm,?_⟩
 ·rw[RG.setCells_other _ _ _ _ _ (Ne.symm hne.1),e1,e2]
  exact h.mp
 ·obtain ⟨-,h2,h3,h4⟩:=at?_some (N:=N) hj
  have e3:addT N l n p=l.set j (sPl N (l[j]).1 n,(l[j]).2):=by rw[h4 n];simp only[Nat.sub_zero] at h3 ⊢;rw[h3]
  rw[e2,e3,cellsT_set _ l j hl hs]
  exact owns_set h.ow (by show 37*j+4≤_;omega)
theorem mrg_lt (O:Ord N) (ns:Nat→Nat) (az:Nat→Bs) {k:Nat} (hn:∀ j,j<k→ns j<N):∀ i,i≤k→∀ x∈mrg N ns az i,x.1<N
 | 0,_=>fun x hx=>by cases hx
 | i+1,hi=>by
  have ih:=mrg_lt O ns az hn i (by omega)
  have h:∀ (l:List (Nat × Bs)) n p,n<N→(∀ x∈l,x.1<N)→∀ x∈addT N l n p,x.1<N:=by
   intro l n p hp
   induction l with
   | nil=>intro _ x hx;simp[addT] at hx;rw[hx];exact hp
   | cons y r ihr =>
    intro hl x hx
    unfold addT at hx
    split at hx
    ·rcases List.mem_cons.1 hx with rfl|hx
     ·exact Nat.mod_lt _ O.pos
     ·exact hl x (List.mem_cons_of_mem _ hx)
    ·rcases List.mem_cons.1 hx with rfl|hx
     ·exact hl _ List.mem_cons_self
     ·exact ihr (fun z hz=>hl z (List.mem_cons_of_mem _ hz)) x hx
  exact h _ _ _ (hn i (by omega)) ih
end
section
open Go.RowKit Go.Sort Go.Deep
variable {N:Nat}
section
variable (w:World) (m g4 cap k6 j s n z:Nat) (l:List (Nat × Bs)) (p:Bs)
def Ra:Nat→Value→World→Prop
 | 0,v,_=>v=.slice (some ⟨g4,0,none⟩) l.length cap
 | 1,v,_=>v=.int .i64 j
 | 2,v,_=>v=.slice (some ⟨g4,0,none⟩) l.length cap
 | 3,v,_=>v=.int .i64 j
 | 4,v,_=>v=.pointer (some ⟨g4,0+37*j,none⟩)
 | 5,v,_=>v=.pointer (some ⟨g4,0+37*j,none⟩)
 | 6,v,_=>v=nv s
 | 7,v,_=>v=.pointer (some ⟨k6,0,none⟩)
 | 8,v,_=>v=nv n
 | 9,v,_=>v=nv z
 | 10,v,_=>v=.pointer (some ⟨g4,0+37*j,none⟩)
 | 11,v,_=>v=.pointer (some ⟨g4,0+37*j,none⟩)
 | _,_,_=>True
theorem Ra_any {i:Nat} {v:Value} {W W':World} (h:Ra g4 cap k6 j s n z l i v W):Ra g4 cap k6 j s n z l i v W':=by
 match i,h with
 | 0,h=>exact h
 | 1,h=>exact h
 | 2,h=>exact h
 | 3,h=>exact h
 | 4,h=>exact h
 | 5,h=>exact h
 | 6,h=>exact h
 | 7,h=>exact h
 | 8,h=>exact h
 | 9,h=>exact h
 | 10,h=>exact h
 | 11,h=>exact h
 | _+12,_=>trivial
def Ga:RG.Gw:=⟨Ra g4 cap k6 j s n z l,fun W=>Mx w W m l (.slice (some ⟨g4,0,none⟩) l.length cap)∧Row W k6 (wn n++bl33 p),fun _ _ _ _ _ h=>Ra_any g4 cap k6 j s n z l h,fun _ _ hb h=>⟨h.1.kept hb,h.2.below hb⟩⟩
end
theorem range_front' {W:World} {k o:Nat} {xs ys:List Value} (h:W.rangeAt k o (xs++ys)):W.rangeAt k o xs:=fun j v hj=>h j v (by rw[List.getElem?_append_left (List.getElem?_eq_some_iff.1 hj).1];exact hj)
theorem Mx.drew {w W:World} {m:Nat} {l:List (Nat × Bs)} {v:Value} (h:Mx w W m l v):Mx w W.drew m l v:=⟨h.bl.drew,h.mp,h.lm,h.ow⟩
theorem merged_a (O:Ord N) (R:Value→World→Prop) (g k c:Nat) (hk:k≤1000) (ns:Nat→Nat) (az:Nat→Bs) (ha:∀ j,j<k→(az j).size=33) (hn:∀ j,j<k→ns j<N) (w:World) (hg:g<w.heap.size) (hr:∀ j,j<k→w.rangeAt g (37*j) (wn (ns j)++bl33 (az j)))
 (hdel:∀ W v,Mx w W w.heap.size (mrg N ns az k) v→Calls Tryz.prog 104 #[v,.func (.func 105) #[] #[]] W (Ret R)) :
 Calls Tryz.prog 49 #[.slice (some ⟨g,0,none⟩) k c] w (Ret R):=by
 have HDEL:=Hid.mk' hdel
 clear hdel
 have hmm:(Instr.makeMap 189 none).run Tryz.prog w=.ok (.map (some w.heap.size)) (w.alloc (.map #[] 0)):=by kernel_rfl
 obtain ⟨w1,hw1⟩:∃ w1,Hid (w.alloc (.map #[] 0)=w1):=⟨_,rfl⟩
 rw[hw1.out] at hmm
 have M1:Hid (Mx w w1 w.heap.size (mrg N ns az 0) (.slice none 0 0)):=by
  rw[← hw1.out]
  exact ⟨below1 w _,by show (w.heap.push (.map #[] 0))[w.heap.size]? = _;rw[Array.getElem?_push_size];rfl,Nat.le_refl _,rfl,Or.inl ⟨rfl,rfl⟩⟩
 have HH:Hid (Ord N∧(∀ j,j<k→(az j).size=33)∧(∀ i,i<k→ns i<N)∧g<w.heap.size∧∀ j,j<k→w.rangeAt g (37*j) (wn (ns j)++bl33 (az j))):=⟨O,ha,hn,hg,hr⟩
 obtain ⟨d,hd1,hd2⟩:=Option.map_eq_some_iff.1 uCP
 obtain ⟨d',hd3,hd4⟩:=Option.map_eq_some_iff.1 uT
 have HD:Hid ((Tryz.prog.underlying 61=some d∧d.isRow=true)∧Tryz.prog.underlying 121=some d'∧d'.isRow=true):=⟨⟨hd1,hd2⟩,hd3,hd4⟩
 clear hd1 hd2 hd3 hd4 hw1 ha hn hg hr O
 go_enter Tryz.func49,Tryz.ntmps49
 go_wp2
 clear hmm
 go_loopg [4,12] k (fun q s4 s12 W=>∃ i:Nat,i+q=k∧s12=.int .i64 i∧Hid (Mx w W w.heap.size (mrg N ns az i) s4))
 case atStart=>exact ⟨0,by omega,rfl,M1⟩
 case round =>
  clear M1
  obtain ⟨i,hik,rfl,KM⟩:=hrel
  by_cases hi:i<k
  ·have hi':(i:Int)<(k:Int):=by omega
   obtain ⟨n,hne⟩:∃ n,Hid (ns i=n):=⟨_,rfl⟩
   obtain ⟨p,hpe⟩:∃ p,Hid (az i=p):=⟨_,rfl⟩
   obtain ⟨l,hl⟩:∃ l,Hid (mrg N ns az i=l):=⟨_,rfl⟩
   rw[hl.out] at KM
   have hps:Hid (p.size=33):=by have:=HH.out.2.1 i hi;rw[hpe.out] at this;exact this
   have hll:Hid (l.length≤i):=by have:=mrg_len (N:=N) ns az i;rw[hl.out] at this;exact this
   obtain ⟨q,cap,rfl⟩:=owns_form KM.out.ow
   obtain ⟨W1,hW1⟩:∃ W1,Hid (wr.alloc (.cells zT.toArray 121)=W1):=⟨_,rfl⟩
   obtain ⟨W2,hW2⟩:∃ W2,Hid (W1.setCells wr.heap.size 0 (wn n++bl33 p)=W2):=⟨_,rfl⟩
   have hlen:(wn n++bl33 p).length=37:=by rw[List.length_append,bl33_length hps.out];rfl
   have F1:Hid (Row W1 wr.heap.size zT∧Below wr.heap.size wr W1∧W1.heap.size=wr.heap.size+1):=by rw[← hW1.out];exact ⟨row_new wr _ _,below1 wr _,World.size_alloc _ _⟩
   have F2:Hid (Row W2 wr.heap.size (wn n++bl33 p)∧Below wr.heap.size wr W2∧W2.heap.size=wr.heap.size+1):=by rw[← hW2.out];exact ⟨F1.out.1.put (by rw[hlen];rfl),RG.below_setCells (Nat.le_refl _) _ _ _ F1.out.2.1,by rw[RG.setCells_size];exact F1.out.2.2⟩
   have K2:Hid (Mx w W2 w.heap.size l (.slice q l.length cap)):=KM.out.kept F2.out.2.1
   have hsz:∀ x∈l.map (·.2),x.size=33:=by have:=mrg_size (N:=N) ns az HH.out.2.1 i (by omega);rw[hl.out] at this;exact this
   cases hat:at? p (l.map (·.2)) 0 with
   | none =>
    have hnone:Hid (at? p (l.map (·.2)) 0=none):=hat
    have B1:=Hid.mk' (look_run hps.out (l.map (·.2)) hsz w.heap.size l.length W2 K2.out.mp)
    rw[hnone.out] at B1
    have B2:Hid ((Instr.mapUpdate 189 (.map (some w.heap.size)) (.agg (bl33 p).toArray) (.int .i64 (l.length:Int))).run Tryz.prog W2=.ok () (W2.putObj w.heap.size (.map (ents (l.map (·.2)++[p]) 0).toArray (l.length+1)))):=by
     have h:=upd_run hps.out (l.map (·.2)) hsz w.heap.size W2 (by rw[List.length_map];exact K2.out.mp) hnone.out
     rw[List.length_map] at h
     exact h
    obtain ⟨v',W5,happ,K5,lt5,-⟩:=K2.out.push hps.out (by have:=hll.out;omega) n
    obtain ⟨W3,hW3⟩:∃ W3,Hid (W2.putObj w.heap.size (.map (ents (l.map (·.2)++[p]) 0).toArray (l.length+1))=W3):=⟨_,rfl⟩
    have F3:Hid (Row W3 wr.heap.size (wn n++bl33 p)∧W3.heap.size=wr.heap.size+1):=by rw[← hW3.out];exact ⟨F2.out.1.putObj K2.out.mp rfl _,by simp[World.putObj];exact F2.out.2.2⟩
    have B3:=Hid.mk' (bslT hps.out n W3)
    obtain ⟨W4,hW4⟩:∃ W4,Hid (W3.alloc (.cells (wn n++bl33 p).toArray 121)=W4):=⟨_,rfl⟩
    rw[hW3.out] at B2 happ
    rw[hW4.out] at B3 happ
    rw[F3.out.2] at B3
    rw[F2.out.2.2] at happ
    have K5':Hid (Mx w W5 w.heap.size (mrg N ns az (i+1)) v'):=by
     have e:mrg N ns az (i+1)=l++[(n,p)]:=by
      show addT N (mrg N ns az i) (ns i) (az i)=_
      rw[hl.out,hne.out,hpe.out]
      exact addT_new hnone.out
     rw[e];exact K5
    have B0:Hid (wr.rangeAt g (37*i) (wn n++bl33 p)):=by
     have h:=RG.range_below (HH.out.2.2.2.2 i hi) KM.out.bl HH.out.2.2.2.1
     rw[hne.out,hpe.out] at h
     exact h
    have HLT:Hid ((Tryz.prog.info? 121).map (·.size)=some (wn n++bl33 p).length):=by show _=_;rw[hlen];exact iT
    have HLS:Hid ((Tryz.prog.info? 121).map (·.size)=some (wn n++bl33 p).toArray.size∧W1.there wr.heap.size 0 (wn n++bl33 p).toArray.size):=by
     have e:(wn n++bl33 p).toArray.size=37:=by rw[List.size_toArray];exact hlen
     rw[e];exact ⟨iT,F1.out.1.2.2⟩
    have HLP:Hid ((Tryz.prog.info? 61).map (·.size)=some (bl33 p).length):=by show _=_;rw[bl33_length hps.out];exact infoCP
    have HB:Hid (W2.rangeAt wr.heap.size 4 (bl33 p)):=range_back (xs:=wn n) F2.out.1.2.1
    have HAL:Hid ((wn n++bl33 p).toArray.all (·.oneCell')=true):=by
     show _=_
     rw[Array.all_eq_true']
     intro u hu
     exact cells_one n p u (List.mem_toArray.1 hu)
    have hix:=atT g 0 k c i hi
    have HAP:=Hid.mk' happ
    clear happ
    obtain ⟨vt,hvt⟩:∃ v,Hid (Value.agg (wn n++bl33 p).toArray=v):=⟨_,rfl⟩
    obtain ⟨vp,hvp⟩:∃ v,Hid (Value.agg (bl33 p).toArray=v):=⟨_,rfl⟩
    rw[hvp.out] at B1 B2
    rw[hvt.out] at B3
    clear hlen hsz K5 lt5 hW4 hW3 K2 KM
    go_wp2_with (first|(refine wpList_load_mid rfl 121 _ rfl g (37*i) ?_ (wn n++bl33 p) d' ?_ ?_ ?_ ?_ ?_;rfl;exact B0.out;exact HD.out.2.1;exact HD.out.2.2;exact HLT.out;rw[hvt.out])|(refine wpList_op (v:=.pointer (some ⟨wr.heap.size,0,none⟩)) (w':=W1) rfl (.alloc 121) rfl ?_ ?_;(rw[← hW1.out];kernel_rfl))|(refine wpList_store_mid rfl 121 _ _ rfl wr.heap.size 0 (wn n++bl33 p).toArray ?_ ?_ ?_ ?_ ?_ ?_;rfl;exact hvt.out.symm;exact HLS.out.2;exact HLS.out.1;exact HAL.out;rw[show (wn n++bl33 p).toArray.toList=wn n++bl33 p from rfl,hW2.out])|(refine wpList_load_mid rfl 61 _ rfl wr.heap.size 4 ?_ (bl33 p) d ?_ ?_ ?_ ?_ ?_;rfl;exact HB.out;exact HD.out.1.1;exact HD.out.1.2;exact HLP.out;rw[hvp.out])|(refine wpList_lk (x:=.map (some w.heap.size)) (y:=vp) (w':=W2) rfl 189 _ _ true rfl ?_ ?_ B1.out ?_;rfl;rfl)|(refine wpList_mu (x:=.map (some w.heap.size)) (y:=vp) (z:=.int .i64 (l.length:Int)) (w':=W3) rfl 189 _ _ _ rfl ?_ ?_ ?_ B2.out ?_;rfl;rfl;rfl)|(refine wpList_load_mid rfl 121 _ rfl wr.heap.size 0 ?_ (wn n++bl33 p) d' ?_ ?_ ?_ ?_ ?_;rfl;exact F3.out.1.2.1;exact HD.out.2.1;exact HD.out.2.2;exact HLT.out;rw[hvt.out])|(refine wpList_bsl (v:=.slice (some ⟨wr.heap.size+1,0,none⟩) 1 1) (w':=W4) rfl 56 1 _ rfl #[(0,vt)] ?_ B3.out ?_;kernel_rfl)|(refine wpList_app (x:=.slice q l.length cap) (y:=.slice (some ⟨wr.heap.size+1,0,none⟩) 1 1) (v:=v') (w':=W5) rfl _ _ 56 rfl ?_ ?_ ?_ ?_;rfl;rfl;exact HAP.out))
    go_roundg (gk-1)
    case measure=>omega
    case rel=>exact ⟨i+1,by omega,rfl,K5'⟩
   | some j =>
    obtain ⟨-,hjl,hjp,-⟩:=at?_some (N:=N) hat
    rw[Nat.sub_zero] at hjl
    simp only[Nat.sub_zero] at hjp
    have B1:=Hid.mk' (look_run hps.out (l.map (·.2)) hsz w.heap.size l.length W2 K2.out.mp)
    rw[hat] at B1
    obtain ⟨g4,cap4,he4,-,hg4,hr4⟩:=owns_rows K2.out.ow hsz (by omega)
    injection he4 with q1 q2 q3
    subst q1
    obtain ⟨s,hse⟩:∃ s,Hid ((l[j]'hjl).1=s):=⟨(l[j]'hjl).1,(rfl:(l[j]'hjl).1=(l[j]'hjl).1)⟩
    have hsN:Hid (s<N):=by
     have:=mrg_lt HH.out.1 ns az HH.out.2.2.1 i (by omega)
     rw[hl.out] at this
     rw[← hse.out]
     exact this _ (List.getElem_mem hjl)
    have hnN:Hid (n<N):=by rw[← hne.out];exact HH.out.2.2.1 i hi
    have B0:Hid (wr.rangeAt g (37*i) (wn n++bl33 p)):=by
     have h:=RG.range_below (HH.out.2.2.2.2 i hi) KM.out.bl HH.out.2.2.2.1
     rw[hne.out,hpe.out] at h
     exact h
    have HLT:Hid ((Tryz.prog.info? 121).map (·.size)=some (wn n++bl33 p).length):=by show _=_;rw[hlen];exact iT
    have HLS:Hid ((Tryz.prog.info? 121).map (·.size)=some (wn n++bl33 p).toArray.size∧W1.there wr.heap.size 0 (wn n++bl33 p).toArray.size):=by
     have e:(wn n++bl33 p).toArray.size=37:=by rw[List.size_toArray];exact hlen
     rw[e];exact ⟨iT,F1.out.1.2.2⟩
    have HLP:Hid ((Tryz.prog.info? 61).map (·.size)=some (bl33 p).length):=by show _=_;rw[bl33_length hps.out];exact infoCP
    have HB:Hid (W2.rangeAt wr.heap.size 4 (bl33 p)):=range_back (xs:=wn n) F2.out.1.2.1
    have HAL:Hid ((wn n++bl33 p).toArray.all (·.oneCell')=true):=by
     show _=_
     rw[Array.all_eq_true']
     intro u hu
     exact cells_one n p u (List.mem_toArray.1 hu)
    have hix:=atT g 0 k c i hi
    obtain ⟨vt,hvt⟩:∃ v,Hid (Value.agg (wn n++bl33 p).toArray=v):=⟨_,rfl⟩
    obtain ⟨vp,hvp⟩:∃ v,Hid (Value.agg (bl33 p).toArray=v):=⟨_,rfl⟩
    rw[hvp.out] at B1
    have HL:Hid (j<l.length):=hjl
    have HS:Hid (∀ h:j<l.length,(l[j]'h).1=s):=fun _=>hse.out
    have HJ:Hid (at? p (l.map (·.2)) 0=some j∧(∀ x∈l.map (·.2),x.size=33)):=⟨hat,hsz⟩
    have HK:Hid (Mx w W2 w.heap.size l (.slice (some ⟨g4,0,none⟩) l.length cap)∧Row W2 wr.heap.size (wn n++bl33 p)):=⟨K2.out,F2.out.1⟩
    have KN:Hid (mrg N ns az (i+1)=addT N l n p):=by
     show addT N (mrg N ns az i) (ns i) (az i)=_
     rw[hl.out,hne.out,hpe.out]
    clear hlen hsz K2 KM hjp q2 q3 hr4 hg4
    clear hat
    go_wp2_with (first|(refine wpList_load_mid rfl 121 _ rfl g (37*i) ?_ (wn n++bl33 p) d' ?_ ?_ ?_ ?_ ?_;rfl;exact B0.out;exact HD.out.2.1;exact HD.out.2.2;exact HLT.out;rw[hvt.out])|(refine wpList_op (v:=.pointer (some ⟨wr.heap.size,0,none⟩)) (w':=W1) rfl (.alloc 121) rfl ?_ ?_;(rw[← hW1.out];kernel_rfl))|(refine wpList_store_mid rfl 121 _ _ rfl wr.heap.size 0 (wn n++bl33 p).toArray ?_ ?_ ?_ ?_ ?_ ?_;rfl;exact hvt.out.symm;exact HLS.out.2;exact HLS.out.1;exact HAL.out;rw[show (wn n++bl33 p).toArray.toList=wn n++bl33 p from rfl,hW2.out])|(refine wpList_load_mid rfl 61 _ rfl wr.heap.size 4 ?_ (bl33 p) d ?_ ?_ ?_ ?_ ?_;rfl;exact HB.out;exact HD.out.1.1;exact HD.out.1.2;exact HLP.out;rw[hvp.out])|(refine wpList_lk (x:=.map (some w.heap.size)) (y:=vp) (w':=W2) rfl 189 _ _ true rfl ?_ ?_ B1.out ?_;rfl;rfl)|fail)
    refine (Ga w w.heap.size g4 cap wr.heap.size j s n (sPl N s n) l p).last 12 (by kernel_rfl) (by kernel_rfl) (by kernel_rfl) ⟨
     RG.gw_val fun a W hp=>⟨[(4,.slice (some ⟨g4,0,none⟩) l.length cap)],.slice (some ⟨g4,0,none⟩) l.length cap,W,⟨hp.o 4 (by kernel_rfl),trivial⟩,by kernel_rfl,Below.refl _ _,rfl⟩,
     RG.gw_val fun a W hp=>⟨[(7,.int .i64 j)],.int .i64 j,W,⟨hp.o 7 (by kernel_rfl),trivial⟩,by kernel_rfl,Below.refl _ _,rfl⟩,
     RG.gw_val fun a W hp=>⟨[(4,.slice (some ⟨g4,0,none⟩) l.length cap)],.slice (some ⟨g4,0,none⟩) l.length cap,W,⟨hp.o 4 (by kernel_rfl),trivial⟩,by kernel_rfl,Below.refl _ _,rfl⟩,
     RG.gw_val fun a W hp=>⟨[(7,.int .i64 j)],.int .i64 j,W,⟨hp.o 7 (by kernel_rfl),trivial⟩,by kernel_rfl,Below.refl _ _,rfl⟩,
     RG.gw_val fun a W hp=>⟨[(36,.slice (some ⟨g4,0,none⟩) l.length cap),(37,.int .i64 j)],.pointer (some ⟨g4,0+37*j,none⟩),W,⟨hp.n 2 36 (by kernel_rfl) (by kernel_rfl),hp.n 3 37 (by kernel_rfl) (by kernel_rfl),trivial⟩,by
      rw[Prod.mk.injEq]
      refine ⟨by kernel_rfl,?_⟩
      show ((Instr.indexAt 56 (.slice (some ⟨g4,0,none⟩) l.length cap) (.int .i64 j)) >>= fun v=>pure (Next.value v)).run Tryz.prog W=_
      rw[Sem.run_bind,atT g4 0 l.length cap j HL.out]
      rfl,Below.refl _ _,rfl⟩,
     RG.gw_val fun a W hp=>⟨[(38,.pointer (some ⟨g4,0+37*j,none⟩))],.pointer (some ⟨g4,0+37*j,none⟩),W,⟨hp.n 4 38 (by kernel_rfl) (by kernel_rfl),trivial⟩,by kernel_rfl,Below.refl _ _,rfl⟩,
     RG.gw_load 52 39 rfl Go.Proofs.YtnfpdihkjkimiaaGreat.u40 fun a W hp=>⟨g4,0+37*j,wn s,hp.n 5 39 (by kernel_rfl) (by kernel_rfl),by
      obtain ⟨g5,cap5,he5,-,-,hr5⟩:=owns_rows hp.b.1.ow HJ.out.2 (by have:=HL.out;omega)
      injection he5 with q1 q2 q3
      injection q1 with q1
      injection q1 with q1
      subst q1
      have:=hr5 j HL.out
      rw[(HS.out HL.out)] at this
      rw[Nat.zero_add]
      exact range_front' this,i40,rfl⟩,
     RG.gw_val fun a W hp=>⟨[(6,.pointer (some ⟨wr.heap.size,0,none⟩))],.pointer (some ⟨wr.heap.size,0,none⟩),W,⟨hp.o 6 (by kernel_rfl),trivial⟩,by kernel_rfl,Below.refl _ _,rfl⟩,
     RG.gw_load 52 41 rfl Go.Proofs.YtnfpdihkjkimiaaGreat.u40 fun a W hp=>⟨wr.heap.size,0,wn n,hp.n 7 41 (by kernel_rfl) (by kernel_rfl),range_front hp.b.2.2.1,i40,rfl⟩,
     RG.gw_call fun a W hp=>⟨[(40,nv s),(42,nv n)],88,#[nv s,nv n],⟨hp.n 6 40 (by kernel_rfl) (by kernel_rfl),hp.n 8 42 (by kernel_rfl) (by kernel_rfl),trivial⟩,by kernel_rfl,(sPlu_c HH.out.1 s n hsN.out hnN.out W).mono (by
      rintro e W' ⟨u,rfl,hb,rfl⟩
      exact ⟨_,rfl,hb,rfl⟩)⟩,
     RG.gw_val fun a W hp=>⟨[(34,.slice (some ⟨g4,0,none⟩) l.length cap),(35,.int .i64 j)],.pointer (some ⟨g4,0+37*j,none⟩),W,⟨hp.n 0 34 (by kernel_rfl) (by kernel_rfl),hp.n 1 35 (by kernel_rfl) (by kernel_rfl),trivial⟩,by
      rw[Prod.mk.injEq]
      refine ⟨by kernel_rfl,?_⟩
      show ((Instr.indexAt 56 (.slice (some ⟨g4,0,none⟩) l.length cap) (.int .i64 j)) >>= fun v=>pure (Next.value v)).run Tryz.prog W=_
      rw[Sem.run_bind,atT g4 0 l.length cap j HL.out]
      rfl,Below.refl _ _,rfl⟩,
     RG.gw_val fun a W hp=>⟨[(44,.pointer (some ⟨g4,0+37*j,none⟩))],.pointer (some ⟨g4,0+37*j,none⟩),W,⟨hp.n 10 44 (by kernel_rfl) (by kernel_rfl),trivial⟩,by kernel_rfl,Below.refl _ _,rfl⟩,trivial⟩ ⟨HK.out.1.drew,HK.out.2⟩ ?_
    intro V W3 hR3 hB3
    have hV9:V 9=nv (sPl N s n):=hR3 9 (by decide)
    have hV11:V 11=.pointer (some ⟨g4,0+37*j,none⟩):=hR3 11 (by decide)
    obtain ⟨W4,hW4⟩:∃ W4,Hid (W3.setCells g4 (37*j) (wn (sPl N s n))=W4):=⟨_,rfl⟩
    have K4:Hid (Mx w W4 w.heap.size (mrg N ns az (i+1)) (.slice (some ⟨g4,0,none⟩) l.length cap)):=by
     rw[← hW4.out,KN.out,← (HS.out HL.out)]
     exact hB3.1.again HJ.out.2 HJ.out.1 HL.out n
    have HTH:Hid (W3.there g4 (37*j) 4):=by
     intro t ht
     have hj:=HL.out
     rcases hB3.1.ow.2 with ⟨h,-⟩|⟨g2,cap2,cur,he,-,hc,hn,-,hs,-⟩
     ·cases h
     ·injection he with he1 he2 he3
      injection he1 with he1
      injection he1 with he1
      subst he1
      have hlt:37*j+t<cur.size:=by
       rw[hs]
       have:(j+1)*37≤cap2*37:=Nat.mul_le_mul_right 37 (by omega)
       omega
      refine ⟨?_,?_⟩
      ·simp[World.cell?,hc,hlt]
      ·simp[World.frozen?,hc]
    clear hR3 hB3
    dsimp only[RG.putV,Nat.reduceAdd,List.take,List.drop]
    simp only[Act.put,List.setIfInBounds_toArray,List.set_cons_succ,List.set_cons_zero]
    obtain ⟨vz,hvz⟩:∃ v,Hid (nv (sPl N s n)=v):=⟨_,rfl⟩
    rw[hV9,hV11,hvz.out,Nat.zero_add]
    clear hV9 hV11
    generalize V 0=s0
    generalize V 1=s1
    generalize V 2=s2
    generalize V 3=s3
    generalize V 4=s4
    generalize V 5=s5
    generalize V 6=s6
    generalize V 7=s7
    generalize V 8=s8
    generalize V 10=s10
    go_wp2_with (first|(refine wpList_store_mid rfl 52 _ _ rfl g4 (37*j) (wn (sPl N s n)).toArray ?_ ?_ ?_ ?_ ?_ ?_;rfl;exact hvz.out.symm;exact HTH.out;exact i40;exact wn_one (sPl N s n);rw[show (wn (sPl N s n)).toArray.toList=wn (sPl N s n) from rfl,hW4.out])|fail)
    go_roundg (gk-1)
    case measure=>omega
    case rel=>exact ⟨i+1,by omega,rfl,K4⟩
  ·have hi':¬ (i:Int)<(k:Int):=by omega
   obtain rfl:i=k:=by omega
   go_wp2_with fail
   refine (HDEL.out wr _ KM.out).mono ?_
   rintro e w9 ⟨vv,rfl,hR9⟩
   have HR9:=Hid.mk' hR9
   clear hR9 HDEL
   go_wp2
   go_ret
   exact ⟨_,rfl,HR9.out⟩
end
section
open Go.RowKit Go.Sort Go.Deep
variable {P:Nat} [NeZero P] {N:Nat}
def LF (l:List (Nat × Bs)):List (Nat × Bs):=l.filter fun x=>x.1 != 0
theorem LF_snoc {l:List (Nat × Bs)} {j:Nat} (hj:j<l.length):LF (l.take (j+1))=LF (l.take j)++(if (l[j]).1=0 then [] else [l[j]]):=by
 unfold LF
 rw[List.take_add_one,List.getElem?_eq_getElem hj,List.filter_append]
 congr 1
 by_cases h:(l[j]).1=0
 ·simp[h]
 ·simp[h]
theorem LF_le (l:List (Nat × Bs)) (j:Nat):(LF (l.take j)).length≤j:=
 Nat.le_trans (List.length_filter_le _ _) (by rw[List.length_take];exact Nat.min_le_left _ _)
theorem LF_mem {l:List (Nat × Bs)} {x:Nat × Bs} (h:x∈LF l):x∈l:=(List.mem_filter.1 h).1
theorem firstZ_some {ns:Nat→Nat}:∀ (m i:Nat),(∃ j,i≤j∧j<i+m∧ns j=0)→∃ i0,firstZ ns i m=((i0:Nat):Int)∧i≤i0∧i0<i+m∧ns i0=0∧∀ j,i≤j→j<i0→ns j≠0
 | 0,i,h=>by obtain ⟨j,h1,h2,-⟩:=h;omega
 | m+1,i,h=>by
  unfold firstZ
  by_cases h0:ns i=0
  ·rw[if_pos h0]
   exact ⟨i,rfl,Nat.le_refl _,by omega,h0,fun j h1 h2=>by omega⟩
  ·rw[if_neg h0]
   obtain ⟨j,h1,h2,h3⟩:=h
   obtain ⟨i0,e1,e2,e3,e4,e5⟩:=firstZ_some m (i+1) ⟨j,by
    rcases Nat.lt_or_ge i j with h|h
    ·omega
    ·obtain rfl:j=i:=by omega
     exact absurd h3 h0,by omega,h3⟩
   refine ⟨i0,e1,by omega,by omega,e4,fun j' h1' h2'=>?_⟩
   rcases Nat.lt_or_ge i j' with h|h
   ·exact e5 j' h h2'
   ·obtain rfl:j'=i:=by omega
    exact h0
def Rw (W:World) (g j:Nat) (x:Nat × Bs):Prop:=W.rangeAt g (37*j) (wn x.1++bl33 x.2)
theorem Rw.below {W W':World} {g j:Nat} {x:Nat × Bs} (h:Rw W g j x) (hb:Below W.heap.size W W') (hg:g<W.heap.size):Rw W' g j x:=RG.range_below h hb hg
structure Dz (base:Nat) (w W:World) (g:Nat) (l:List (Nat × Bs)) (j:Nat):Prop where
 bl:Below base w W
 hb:base≤W.heap.size
 lt:g<W.heap.size
 th:W.there g 0 (37*l.length)
 lo:∀ a (ha:a<(LF (l.take j)).length),Rw W g a ((LF (l.take j))[a])
 hi:∀ b (hb:b<l.length),j≤b→Rw W g b (l[b])
theorem Dz.grow {base:Nat} {w W W':World} {g:Nat} {l:List (Nat × Bs)} {j:Nat} (h:Dz base w W g l j) (hb:Below W.heap.size W W'):Dz base w W' g l j:=
 ⟨h.bl.trans (hb.mono h.hb),Nat.le_trans h.hb hb.size,Nat.lt_of_lt_of_le h.lt hb.size,RG.there_below h.th hb h.lt,fun a ha=>(h.lo a ha).below hb h.lt,fun b hb' hj=>(h.hi b hb' hj).below hb h.lt⟩
theorem Dz.skip {base:Nat} {w W:World} {g:Nat} {l:List (Nat × Bs)} {j:Nat} (h:Dz base w W g l j) (hj:j<l.length) (h0:(l[j]).1=0):Dz base w W g l (j+1):=by
 have e:LF (l.take (j+1))=LF (l.take j):=by rw[LF_snoc hj,if_pos h0,List.append_nil]
 exact ⟨h.bl,h.hb,h.lt,h.th,fun a ha=>by
  have h1:=h.lo a (by rw[← e];exact ha)
  simp only[e]
  exact h1,fun b hb hj=>h.hi b hb (by omega)⟩
theorem Dz.put {base:Nat} {w W:World} {g:Nat} {l:List (Nat × Bs)} {j:Nat} (h:Dz base w W g l j) (hg:base≤g) (hs:∀ x∈l.map (·.2),x.size=33) (hj:j<l.length) (h0:(l[j]).1≠0) :
 Dz base w (W.setCells g (37*(LF (l.take j)).length) (wn (l[j]).1++bl33 (l[j]).2)) g l (j+1):=by
 have e:LF (l.take (j+1))=LF (l.take j)++[l[j]]:=by rw[LF_snoc hj,if_neg h0]
 have hle:=LF_le l j
 have hsz:∀ x∈l,(wn x.1++bl33 x.2).length=37:=fun x hx=>row_len (hs x.2 (List.mem_map.2 ⟨x,hx,rfl⟩))
 have hlen:=hsz (l[j]) (List.getElem_mem hj)
 refine ⟨RG.below_setCells hg _ _ _ h.bl,by rw[RG.setCells_size];exact h.hb,by rw[RG.setCells_size];exact h.lt,World.there_setCells h.th _ _ _,fun a ha=>?_,fun b hb hjb=>?_⟩
 ·simp only[e] at ha ⊢
  by_cases hlt:a<(LF (l.take j)).length
  ·rw[List.getElem_append_left hlt]
   have h1:=h.lo a hlt
   have hm:(LF (l.take j))[a]∈l:=List.mem_of_mem_take (LF_mem (List.getElem_mem hlt))
   exact World.rangeAt_setCells_apart h1 g _ _ (Or.inr (Or.inl (by rw[hsz _ hm];omega)))
  ·have ha2:a=(LF (l.take j)).length:=by rw[List.length_append,List.length_singleton] at ha;omega
   subst ha2
   rw[List.getElem_append_right (Nat.le_refl _)]
   simp only[Nat.sub_self,List.getElem_singleton]
   refine World.rangeAt_setCells_same W g _ _ fun t ht=>?_
   rw[hlen] at ht
   have:=h.th (37*(LF (l.take j)).length+t) (by omega)
   rwa[Nat.zero_add] at this
 ·exact World.rangeAt_setCells_apart (h.hi b hb (by omega)) g _ _ (Or.inr (Or.inr (by rw[hlen];omega)))
theorem zero_one (n:Nat):∀ v∈(Builtin.zeroCells (Value.agg zT.toArray).cells n).toList,v.oneCell'=true:=by
 intro v hv
 have hz:=zT_one
 have hl:(Value.agg zT.toArray).cells.size=37:=by kernel_rfl
 unfold Builtin.zeroCells at hv
 rw[Array.toList_map] at hv
 obtain ⟨i,-,rfl⟩:=List.mem_map.1 hv
 have hi:i%(Value.agg zT.toArray).cells.size<(Value.agg zT.toArray).cells.size:=Nat.mod_lt _ (by rw[hl];decide)
 rw[getElem!_pos (Value.agg zT.toArray).cells _ hi]
 exact hz _ (by
  have e:(Value.agg zT.toArray).cells.toList=zT:=by kernel_rfl
  have h2:=Array.getElem_mem_toList hi
  rwa[e] at h2)
theorem clear_n (g i n c:Nat) (w:World) (hn:0<n) (h:w.there g 0 (37*(i+n))):∃ Z:List Value,∀ ty,(Builtin.clear_ #[56] ty #[.slice (some ⟨g,37*i,none⟩) n c]).run Tryz.prog w=.ok (.tuple #[]) (w.setCells g (37*i) Z):=by
 have h1:=zeroTm w
 have h3:=run_underlying undS w
 have ho:=zero_one n
 have hl:(Builtin.zeroCells (Value.agg zT.toArray).cells n).toList.length=n*37:=by
  have:(Value.agg zT.toArray).cells.size=37:=by kernel_rfl
  rw[Array.length_toList,size_zeroCells,this]
 generalize (Value.agg zT.toArray)=Zv at h1 ho hl
 generalize hZ:(Builtin.zeroCells Zv.cells n).toList=Z at ho hl
 have h4:(storeCells ⟨g,37*i,none⟩ Z).run Tryz.prog w=.ok () (w.setCells g (37*i) Z):=
  run_storeCells_cells (P:=Tryz.prog) g (37*i) Z 0 w (fun j hj=>by rw[hl] at hj;have:=(h (37*i+j) (by omega)).1;simpa using this) (fun j hj=>by rw[hl] at hj;have:=(h (37*i+j) (by omega)).2;simpa using this) ho
 refine ⟨Z,fun ty=>?_⟩
 obtain ⟨n',rfl⟩:∃ n',n=n'+1:=⟨n-1,by omega⟩
 unfold Builtin.clear_
 simp[Sem.run_bind,h3,h1,hZ,h4]
theorem slHi (g n c i:Nat) (hi:i≤n) (hn:n≤c) (w:World):(Instr.sliceAt 56 (.slice (some ⟨g,0,none⟩) n c) none (some (.int .i64 i)) none).run Tryz.prog w=.ok (.slice (some ⟨g,0,none⟩) i c) w:=by
 have h1:¬ (i:Int)<0:=by omega
 have h2:(i:Int)≤(c:Int):=by omega
 go_simp
theorem slLo (g n c i:Nat) (hi:i<n) (hn:n≤c) (w:World):(Instr.sliceAt 56 (.slice (some ⟨g,0,none⟩) n c) (some (.int .i64 i)) none none).run Tryz.prog w=.ok (.slice (some ⟨g,37*i,none⟩) (n-i) (c-i)) w:=by
 have h1:¬ (i:Int)<0:=by omega
 have h2:(i:Int)≤(n:Int):=by omega
 have h3:(n:Int)≤(c:Int):=by omega
 go_simp
 rw[if_neg (by omega),Nat.mul_comm]
def TmL (W:World) (q:Option Addr) (l:List (Nat × Bs)):Prop:=0<l.length→∃ g,q=some ⟨g,0,none⟩∧g<W.heap.size∧∀ j (hj:j<l.length),W.rangeAt g (37*j) (wn (l[j]).1++bl33 (l[j]).2)
def DelR (base:Nat) (l:List (Nat × Bs)) (w:World) (e:Value) (w':World):Prop:=Below base w w'∧∃ q cap,e=.slice q (LF l).length cap∧TmL w' q (LF l)
theorem LF_full {l:List (Nat × Bs)} (h:∀ x∈l,x.1≠0):LF l=l:=List.filter_eq_self.2 fun x hx=>by simpa using h x hx
theorem LF_lt {l:List (Nat × Bs)} {i0:Nat} (hi:i0<l.length) (h0:(l[i0]).1=0):∀ j,i0<j→j≤l.length→(LF (l.take j)).length<j
 | 0,h,_=>by omega
 | j+1,h,hj=>by
  rw[LF_snoc (by omega),List.length_append]
  rcases Nat.lt_or_ge i0 j with h1|h1
  ·have:=LF_lt hi h0 j h1 (by omega)
   split<;>simp<;>omega
  ·obtain rfl:j=i0:=by omega
   rw[if_pos h0]
   have:=LF_le l j
   simp;omega
theorem delete_c (l:List (Nat × Bs)) (hl0:0<l.length) (hlk:l.length≤1000) (hs:∀ x∈l.map (·.2),x.size=33) (hn:∀ x∈l,x.1<top) (base:Nat) (v:Value) (w:World) (hb:base≤w.heap.size) (ho:w.ownsRow base 121 37 v l.length (cellsT l)) :
 Calls Tryz.prog 104 #[v,.func (.func 105) #[] #[]] w (Ret (DelR base l w)):=by
 obtain ⟨g,c,rfl,hg1,hg2,hr⟩:=owns_rows ho hs hl0
 have hsz:∀ (j:Nat) (hj:j<l.length),(l[j]).2.size=33:=fun j hj=>hs _ (List.mem_map.2 ⟨_,List.getElem_mem hj,rfl⟩)
 have hcap:l.length≤c∧w.there g 0 (37*l.length):=by
  rcases ho.2 with ⟨h,-⟩|⟨g2,cap2,cur,he,-,hc,hn',-,hs',-⟩
  ·cases h
  ·injection he with he1 he2 he3
   injection he1 with he1
   injection he1 with he1
   subst he1
   subst he3
   refine ⟨hn',fun t ht=>?_⟩
   have hlt:0+t<cur.size:=by
    rw[hs']
    have:l.length*37≤c*37:=Nat.mul_le_mul_right 37 hn'
    omega
   exact ⟨by simp only[World.cell?,hc];simp;omega,by simp[World.frozen?,hc]⟩
 by_cases hall:∀ x∈l,x.1≠0
 ·have eL:=LF_full hall
  refine (delete_none g l.length c (by omega) (fun j=>((l[j]?).getD (0,#[])).1) (fun j=>((l[j]?).getD (0,#[])).2) (fun j hj=>by rw[List.getElem?_eq_getElem hj];exact hn _ (List.getElem_mem hj)) (fun j hj=>by rw[List.getElem?_eq_getElem hj];exact hall _ (List.getElem_mem hj)) (fun j hj=>by rw[List.getElem?_eq_getElem hj];exact hsz j hj) w hg2 (fun j hj=>by rw[List.getElem?_eq_getElem hj];exact hr j hj)).mono ?_
  rintro e w9 ⟨vv,rfl,hb9,rfl⟩
  refine ⟨_,rfl,hb9.mono hb,some ⟨g,0,none⟩,c,by rw[eL],?_⟩
  rw[eL]
  exact fun _=>⟨g,rfl,Nat.lt_of_lt_of_le hg2 hb9.size,fun j hj=>RG.range_below (hr j hj) hb9 hg2⟩
 ·have hI:=index_c g l.length c (by omega) (fun j=>((l[j]?).getD (0,#[])).1) (fun j=>((l[j]?).getD (0,#[])).2) (fun j hj=>by rw[List.getElem?_eq_getElem hj];exact hn _ (List.getElem_mem hj)) (fun j hj=>by rw[List.getElem?_eq_getElem hj];exact hsz j hj) w hg2 (fun j hj=>by rw[List.getElem?_eq_getElem hj];exact hr j hj)
  obtain ⟨i0,e1,-,e3,e4,e5⟩:=firstZ_some (ns:=fun j=>((l[j]?).getD (0,#[])).1) l.length 0 (by
   have:∃ x,x∈l∧x.1=0:=Classical.byContradiction fun h=>hall fun x hx h0=>h ⟨x,hx,h0⟩
   obtain ⟨x,hx,hx0⟩:=this
   obtain ⟨j,hj⟩:=List.getElem?_of_mem hx
   exact ⟨j,Nat.zero_le _,by have:=(List.getElem?_eq_some_iff.1 hj).1;omega,by show ((l[j]?).getD (0,#[])).1=0;rw[hj];exact hx0⟩)
  rw[e1] at hI
  have hi0:i0<l.length:=by omega
  have hz0:(l[i0]).1=0:=by
   have:((l[i0]?).getD (0,#[])).1=0:=e4
   rw[List.getElem?_eq_getElem hi0] at this
   exact this
  have hpre:LF (l.take i0)=l.take i0:=LF_full fun x hx=>by
   obtain ⟨j,hj⟩:=List.getElem?_of_mem hx
   rw[List.getElem?_take] at hj
   split at hj
   ·rename_i hji
    have:=e5 j (Nat.zero_le _) hji
    have h6:((l[j]?).getD (0,#[])).1≠0:=this
    rw[hj] at h6
    exact h6
   ·cases hj
  have hlen0:(LF (l.take i0)).length=i0:=by rw[hpre,List.length_take];omega
  have D0:Dz base w w g l i0:=⟨Below.refl _ _,hb,hg2,hcap.2,fun a ha=>by
   simp only[hpre] at ha ⊢
   rw[List.getElem_take]
   exact hr a _,fun b hb' _=>hr b hb'⟩
  have D1:Dz base w w g l (i0+1):=D0.skip hi0 hz0
  have e6:(LF (l.take (i0+1))).length=i0:=by rw[LF_snoc hi0,if_pos hz0,List.append_nil];exact hlen0
  have HI:=Hid.mk' hI
  have HZ:Hid (∀ j,i0<j→j≤l.length→(LF (l.take j)).length<j):=LF_lt hi0 hz0
  have HD1:=Hid.mk' D1
  have HF:Hid (base≤g∧l.length≤c∧(∀ x∈l.map (·.2),x.size=33)∧(∀ x∈l,x.1<top)∧∀ (j:Nat) (hj:j<l.length),(l[j]).2.size=33):=⟨hg1,hcap.1,hs,hn,hsz⟩
  obtain ⟨d',hd3,hd4⟩:=Option.map_eq_some_iff.1 uT
  have HD:Hid (Tryz.prog.underlying 121=some d'∧d'.isRow=true):=⟨hd3,hd4⟩
  have hi1:¬ ((i0:Int) = -1):=by omega
  clear hd3 hd4 hI D0 D1 hs hn ho hr hsz hcap hall e1 e4 e5 hpre hlen0 hz0 hg1 hg2
  go_enter Tryz.func104,Tryz.ntmps104
  go_wp2_with fail
  refine HI.out.mono ?_
  rintro e w1 ⟨vv,rfl,hb1,rfl⟩
  have K1:Hid (Dz base w w1 g l (i0+1)):=HD1.out.grow hb1
  clear hb1 HI HD1
  go_wp2_with fail
  go_loopg [5,6] (l.length-(i0+1)) (fun m s5 s6 W=>∃ j:Nat,i0<j∧j+m=l.length∧s6=.int .i64 j∧s5=.int .i64 ((LF (l.take j)).length:Int)∧Hid (Dz base w W g l j))
  case atStart=>exact ⟨i0+1,by omega,by omega,rfl,by rw[e6],K1⟩
  case round =>
   clear K1
   obtain ⟨j,hij,hjk,rfl,rfl,KM⟩:=hrel
   by_cases hj:j<l.length
   ·have hj':(j:Int)<(l.length:Int):=by omega
    obtain ⟨n,hne⟩:∃ n,Hid ((l[j]'hj).1=n):=⟨(l[j]'hj).1,(rfl:(l[j]'hj).1=(l[j]'hj).1)⟩
    obtain ⟨p,hpe⟩:∃ p,Hid ((l[j]'hj).2=p):=⟨(l[j]'hj).2,(rfl:(l[j]'hj).2=(l[j]'hj).2)⟩
    obtain ⟨i,hie⟩:∃ i,Hid ((LF (l.take j)).length=i):=⟨_,rfl⟩
    have hilt:i<l.length:=by have:=HZ.out j hij (by omega);rw[hie.out] at this;omega
    rw[hie.out]
    have hps:Hid (p.size=33):=by rw[← hpe.out];exact HF.out.2.2.2.2 j hj
    have hnt:Hid (n<top):=by rw[← hne.out];exact HF.out.2.2.2.1 _ (List.getElem_mem hj)
    have B0:Hid (wr.rangeAt g (37*j) (wn n++bl33 p)):=by
     have h:=KM.out.hi j hj (Nat.le_refl _)
     unfold Rw at h
     rw[hne.out,hpe.out] at h
     exact h
    obtain ⟨W1,hW1⟩:∃ W1,Hid (wr.alloc (.cells zT.toArray 121)=W1):=⟨_,rfl⟩
    obtain ⟨W2,hW2⟩:∃ W2,Hid (W1.setCells wr.heap.size 0 (wn n++bl33 p)=W2):=⟨_,rfl⟩
    have hlen:(wn n++bl33 p).length=37:=row_len hps.out
    have F1:Hid (Row W1 wr.heap.size zT∧Below wr.heap.size wr W1∧W1.heap.size=wr.heap.size+1):=by rw[← hW1.out];exact ⟨row_new wr _ _,below1 wr _,World.size_alloc _ _⟩
    have F2:Hid (Row W2 wr.heap.size (wn n++bl33 p)∧Below wr.heap.size wr W2):=by rw[← hW2.out];exact ⟨F1.out.1.put (by rw[hlen];rfl),RG.below_setCells (Nat.le_refl _) _ _ _ F1.out.2.1⟩
    have HLT:Hid ((Tryz.prog.info? 121).map (·.size)=some (wn n++bl33 p).length):=by show _=_;rw[hlen];exact iT
    have HLS:Hid ((Tryz.prog.info? 121).map (·.size)=some (wn n++bl33 p).toArray.size∧W1.there wr.heap.size 0 (wn n++bl33 p).toArray.size):=by
     have e:(wn n++bl33 p).toArray.size=37:=by rw[List.size_toArray];exact hlen
     rw[e];exact ⟨iT,F1.out.1.2.2⟩
    have HAL:Hid ((wn n++bl33 p).toArray.all (·.oneCell')=true):=by
     show _=_
     rw[Array.all_eq_true']
     intro u hu
     exact cells_one n p u (List.mem_toArray.1 hu)
    have hix:=atT g 0 l.length c j hj
    obtain ⟨vt,hvt⟩:∃ v,Hid (tvl n p=v):=⟨_,rfl⟩
    have hvt':Hid (Value.agg (wn n++bl33 p).toArray=vt):=hvt
    have K2:Hid (Dz base w W2 g l j):=KM.out.grow F2.out.2
    have HN:=Hid.mk' (none_c hnt.out hps.out W2)
    rw[hvt.out] at HN
    clear KM
    go_wp2_with (first|(refine wpList_load_mid rfl 121 _ rfl g (37*j) ?_ (wn n++bl33 p) d' ?_ ?_ ?_ ?_ ?_;rfl;exact B0.out;exact HD.out.1;exact HD.out.2;exact HLT.out;rw[hvt'.out])|(refine wpList_op (v:=.pointer (some ⟨wr.heap.size,0,none⟩)) (w':=W1) rfl (.alloc 121) rfl ?_ ?_;(rw[← hW1.out];kernel_rfl))|(refine wpList_store_mid rfl 121 _ _ rfl wr.heap.size 0 (wn n++bl33 p).toArray ?_ ?_ ?_ ?_ ?_ ?_;rfl;exact hvt'.out.symm;exact HLS.out.2;exact HLS.out.1;exact HAL.out;rw[show (wn n++bl33 p).toArray.toList=wn n++bl33 p from rfl,hW2.out])|(refine wpList_load_mid rfl 121 _ rfl wr.heap.size 0 ?_ (wn n++bl33 p) d' ?_ ?_ ?_ ?_ ?_;rfl;exact F2.out.1.2.1;exact HD.out.1;exact HD.out.2;exact HLT.out;rw[hvt'.out])|fail)
    refine HN.out.mono ?_
    rintro e W3 ⟨vv,rfl,hb3,rfl⟩
    have K3:Hid (Dz base w W3 g l j∧Row W3 wr.heap.size (wn n++bl33 p)):=⟨K2.out.grow hb3,F2.out.1.below hb3⟩
    clear hb3 K2 HN F2 F1
    by_cases h0:n=0
    ·rw[show decide (n=0)=true by simp[h0]]
     have K4:Hid (Dz base w W3 g l (j+1)):=K3.out.1.skip hj (by rw[hne.out];exact h0)
     have e4:Hid ((LF (l.take (j+1))).length=i):=by
      show _=_
      rw[LF_snoc hj,if_pos (by rw[hne.out];exact h0),List.append_nil]
      exact hie.out
     go_wp2
     go_roundg (gk-1)
     case measure=>omega
     case rel=>exact ⟨j+1,by omega,by omega,rfl,by rw[e4.out],K4⟩
    ·rw[show decide (n=0)=false by simp[h0]]
     obtain ⟨W4,hW4⟩:∃ W4,Hid (W3.setCells g (37*i) (wn n++bl33 p)=W4):=⟨_,rfl⟩
     have K4:Hid (Dz base w W4 g l (j+1)):=by
      have h:=K3.out.1.put HF.out.1 HF.out.2.2.1 hj (by rw[hne.out];exact h0)
      rw[hie.out,hne.out,hpe.out,hW4.out] at h
      exact h
     have e4:Hid ((LF (l.take (j+1))).length=i+1):=by
      show _=_
      rw[LF_snoc hj,if_neg (by rw[hne.out];exact h0),List.length_append,hie.out]
      rfl
     have HTH:Hid (W3.there g (37*i) (wn n++bl33 p).toArray.size):=by
      have e:(wn n++bl33 p).toArray.size=37:=by rw[List.size_toArray];exact hlen
      rw[e]
      intro t ht
      have:=K3.out.1.th (37*i+t) (by omega)
      rwa[Nat.zero_add] at this
     have hix2:=atT g 0 l.length c i hilt
     go_wp2_with (first|(refine wpList_load_mid rfl 121 _ rfl wr.heap.size 0 ?_ (wn n++bl33 p) d' ?_ ?_ ?_ ?_ ?_;rfl;exact K3.out.2.2.1;exact HD.out.1;exact HD.out.2;exact HLT.out;rw[hvt'.out])|(refine wpList_store_mid rfl 121 _ _ rfl g (37*i) (wn n++bl33 p).toArray ?_ ?_ ?_ ?_ ?_ ?_;rfl;exact hvt'.out.symm;exact HTH.out;exact HLS.out.1;exact HAL.out;rw[show (wn n++bl33 p).toArray.toList=wn n++bl33 p from rfl,hW4.out])|fail)
     go_roundg (gk-1)
     case measure=>omega
     case rel=>exact ⟨j+1,by omega,by omega,rfl,by rw[e4.out];rfl,K4⟩
   ·have hj':¬ (j:Int)<(l.length:Int):=by omega
    obtain rfl:j=l.length:=by omega
    have eL:LF (l.take l.length)=LF l:=by rw[List.take_length]
    rw[eL]
    have hilt:(LF l).length<l.length:=by have:=HZ.out l.length hij (Nat.le_refl _);rw[eL] at this;exact this
    have hlo:∀ a (ha:a<(LF l).length),Rw wr g a ((LF l)[a]):=fun a ha=>by
     have:=KM.out.lo a (by rw[eL];exact ha)
     simp only[eL] at this
     exact this
    have hszL:∀ x∈LF l,(wn x.1++bl33 x.2).length=37:=fun x hx=>row_len (HF.out.2.2.1 _ (List.mem_map.2 ⟨x,LF_mem hx,rfl⟩))
    obtain ⟨Z,hZ⟩:=clear_n g (LF l).length (l.length-(LF l).length) (c-(LF l).length) wr (by omega) (by rw[show (LF l).length+(l.length-(LF l).length)=l.length by omega];exact KM.out.th)
    obtain ⟨W5,hW5⟩:∃ W5,Hid (wr.setCells g (37*(LF l).length) Z=W5):=⟨_,rfl⟩
    rw[hW5.out] at hZ
    have K5:Hid (Below base w W5∧TmL W5 (some ⟨g,0,none⟩) (LF l)):=by
     rw[← hW5.out]
     refine ⟨RG.below_setCells HF.out.1 _ _ _ KM.out.bl,fun _=>⟨g,rfl,by rw[RG.setCells_size];exact KM.out.lt,fun a ha=>?_⟩⟩
     exact World.rangeAt_setCells_apart (hlo a ha) g _ _ (Or.inr (Or.inl (by rw[hszL _ (List.getElem_mem ha)];omega)))
    have hs1:=slLo g l.length c (LF l).length hilt HF.out.2.1
    have hs2:=slHi g l.length c (LF l).length (by omega) HF.out.2.1
    clear KM hlo hszL eL hW5
    obtain ⟨i,hie⟩:∃ i,Hid ((LF l).length=i):=⟨_,rfl⟩
    rw[hie.out] at hs1 hs2 hZ hilt ⊢
    go_wp2
    go_ret
    exact ⟨_,rfl,K5.out.1,some ⟨g,0,none⟩,c,by rw[hie.out];rfl,K5.out.2⟩
theorem u8_ne {p:Option Addr} {n c:Nat} {x:UInt8}:encB x≠.slice p n c:=fun h=>by cases h
def El (n:Nat) (W:World) (x:Value) (b:Bs):Prop:=∃ k c,x=.slice (some ⟨k,0,none⟩) n c∧n≤c∧b.size=n∧k<W.heap.size∧Holds encB W k 0 b
def isL (n:Nat) (W:World) (g:Nat):Prop:=∃ p c,W.cell? ⟨g,0,none⟩=some (.slice p n c)
structure Gr (n:Nat) (v:Value) (W W':World):Prop where
 gr:W.grownBy W' v.ownBlock
 is:∀ g,v.ownBlock=some g→isL n W g
theorem Gr.of {W W':World} {n:Nat} (h:Below W.heap.size W W'):Gr n (.slice none 0 0) W W':=
 ⟨⟨h.os,h.tape,h.output,h.size,fun k hk _=>h.block k hk⟩,fun g hg=>by cases hg⟩
theorem Gr.below {n:Nat} {v:Value} {w W W':World} {B:Nat} (h:Gr n v W W') (hb:Below B w W) (hB:B≤W.heap.size) (hv:∀ g,v.ownBlock=some g→B≤g):Below B w W':=
 hb.grown h.gr hB (fun k hk=>hv k hk)
theorem Gr.block {n k:Nat} {v:Value} {W W':World} (h:Gr n v W W') (hk:k<W.heap.size) (hne:∀ p c,W.cell? ⟨k,0,none⟩≠some (.slice p n c)):W'.heap[k]? = W.heap[k]? :=
 h.gr.block k hk fun e=>by
  obtain ⟨p,c,hc⟩:=h.is k e.symm
  exact hne p c hc
theorem Holds.kept {W W':World} {k:Nat} {b:Bs} (h:Holds encB W k 0 b) (e:W'.heap[k]? = W.heap[k]?):Holds encB W' k 0 b:=fun j hj=>by
 rw[World.cell?_of_block (a:=⟨k,0+j,none⟩) e,World.frozen?_of_block (a:=⟨k,0+j,none⟩) e]
 exact h j hj
theorem El.kept {m n:Nat} {v x:Value} {W W':World} {b:Bs} (h:El m W x b) (hm:0<m) (hg:Gr n v W W'):El m W' x b:=by
 obtain ⟨k,c,rfl,h1,h2,h3,h4⟩:=h
 refine ⟨k,c,rfl,h1,h2,Nat.lt_of_lt_of_le h3 hg.gr.size,Holds.kept h4 (hg.block h3 fun p c' hc=>?_)⟩
 have:=(h4 0 (by omega)).1
 rw[Nat.zero_add,hc] at this
 exact u8_ne (Option.some.inj this).symm
theorem Row.kept {n k:Nat} {v:Value} {W W':World} {vs:List Value} (h:Row W k vs) (hg:Gr n v W W') (hne:∀ p c,vs[0]?≠some (.slice p n c)) (hl:0<vs.length):Row W' k vs:=by
 have e:=hg.block h.1 fun p c hc=>by
  have h0:=h.2.1 0 vs[0] (List.getElem?_eq_getElem hl)
  rw[Nat.zero_add,hc] at h0
  exact hne p c (by rw[List.getElem?_eq_getElem hl,h0])
 refine ⟨Nat.lt_of_lt_of_le h.1 hg.gr.size,fun j u hj=>?_,fun j hj=>?_⟩
 ·rw[World.cell?_of_block (a:=⟨k,0+j,none⟩) e];exact h.2.1 j u hj
 ·rw[World.cell?_of_block (a:=⟨k,0+j,none⟩) e,World.frozen?_of_block (a:=⟨k,0+j,none⟩) e];exact h.2.2 j hj
structure Lo (n base:Nat) (W:World) (v:Value) (bs:List Bs):Prop where
 ex:∃ xs:List Value,xs.length=bs.length∧W.ownsRow base 23 1 v bs.length xs∧∀ (j:Nat) (x:Value) (b:Bs),xs[j]? = some x→bs[j]? = some b→El n W x b
 nil:bs=[]→v=.slice none 0 0
theorem Lo.begin (n base:Nat) (W:World):Lo n base W (.slice none 0 0) []:=⟨⟨[],rfl,World.ownsRow_nil _ _ _ _,fun j x b h=>by cases h⟩,fun _=>rfl⟩
theorem add0 (g j:Nat):(⟨g,0,none⟩:Addr).add j=⟨g,j,none⟩:=by unfold Addr.add;split<;>simp_all
theorem Lo.isL {n base:Nat} {W:World} {v:Value} {bs:List Bs} (h:Lo n base W v bs) {g:Nat} (hg:v.ownBlock=some g):isL n W g:=by
 obtain ⟨xs,h1,h2,h3⟩:=h.ex
 have hne:bs≠[]:=fun e=>by rw[h.nil e] at hg;cases hg
 cases bs with
 | nil=>exact absurd rfl hne
 | cons b r =>
  cases xs with
  | nil=>cases h1
  | cons x xr =>
   obtain ⟨k,c,rfl,-⟩:=h3 0 x b rfl rfl
   have:=h2.cells hg 0 _ rfl
   rw[add0] at this
   exact ⟨_,_,this⟩
theorem Lo.lt {n base:Nat} {W:World} {v:Value} {bs:List Bs} (h:Lo n base W v bs):∀ g,v.ownBlock=some g→base≤g∧g<W.heap.size:=by
 obtain ⟨xs,h1,h2,h3⟩:=h.ex
 exact h2.lt
theorem Lo.kept {m n base:Nat} {W W':World} {v v':Value} {bs:List Bs} (h:Lo m base W v bs) (hm:0<m) (hg:Gr n v' W W') (hne:m≠n):Lo m base W' v bs:=by
 have hL:=fun {g}=>h.isL (g:=g)
 obtain ⟨xs,h1,h2,h3⟩:=h.ex
 refine ⟨⟨xs,h1,h2.kept hg.gr ?_,fun j x b hx hb=>(h3 j x b hx hb).kept hm hg⟩,h.nil⟩
 cases hv:v.ownBlock with
 | none=>exact Or.inl rfl
 | some g =>
  refine Or.inr fun e=>hne ?_
  obtain ⟨p,c,hc⟩:=hL hv
  obtain ⟨p',c',hc'⟩:=hg.is g e.symm
  rw[hc] at hc'
  injection hc' with hc'
  injection hc' with _ h5 _
theorem infoB:(Tryz.prog.info? 23).map (fun i=>(i.size,i.bytes,i.zero.map fun z=>z.cells.size))=some (1,24,some 1):=by kernel_rfl
theorem undB:Tryz.prog.underlying 22=some (.slice 23):=by kernel_rfl
theorem Lo.app {n base g:Nat} {W:World} {v x:Value} {bs:List Bs} {b:Bs} (h:Lo n base W v bs) (hn:0<n) (hx:El n W x b) (hc:W.cell? ⟨g,0,none⟩=some x) (hk:bs.length≤1000000) (hb:base≤W.heap.size) :
 ∃ v' W',(Builtin.append_ #[22,22] 22 #[v,.slice (some ⟨g,0,none⟩) 1 1]).run Tryz.prog W=.ok v' W'∧Lo n base W' v' (bs++[b])∧Gr n v W W':=by
 obtain ⟨i,hi,he⟩:=Option.map_eq_some_iff.1 infoB
 simp only[Prod.mk.injEq] at he
 obtain ⟨h1,h2,h3⟩:=he
 obtain ⟨z,hz,hz2⟩:=Option.map_eq_some_iff.1 h3
 obtain ⟨xs,x1,x2,x3⟩:=h.ex
 obtain ⟨v',W',r1,r2,r3,r4⟩:=run_append_own (P:=Tryz.prog) W base 22 22 23 i z 1 24 undB hi hz h1 h2 hz2 (by decide) v bs.length xs x2 ⟨g,0,none⟩ 1 1 [x] rfl
  (fun j u hj=>by
   cases j with
   | zero =>
    obtain rfl:x=u:=by simpa using hj
    rw[add0];exact hc
   | succ j=>simp at hj) (fun u hu=>by
   obtain rfl:u=x:=by simpa using hu
   obtain ⟨k,c,rfl,-⟩:=hx
   rfl) (by unfold maxLen;omega) (by omega) hb
 have G:Gr n v W W':=⟨r3,fun g hg=>h.isL hg⟩
 refine ⟨v',W',r1,⟨⟨xs++[x],by simp[x1],by rw[List.length_append];exact r2,fun j y c hy hcy=>?_⟩,fun e=>by simp at e⟩,G⟩
 by_cases hj:j<bs.length
 ·rw[List.getElem?_append_left (by omega)] at hy hcy
  exact (x3 j y c hy hcy).kept hn G
 ·rw[List.getElem?_append_right (by omega)] at hy hcy
  rw[x1] at hy
  cases hjj:j-bs.length with
  | zero =>
   rw[hjj] at hy hcy
   obtain rfl:x=y:=by simpa using hy
   obtain rfl:b=c:=by simpa using hcy
   exact hx.kept hn G
  | succ d=>rw[hjj] at hy;simp at hy
theorem ptBytes_c {a:Bs} (ha:a.size=33) (w:World):Calls Tryz.prog 20 #[pvl a] w (Ret fun e w'=>Below w.heap.size w w'∧El 33 w' e a):=by
 have B1:=Hid.mk' (boxCP ha w)
 obtain ⟨w1,hw1⟩:∃ w1,Hid (w.alloc (.cells (bl33 a).toArray 61)=w1):=⟨_,rfl⟩
 rw[hw1.out] at B1
 have K:Hid (Row w1 w.heap.size (bl33 a)∧Below w.heap.size w w1):=by rw[← hw1.out];exact ⟨row_new w _ _,below1 w _⟩
 obtain ⟨va,hva⟩:∃ v,Hid (pvl a=v):=⟨_,rfl⟩
 have B1':Hid ((Instr.box 61 va).run Tryz.prog w=.ok (.pointer (some ⟨w.heap.size,0,none⟩)) w1):=by rw[← hva.out];exact B1
 rw[hva.out]
 have hs:=slCP w.heap.size
 clear B1 hw1
 go_enter Tryz.func20,Tryz.ntmps20
 go_wp2_with (first|(refine wpList_box (u:=va) (v:=.pointer (some ⟨w.heap.size,0,none⟩)) (w':=w1) rfl 61 (.tmp 0) rfl ?_ ?_ ?_;rfl;exact B1'.out))
 go_ret
 exact ⟨_,rfl,K.out.2,w.heap.size,33,rfl,by omega,ha,K.out.1.1,row_holds K.out.1⟩
end
section
open Go.RowKit Go.Sort Go.Deep
variable {P:Nat} [NeZero P] {N:Nat}
def Bo (n B0:Nat) (W:World) (v:Value) (b:Bs):Prop:=∃ k x,v=.slice (some ⟨k,0,none⟩) 1 1∧B0≤k∧k<W.heap.size∧W.cell? ⟨k,0,none⟩=some x∧El n W x b
theorem Bo.kept {m n B0:Nat} {W W':World} {v u:Value} {b:Bs} (h:Bo n B0 W v b) (hn:0<n) (hg:Gr m u W W') (hu:∀ g,u.ownBlock=some g→g<B0):Bo n B0 W' v b:=by
 obtain ⟨k,x,rfl,h1,h2,h3,h4⟩:=h
 refine ⟨k,x,rfl,h1,Nat.lt_of_lt_of_le h2 hg.gr.size,?_,h4.kept hn hg⟩
 rw[World.cell?_of_block (a:=⟨k,0,none⟩) (hg.gr.block k h2 fun e=>by have:=hu k e.symm;omega)]
 exact h3
def Tm (W:World) (q:Option Addr) (k:Nat) (ns:Nat→Nat) (az:Nat→Bs):Prop:=0<k→∃ g,q=some ⟨g,0,none⟩∧g<W.heap.size∧∀ j,j<k→W.rangeAt g (37*j) (wn (ns j)++bl33 (az j))
theorem Tm.kept {m k:Nat} {W W':World} {u:Value} {q:Option Addr} {ns:Nat→Nat} {az:Nat→Bs} (h:Tm W q k ns az) (hg:Gr m u W W'):Tm W' q k ns az:=fun hk=>by
 obtain ⟨g,h1,h2,h3⟩:=h hk
 refine ⟨g,h1,Nat.lt_of_lt_of_le h2 hg.gr.size,fun j hj i v hv=>?_⟩
 have e:=hg.block h2 fun p c hc=>by
  have h0:=h3 0 hk 0 _ (show (wn (ns 0)++bl33 (az 0))[0]? = some _ from rfl)
  rw[show 37*0+0=0 from rfl,hc] at h0
  cases h0
 rw[World.cell?_of_block (a:=⟨g,37*j+i,none⟩) e]
 exact h3 j hj i v hv
section
variable (w0:World) (v3 v4:Value) (k6 n B0 base:Nat) (p:Bs) (bs cs:List Bs) (q:Option Addr) (k:Nat) (ns:Nat→Nat) (az:Nat→Bs)
def PR:Nat→Value→World→Prop
 | 0,v,_=>v=v3
 | 1,v,_=>v=.pointer (some ⟨k6,0,none⟩)
 | 2,v,_=>v=nv n
 | 3,v,w=>El 32 w v (bx n)
 | 4,v,w=>Bo 32 B0 w v (bx n)
 | 5,v,w=>Lo 32 base w v (bs++[bx n])
 | 6,v,_=>v=v4
 | 7,v,_=>v=.pointer (some ⟨k6,4,none⟩)
 | 8,v,_=>v=pvl p
 | 9,v,w=>El 33 w v p
 | 10,v,w=>Bo 33 B0 w v p
 | 11,v,w=>Lo 33 base w v (cs++[p])
 | 12,v,w=>Lo 32 base w v (bs++[bx n])
 | 13,v,w=>Lo 33 base w v (cs++[p])
 | _,_,_=>True
def PBs:Nat→World→Prop
 | 0,w=>Row w k6 (wn n++bl33 p)
 | 1,w=>Lo 32 base w v3 bs
 | 2,w=>Lo 33 base w v4 cs
 | 3,w=>Below base w0 w∧base≤w.heap.size∧B0≤w.heap.size
 | 4,w=>Tm w q k ns az
 | 5,w=>Row w base z33
 | _,_=>True
def PE:Nat→World→World→Prop
 | 5=>Gr 32 v3
 | 11=>Gr 33 v4
 | _=>Gr 0 (.slice none 0 0)
def Pk1:Nat→List Nat
 | 4=>[5]
 | 10=>[11]
 | _=>[]
def Pk2:Nat→List Nat
 | 1=>[5]
 | 2=>[11]
 | _=>[]
def FP:RG.Flow:=⟨PR v3 v4 k6 n B0 base p bs cs,PBs w0 v3 v4 k6 n B0 base p bs cs q k ns az,PE v3 v4,Pk1,Pk2⟩
theorem PE_any {i:Nat} {w w':World} (h:PE v3 v4 i w w'):∃ m u,Gr m u w w'∧((i=5∧m=32∧u=v3)∨(i=11∧m=33∧u=v4)∨(i≠5∧i≠11∧m=0∧u=.slice none 0 0)):=by
 unfold PE at h
 split at h
 ·exact ⟨_,_,h,Or.inl ⟨rfl,rfl,rfl⟩⟩
 ·exact ⟨_,_,h,Or.inr (Or.inl ⟨rfl,rfl,rfl⟩)⟩
 ·rename_i h1 h2
  exact ⟨_,_,h,Or.inr (Or.inr ⟨h1,h2,rfl,rfl⟩)⟩
variable (hv3:∀ g,v3.ownBlock=some g→base≤g∧g<B0) (hv4:∀ g,v4.ownBlock=some g→base≤g∧g<B0)
include hv3 hv4
theorem PE_own {i m:Nat} {u:Value} (h:(i=5∧m=32∧u=v3)∨(i=11∧m=33∧u=v4)∨(i≠5∧i≠11∧m=0∧u=.slice none 0 0)):∀ g,u.ownBlock=some g→base≤g∧g<B0:=by
 rcases h with ⟨-,-,rfl⟩|⟨-,-,rfl⟩|⟨-,-,-,rfl⟩
 ·exact hv3
 ·exact hv4
 ·intro g hg;cases hg
theorem P_stab (i j:Nat) (hj:j<14) (hij:i≠j) (hk:(Pk1 j).contains i=false) (h1:¬ (j=12∧i=5)) (h2:¬ (j=13∧i=11)) (v:Value) (w w':World) (hE:PE v3 v4 i w w') (hR:PR v3 v4 k6 n B0 base p bs cs j v w):PR v3 v4 k6 n B0 base p bs cs j v w':=by
 obtain ⟨m,u,hg,hc⟩:=PE_any v3 v4 hE
 have hu:=PE_own v3 v4 B0 base hv3 hv4 hc
 have m32:m=32→i=5:=fun h=>by rcases hc with ⟨h1,-⟩|⟨-,h2,-⟩|⟨-,-,h2,-⟩<;>omega
 have m33:m=33→i=11:=fun h=>by rcases hc with ⟨-,h2,-⟩|⟨h1,-⟩|⟨-,-,h2,-⟩<;>omega
 match j,hj,hR with
 | 0,_,h=>exact h
 | 1,_,h=>exact h
 | 2,_,h=>exact h
 | 3,_,h=>exact El.kept h (by decide) hg
 | 4,_,h=>exact Bo.kept h (by decide) hg fun g hgg=>(hu g hgg).2
 | 5,_,h=>exact Lo.kept h (by decide) hg fun e=>hij (m32 e.symm)
 | 6,_,h=>exact h
 | 7,_,h=>exact h
 | 8,_,h=>exact h
 | 9,_,h=>exact El.kept h (by decide) hg
 | 10,_,h=>exact Bo.kept h (by decide) hg fun g hgg=>(hu g hgg).2
 | 11,_,h=>exact Lo.kept h (by decide) hg fun e=>hij (m33 e.symm)
 | 12,_,h=>exact Lo.kept h (by decide) hg fun e=>h1 ⟨rfl,m32 e.symm⟩
 | 13,_,h=>exact Lo.kept h (by decide) hg fun e=>h2 ⟨rfl,m33 e.symm⟩
 | _+14,hj,_=>omega
theorem P_stabB (i b:Nat) (hk:(Pk2 b).contains i=false) (w w':World) (hE:PE v3 v4 i w w') (hR:PBs w0 v3 v4 k6 n B0 base p bs cs q k ns az b w):PBs w0 v3 v4 k6 n B0 base p bs cs q k ns az b w':=by
 obtain ⟨m,u,hg,hc⟩:=PE_any v3 v4 hE
 have hu:=PE_own v3 v4 B0 base hv3 hv4 hc
 have m32:m=32→i=5:=fun h=>by rcases hc with ⟨h1,-⟩|⟨-,h2,-⟩|⟨-,-,h2,-⟩<;>omega
 have m33:m=33→i=11:=fun h=>by rcases hc with ⟨-,h2,-⟩|⟨h1,-⟩|⟨-,-,h2,-⟩<;>omega
 match b,hk,hR with
 | 0,_,h=>exact Row.kept h hg (fun p c e=>by cases e) (by rw[List.length_append];exact Nat.lt_of_lt_of_le (by decide) (Nat.le_add_right 4 _))
 | 1,hk,h=>exact Lo.kept h (by decide) hg fun e=>by rw[m32 e.symm] at hk;cases hk
 | 2,hk,h=>exact Lo.kept h (by decide) hg fun e=>by rw[m33 e.symm] at hk;cases hk
 | 3,_,h=>exact ⟨hg.below h.1 h.2.1 fun g hgg=>(hu g hgg).1,Nat.le_trans h.2.1 hg.gr.size,Nat.le_trans h.2.2 hg.gr.size⟩
 | 4,_,h=>exact Tm.kept h hg
 | 5,_,h=>exact Row.kept h hg (fun p c e=>by cases e) (by decide)
 | _+6,_,_=>trivial
end
end
section
open Go.RowKit Go.Sort Go.Deep
variable {P:Nat} [NeZero P] {N:Nat}
theorem Lo.drew {n base:Nat} {W:World} {v:Value} {bs:List Bs} (h:Lo n base W v bs):Lo n base W.drew v bs:=⟨h.ex,h.nil⟩
theorem SumR.all (C:Fld P) (O:Ord N) {w w':World} {k:Nat} (hk:k≤512) {ns:Nat→Nat} {X:Nat→EC.Pt P} (hn:∀ j,j<k→ns j<N) (hX:∀ j,j<k→EC.On (X j)) {L M:Nat→Bs} (hL:∀ j,j<k→L j=bx (ns j)) (hM:∀ j,j<k→M j=wr (X j)) {e:Value} (h:SumR P N w k k L M e w') :
 OutP w (wr (EC.tot X k (fun j=>(ns j:Int)))) e w':=by
 have hq:∀ j,j<k→rq N (L j)=some (ns j):=fun j hj=>by
  rw[hL j hj]
  have hb:beV (bx (ns j)).toList=ns j:=bx_val (Nat.lt_of_lt_of_le (hn j hj) O.le)
  unfold rq
  rw[if_pos ⟨bx_size _,by rw[hb];exact hn j hj⟩,hb]
 have hr:∀ j,j<k→∃ p,rd P (M j)=some p∧pt p=X j:=fun j hj=>by rw[hM j hj];exact rd_wr C (hX j hj)
 rcases h with ⟨h,-⟩|⟨-,h,-⟩|⟨-,-,⟨⟨j,hj,hn'⟩,-⟩|⟨ns',hns,⟨⟨j,hj,hn'⟩,-⟩|⟨xs,ys,hxy,h⟩⟩⟩
 ·exact absurd rfl h
 ·omega
 ·rw[hq j hj] at hn';cases hn'
 ·obtain ⟨p,hp,-⟩:=hr j hj
  rw[hp] at hn';cases hn'
 ·have e1:∀ j,j<k→ns' j=ns j:=fun j hj=>by
   have:=hns j hj
   rw[hq j hj] at this
   exact (Option.some.inj this).symm
  have hp:∀ j,j<k→EC.Pair (xs j) (ys j) (X j)∧EC.On (X j):=fun j hj=>by
   obtain ⟨p,hp,hpt⟩:=hr j hj
   have h1:=hxy j hj
   rw[hp] at h1
   have h2:=Option.some.inj h1
   have h3:=rd_on C hp
   rw[hpt] at h3
   rw[h2] at h3
   exact h3
  have hJ:=sumJ_all C (ns:=ns') (xs:=xs) (ys:=ys) (p:=X) (N:=k) (fun i hi=>by rw[e1 i hi];exact Nat.lt_of_lt_of_le (hn i hi) O.le) (fun i hi=>(hp i hi).1) (fun i hi=>(hp i hi).2)
  have e2:EC.tot X k (fun j=>(ns' j:Int))=EC.tot X k (fun j=>(ns j:Int)):=EC.tot_congr k fun j hj=>by rw[e1 j hj]
  rw[e2] at hJ
  rw[← by33_wr C (hJ.pair C) hJ.2]
  exact h
structure Pz (w W:World) (q:Option Addr) (k i:Nat) (ns:Nat→Nat) (az:Nat→Bs) (s3 s4:Value):Prop where
 bl:Below w.heap.size w W
 l3:Lo 32 w.heap.size W s3 ((List.range i).map fun j=>bx (ns j))
 l4:Lo 33 w.heap.size W s4 ((List.range i).map az)
 tm:Tm W q k ns az
 r2:Row W w.heap.size z33
theorem El.of_made {w w':World} {k n:Nat} {b:Bs} (h:RG.Made w k (cb b) w') (hb:b.size=n):El n w' (.slice (some ⟨k,0,none⟩) n n) b:=⟨k,n,rfl,Nat.le_refl _,hb,h.lt,cb_holds h.range h.there⟩
theorem Bo.of {n B0:Nat} {w:World} {x:Value} {b:Bs} (h:El n w x b) (hn:0<n) (hB:B0≤w.heap.size) (T:TypeId):Bo n B0 (w.alloc (.cells #[x] T)) (.slice (some ⟨w.heap.size,0,none⟩) 1 1) b:=
 ⟨w.heap.size,x,rfl,hB,by rw[World.size_alloc];omega,by rw[World.cell?_alloc_new];rfl,h.kept hn (Gr.of (n:=0) (below1 w _))⟩
theorem Lo.args {n base:Nat} {W:World} {v:Value} {bs:List Bs} (h:Lo n base W v bs):∃ q cap,v=.slice q bs.length cap∧(0<bs.length→∃ g,q=some ⟨g,0,none⟩∧g<W.heap.size∧∀ (j:Nat) (b:Bs),bs[j]? = some b→∃ x,W.cell? ⟨g,j,none⟩=some x∧El n W x b):=by
 obtain ⟨xs,h1,h2,h3⟩:=h.ex
 have h4:=fun {g:Nat}=>h2.cells (g:=g)
 rcases h2.2 with ⟨rfl,h0⟩|⟨g,cap,cur,rfl,-,hc,-⟩
 ·exact ⟨none,0,by rw[h0],fun h=>by omega⟩
 ·refine ⟨_,_,rfl,fun _=>⟨g,rfl,(Array.getElem?_eq_some_iff.1 hc).1,fun j b hb=>?_⟩⟩
  have hj:j<xs.length:=by rw[h1];exact (List.getElem?_eq_some_iff.1 hb).1
  have:=h4 (g:=g) rfl j xs[j] (List.getElem?_eq_getElem hj)
  rw[add0] at this
  exact ⟨_,this,h3 j _ b (List.getElem?_eq_getElem hj) hb⟩
theorem El.arg {W:World} {x:Value} {b:Bs} (h:El 32 W x b):Arg W x b:=by
 obtain ⟨k,c,rfl,h1,h2,h3,h4⟩:=h
 exact ⟨_,_,_,rfl,h2,fun _=>⟨k,0,rfl,h1,h3,h4⟩⟩
theorem El.arg33 {W:World} {x:Value} {b:Bs} (h:El 33 W x b):Arg33 W x b:=by
 obtain ⟨k,c,rfl,h1,h2,h3,h4⟩:=h
 exact ⟨_,_,_,rfl,h2,fun _=>⟨k,0,rfl,h1,h3,h4⟩⟩
theorem sumPoint_g (C:Fld P) (O:Ord N) (v:Value) (w:World) (k:Nat) (hk:k≤512) (ns:Nat→Nat) (X:Nat→EC.Pt P) (hn:∀ j,j<k→ns j<N) (hX:∀ j,j<k→EC.On (X j))
 (hmer:∀ W,Below w.heap.size w W→Calls Tryz.prog 49 #[v] W (Ret fun e w'=>Below W.heap.size W w'∧∃ q cap,e=.slice q k cap∧Tm w' q k ns (fun j=>wr (X j)))) :
 Calls Tryz.prog 19 #[v] w (Ret fun e w'=>Below w.heap.size w w'∧e=pvl (wr (EC.tot X k (fun j=>(ns j:Int))))):=by
 have HM:=Hid.mk' hmer
 have HC:Hid (Fld P∧Ord N∧(∀ j,j<k→ns j<N)∧∀ j,j<k→EC.On (X j)):=⟨C,O,hn,hX⟩
 obtain ⟨az,haz⟩:∃ az:Nat→Bs,Hid ((fun j=>wr (X j))=az):=⟨_,rfl⟩
 have haz':Hid (∀ j,az j=wr (X j)):=fun j=>by rw[← haz.out]
 rw[haz.out] at HM
 obtain ⟨w1,hw1⟩:∃ w1,Hid (w.alloc (.cells z33.toArray 61)=w1):=⟨_,rfl⟩
 have K1:Hid (Row w1 w.heap.size z33∧Below w.heap.size w w1):=by rw[← hw1.out];exact ⟨row_new w _ _,below1 w _⟩
 obtain ⟨d,hd1,hd2⟩:=Option.map_eq_some_iff.1 uCP
 obtain ⟨d',hd3,hd4⟩:=Option.map_eq_some_iff.1 uT
 have HD:Hid ((Tryz.prog.underlying 61=some d∧d.isRow=true)∧Tryz.prog.underlying 121=some d'∧d'.isRow=true):=⟨⟨hd1,hd2⟩,hd3,hd4⟩
 clear hd1 hd2 hd3 hd4 hmer hn hX haz C O
 go_enter Tryz.func19,Tryz.ntmps19
 go_wp2_with (refine wpList_op (v:=.pointer (some ⟨w.heap.size,0,none⟩)) (w':=w1) rfl (.alloc 61) rfl ?_ ?_;(rw[← hw1.out];kernel_rfl))
 clear hw1
 refine (HM.out w1 K1.out.2).mono ?_
 rintro e w2 ⟨vv,rfl,hb2,q,cap,rfl,hT⟩
 have K2:Hid (Pz w w2 q k 0 ns az (.slice none 0 0) (.slice none 0 0)):=⟨K1.out.2.trans (hb2.mono K1.out.2.size),Lo.begin _ _ _,Lo.begin _ _ _,hT,K1.out.1.below hb2⟩
 clear hb2 hT K1 HM
 go_wp2_with fail
 go_loopg [3,4,12] k (fun m s3 s4 s12 W=>∃ i:Nat,i+m=k∧s12=.int .i64 i∧Hid (Pz w W q k i ns az s3 s4))
 case atStart=>exact ⟨0,by omega,rfl,K2⟩
 case round =>
  clear K2
  obtain ⟨i,hik,rfl,KM⟩:=hrel
  by_cases hi:i<k
  ·have hi':(i:Int)<(k:Int):=by omega
   obtain ⟨g,hq,hg,hr⟩:=KM.out.tm (by omega)
   subst hq
   obtain ⟨n,hne⟩:∃ n,Hid (ns i=n):=⟨_,rfl⟩
   obtain ⟨p,hpe⟩:∃ p,Hid (az i=p):=⟨_,rfl⟩
   have B0:Hid (wr.rangeAt g (37*i) (wn n++bl33 p)):=by
    have h:=hr i hi
    rw[hne.out,hpe.out] at h
    exact h
   have hps:Hid (p.size=33):=by rw[← hpe.out,haz'.out i];exact wr_size _
   have hnN:Hid (n<N):=by rw[← hne.out];exact HC.out.2.2.1 i hi
   obtain ⟨W1,hW1⟩:∃ W1,Hid (wr.alloc (.cells zT.toArray 121)=W1):=⟨_,rfl⟩
   obtain ⟨W2,hW2⟩:∃ W2,Hid (W1.setCells wr.heap.size 0 (wn n++bl33 p)=W2):=⟨_,rfl⟩
   have hlen:(wn n++bl33 p).length=37:=by rw[List.length_append,bl33_length hps.out];rfl
   have F1:Hid (Row W1 wr.heap.size zT∧Below wr.heap.size wr W1∧W1.heap.size=wr.heap.size+1):=by rw[← hW1.out];exact ⟨row_new wr _ _,below1 wr _,World.size_alloc _ _⟩
   have F2:Hid (Row W2 wr.heap.size (wn n++bl33 p)∧Below wr.heap.size wr W2):=by rw[← hW2.out];exact ⟨F1.out.1.put (by rw[hlen];rfl),RG.below_setCells (Nat.le_refl _) _ _ _ F1.out.2.1⟩
   have HLT:Hid ((Tryz.prog.info? 121).map (·.size)=some (wn n++bl33 p).length):=by show _=_;rw[hlen];exact iT
   have HLS:Hid ((Tryz.prog.info? 121).map (·.size)=some (wn n++bl33 p).toArray.size∧W1.there wr.heap.size 0 (wn n++bl33 p).toArray.size):=by
    have e:(wn n++bl33 p).toArray.size=37:=by rw[List.size_toArray];exact hlen
    rw[e];exact ⟨iT,F1.out.1.2.2⟩
   have HAL:Hid ((wn n++bl33 p).toArray.all (·.oneCell')=true):=by
    show _=_
    rw[Array.all_eq_true']
    intro u hu
    exact cells_one n p u (List.mem_toArray.1 hu)
   have hix:=atT g 0 k cap i hi
   obtain ⟨vt,hvt⟩:∃ v,Hid (Value.agg (wn n++bl33 p).toArray=v):=⟨_,rfl⟩
   have G2:Gr 0 (.slice none 0 0) wr W2:=Gr.of F2.out.2
   have HB:Hid (∀ b,PBs w u3 u4 wr.heap.size n W2.heap.size w.heap.size p ((List.range i).map fun j=>bx (ns j)) ((List.range i).map az) (some ⟨g,0,none⟩) k ns az b W2.drew):=fun b=>by
    match b with
    | 0=>exact F2.out.1
    | 1=>exact (KM.out.l3.kept (by decide) G2 (by decide)).drew
    | 2=>exact (KM.out.l4.kept (by decide) G2 (by decide)).drew
    | 3=>exact ⟨(KM.out.bl.trans (F2.out.2.mono KM.out.bl.size)).drew,Nat.le_trans KM.out.bl.size F2.out.2.size,Nat.le_refl _⟩
    | 4=>exact KM.out.tm.kept (W':=W2) G2
    | 5=>exact KM.out.r2.below (W':=W2) F2.out.2
    | _+6=>trivial
   have H3:Hid (∀ g,u3.ownBlock=some g→w.heap.size≤g∧g<W2.heap.size):=fun g hg=>⟨(KM.out.l3.lt g hg).1,Nat.lt_of_lt_of_le (KM.out.l3.lt g hg).2 F2.out.2.size⟩
   have H4:Hid (∀ g,u4.ownBlock=some g→w.heap.size≤g∧g<W2.heap.size):=fun g hg=>⟨(KM.out.l4.lt g hg).1,Nat.lt_of_lt_of_le (KM.out.l4.lt g hg).2 F2.out.2.size⟩
   have HG:=Hid.mk' hg
   clear hlen hr G2 KM F2 hg
   go_wp2_with (first|(refine wpList_load_mid rfl 121 _ rfl g (37*i) ?_ (wn n++bl33 p) d' ?_ ?_ ?_ ?_ ?_;rfl;exact B0.out;exact HD.out.2.1;exact HD.out.2.2;exact HLT.out;rw[hvt.out])|(refine wpList_op (v:=.pointer (some ⟨wr.heap.size,0,none⟩)) (w':=W1) rfl (.alloc 121) rfl ?_ ?_;(rw[← hW1.out];kernel_rfl))|(refine wpList_store_mid rfl 121 _ _ rfl wr.heap.size 0 (wn n++bl33 p).toArray ?_ ?_ ?_ ?_ ?_ ?_;rfl;exact hvt.out.symm;exact HLS.out.2;exact HLS.out.1;exact HAL.out;rw[show (wn n++bl33 p).toArray.toList=wn n++bl33 p from rfl,hW2.out])|fail)
   refine RG.flow_draws (FP w u3 u4 wr.heap.size n W2.heap.size w.heap.size p ((List.range i).map fun j=>bx (ns j)) ((List.range i).map az) (some ⟨g,0,none⟩) k ns az) (by kernel_rfl) ⟨by kernel_rfl,RG.certs_of ?_,fun i' j hi0 hj hij hkl hdp=>P_stab u3 u4 wr.heap.size n W2.heap.size w.heap.size p _ _ H3.out H4.out i' j hj hij hkl (fun h=>by rw[h.1,h.2] at hdp;exact absurd (show false=true from hdp.symm.trans (by kernel_rfl)) (by decide)) (fun h=>by rw[h.1,h.2] at hdp;exact absurd (show false=true from hdp.symm.trans (by kernel_rfl)) (by decide)),fun i' b _ hkl=>P_stabB w u3 u4 wr.heap.size n W2.heap.size w.heap.size p _ _ _ k ns az H3.out H4.out i' b hkl⟩ HB.out ?_
   ·have hb0:∀ W:World,Gr 0 (.slice none 0 0) W W:=fun W=>Gr.of (Below.refl _ _)
    refine ⟨RG.cf_one 3 fun a W hp=>⟨a.eval (.tmp 3),W,by kernel_rfl,by kernel_rfl,hb0 W,hp.o 3 (by kernel_rfl)⟩,
     RG.cf_one 6 fun a W hp=>⟨.pointer (some ⟨wr.heap.size,0,none⟩),W,by kernel_rfl,by rw[show a.eval (.tmp 6)=.pointer (some ⟨wr.heap.size,0,none⟩) from hp.o 6 (by kernel_rfl)];kernel_rfl,hb0 W,rfl⟩,
     RG.cf_load 52 17 rfl u40 fun a W hp=>⟨wr.heap.size,0,wn n,hp.n 1 17 (by kernel_rfl) (by kernel_rfl) (by kernel_rfl),range_front (show Row W wr.heap.size (wn n++bl33 p) from hp.b 0 (by kernel_rfl)).2.1,i40,hb0 W,rfl⟩,
     RG.cf_call 18 fun a W hp=>⟨50,#[nv n],by kernel_rfl,by rw[show a.eval (.tmp 18)=nv n from hp.n 2 18 (by kernel_rfl) (by kernel_rfl) (by kernel_rfl)];kernel_rfl,(sbytes_c HC.out.2.1 hnN.out W).mono (by
      rintro e W' ⟨u,rfl,k',hm,rfl⟩
      exact ⟨_,rfl,Gr.of hm.bel,El.of_made hm (bx_size n)⟩)⟩,
     RG.cf_one 19 fun a W hp=>⟨.slice (some ⟨W.heap.size,0,none⟩) 1 1,W.alloc (.cells #[a.eval (.tmp 19)] 23),by kernel_rfl,by
      obtain ⟨k',c',he,-⟩:=show El 32 W (a.eval (.tmp 19)) (bx n) from hp.n 3 19 (by kernel_rfl) (by kernel_rfl) (by kernel_rfl)
      rw[he];kernel_rfl,Gr.of (below1 W _),Bo.of (show El 32 W (a.eval (.tmp 19)) (bx n) from hp.n 3 19 (by kernel_rfl) (by kernel_rfl) (by kernel_rfl)) (by decide) (hp.b 3 (by kernel_rfl)).2.2 _⟩,
     RG.cf_app 16 20 22 rfl fun a W hp=>?_,
     RG.cf_one 4 fun a W hp=>⟨a.eval (.tmp 4),W,by kernel_rfl,by kernel_rfl,hb0 W,hp.o 4 (by kernel_rfl)⟩,
     RG.cf_one 6 fun a W hp=>⟨.pointer (some ⟨wr.heap.size,4,none⟩),W,by kernel_rfl,by rw[show a.eval (.tmp 6)=.pointer (some ⟨wr.heap.size,0,none⟩) from hp.o 6 (by kernel_rfl)];kernel_rfl,hb0 W,rfl⟩,
     RG.cf_load 61 23 rfl uCP fun a W hp=>⟨wr.heap.size,4,bl33 p,hp.n 7 23 (by kernel_rfl) (by kernel_rfl) (by kernel_rfl),range_back (xs:=wn n) (show Row W wr.heap.size (wn n++bl33 p) from hp.b 0 (by kernel_rfl)).2.1,by rw[bl33_length hps.out];exact infoCP,hb0 W,rfl⟩,
     RG.cf_call 24 fun a W hp=>⟨20,#[pvl p],by kernel_rfl,by rw[show a.eval (.tmp 24)=pvl p from hp.n 8 24 (by kernel_rfl) (by kernel_rfl) (by kernel_rfl)];kernel_rfl,(ptBytes_c hps.out W).mono (by
      rintro e W' ⟨u,rfl,hb,hE⟩
      exact ⟨_,rfl,Gr.of hb,hE⟩)⟩,
     RG.cf_one 25 fun a W hp=>⟨.slice (some ⟨W.heap.size,0,none⟩) 1 1,W.alloc (.cells #[a.eval (.tmp 25)] 23),by kernel_rfl,by
      obtain ⟨k',c',he,-⟩:=show El 33 W (a.eval (.tmp 25)) p from hp.n 9 25 (by kernel_rfl) (by kernel_rfl) (by kernel_rfl)
      rw[he];kernel_rfl,Gr.of (below1 W _),Bo.of (show El 33 W (a.eval (.tmp 25)) p from hp.n 9 25 (by kernel_rfl) (by kernel_rfl) (by kernel_rfl)) (by decide) (hp.b 3 (by kernel_rfl)).2.2 _⟩,
     RG.cf_app 22 26 22 rfl fun a W hp=>?_,
     RG.cf_one 21 fun a W hp=>⟨a.eval (.tmp 21),W,by kernel_rfl,by kernel_rfl,hb0 W,hp.n 5 21 (by kernel_rfl) (by kernel_rfl) (by kernel_rfl)⟩,
     RG.cf_one 27 fun a W hp=>⟨a.eval (.tmp 27),W,by kernel_rfl,by kernel_rfl,hb0 W,hp.n 11 27 (by kernel_rfl) (by kernel_rfl) (by kernel_rfl)⟩,trivial⟩
    ·obtain ⟨k',x,he,h1,h2,h3,h4⟩:=show Bo 32 W2.heap.size W (a.eval (.tmp 20)) (bx n) from hp.n 4 20 (by kernel_rfl) (by kernel_rfl) (by kernel_rfl)
     obtain ⟨v',W',r1,r2,r3⟩:=Lo.app (show Lo 32 w.heap.size W u3 _ from hp.b 1 (by kernel_rfl)) (by decide) h4 h3 (by rw[List.length_map,List.length_range];omega) (hp.b 3 (by kernel_rfl)).2.1
     refine ⟨v',W',?_,r3,r2⟩
     rw[he,show a.eval (.tmp 16)=u3 from hp.n 0 16 (by kernel_rfl) (by kernel_rfl) (by kernel_rfl)]
     exact r1
    ·obtain ⟨k',x,he,h1,h2,h3,h4⟩:=show Bo 33 W2.heap.size W (a.eval (.tmp 26)) p from hp.n 10 26 (by kernel_rfl) (by kernel_rfl) (by kernel_rfl)
     obtain ⟨v',W',r1,r2,r3⟩:=Lo.app (show Lo 33 w.heap.size W u4 _ from hp.b 2 (by kernel_rfl)) (by decide) h4 h3 (by rw[List.length_map,List.length_range];omega) (hp.b 3 (by kernel_rfl)).2.1
     refine ⟨v',W',?_,r3,r2⟩
     rw[he,show a.eval (.tmp 22)=u4 from hp.n 6 22 (by kernel_rfl) (by kernel_rfl) (by kernel_rfl)]
     exact r1
   ·intro V w5 hR5 hB5
    have KN:Hid (Pz w w5 (some ⟨g,0,none⟩) k (i+1) ns az (V 12) (V 13)):=by
     have h1:=hR5 12 (Nat.lt_of_succ_le (Nat.le_of_ble_eq_true (by kernel_rfl))) rfl
     have h2:=hR5 13 (Nat.lt_of_succ_le (Nat.le_of_ble_eq_true (by kernel_rfl))) rfl
     refine ⟨(hB5 3 rfl).1,?_,?_,hB5 4 rfl,hB5 5 rfl⟩
     ·rw[List.range_succ,List.map_append]
      show Lo 32 w.heap.size w5 (V 12) (_++[bx (ns i)])
      rw[hne.out];exact h1
     ·rw[List.range_succ,List.map_append]
      show Lo 33 w.heap.size w5 (V 13) (_++[az i])
      rw[hpe.out];exact h2
    clear hR5 hB5 HB H3 H4
    dsimp only[RG.putV,Nat.reduceAdd]
    generalize V 12=s3 at KN ⊢
    generalize V 13=s4 at KN ⊢
    go_wp2
    go_roundg (gk-1)
    case measure=>omega
    case rel=>exact ⟨i+1,by omega,rfl,KN⟩
  ·have hi':¬ (i:Int)<(k:Int):=by omega
   obtain rfl:i=k:=by omega
   obtain ⟨q3,c3,rfl,h3⟩:=KM.out.l3.args
   obtain ⟨q4,c4,rfl,h4⟩:=KM.out.l4.args
   rw[List.length_map,List.length_range] at h3 h4
   have HA:Hid (ArgsScs wr q3 i (fun j=>bx (ns j))):=fun h0=>by
    obtain ⟨g,e1,e2,e3⟩:=h3 h0
    refine ⟨g,e1,e2,fun j hj=>?_⟩
    obtain ⟨x,x1,x2⟩:=e3 j (bx (ns j)) (by rw[List.getElem?_map,List.getElem?_range hj];rfl)
    exact ⟨x,x1,x2.arg⟩
   have HP:Hid (ArgsPts wr q4 i az):=fun h0=>by
    obtain ⟨g,e1,e2,e3⟩:=h4 h0
    refine ⟨g,e1,e2,fun j hj=>?_⟩
    obtain ⟨x,x1,x2⟩:=e3 j (az j) (by rw[List.getElem?_map,List.getElem?_range hj];rfl)
    exact ⟨x,x1,x2.arg33⟩
   rw[List.length_map,List.length_range,List.length_map,List.length_range]
   have KB:Hid (Below w.heap.size w wr∧Row wr w.heap.size z33):=⟨KM.out.bl,KM.out.r2⟩
   clear h3 h4 KM
   go_wp2_with fail
   refine (gSum_c HC.out.1 HC.out.2.1.gap HC.out.2.1.le q3 q4 i c3 i c4 (fun j=>bx (ns j)) az wr HA.out HP.out).mono ?_
   rintro e w6 ⟨vv,rfl,hb6,hS⟩
   obtain ⟨gs,cs,rfl,-,-,h6,h7⟩:=SumR.all HC.out.1 HC.out.2.1 (by omega) HC.out.2.2.1 HC.out.2.2.2 (fun _ _=>rfl) (fun j _=>haz'.out j) hS
   obtain ⟨T,hT⟩:∃ T,Hid (Go.Proofs.YtnfpdihkjkimiaaGreat.wr (EC.tot X i (fun j=>(ns j:Int)))=T):=⟨_,rfl⟩
   have hTs:T.size=33:=by rw[← hT.out];exact wr_size _
   rw[hT.out] at h7
   have K6:Hid (Row w6 w.heap.size z33∧Below w.heap.size w w6∧Row w6 gs (bl33 T)):=⟨KB.out.2.below hb6,KB.out.1.trans (hb6.mono KB.out.1.size),row_cp h7 h6⟩
   clear hb6 hS h6 h7 KB HA HP
   have harr:=arrCP gs cs
   obtain ⟨w7,hw7⟩:∃ w7,Hid (w6.setCells w.heap.size 0 (bl33 T)=w7):=⟨_,rfl⟩
   have hlen:(bl33 T).length=33:=bl33_length hTs
   have K7:Hid (Row w7 w.heap.size (bl33 T)∧Below w.heap.size w w7):=by rw[← hw7.out];exact ⟨K6.out.1.put (by rw[hlen];rfl),RG.below_setCells (Nat.le_refl _) _ _ _ K6.out.2.1⟩
   obtain ⟨vt,hvt⟩:∃ vt,Hid (Value.agg (bl33 T).toArray=vt):=⟨_,rfl⟩
   have HI:Hid ((Tryz.prog.info? 61).map (·.size)=some (bl33 T).length∧w6.there w.heap.size 0 (bl33 T).toArray.size∧(Tryz.prog.info? 61).map (·.size)=some (bl33 T).toArray.size):=by
    have e:(bl33 T).toArray.size=33:=by rw[List.size_toArray];exact hlen
    refine ⟨by rw[hlen];exact infoCP,by rw[e];exact K6.out.1.2.2,by rw[e];exact infoCP⟩
   clear hlen
   go_wp2_with (first|(refine wpList_load_mid rfl 61 _ rfl gs 0 ?_ (bl33 T) d ?_ ?_ ?_ ?_ ?_;rfl;exact K6.out.2.2.2.1;exact HD.out.1.1;exact HD.out.1.2;exact HI.out.1;rw[hvt.out])|(refine wpList_store_mid rfl 61 _ _ rfl w.heap.size 0 (bl33 T).toArray ?_ ?_ ?_ ?_ ?_ ?_;rfl;exact hvt.out.symm;exact HI.out.2.1;exact HI.out.2.2;exact bl33_one T;rw[show (bl33 T).toArray.toList=bl33 T from rfl,hw7.out]))
   refine bodyPost_ret (results_cell 2 61 rfl K7.out.1 rfl uCP HI.out.1) rfl ?_
   exact ⟨_,rfl,K7.out.2,by rw[hT.out];rfl⟩
end
namespace EC
variable {P:Nat} [NeZero P]
def pts (P:Nat) [NeZero P]:List (Pt P):=
 none :: (List.finRange P).flatMap fun x=>((List.finRange P).filter fun y=>decide (y^2=x^3+7)).map fun y=>some (x,y)
theorem mem_pts (a:Pt P):a∈pts P↔On a:=by
 unfold pts
 rcases a with _|⟨x,y⟩
 ·exact ⟨fun _=>trivial,fun _=>List.mem_cons_self⟩
 ·rw[List.mem_cons,List.mem_flatMap]
  constructor
  ·rintro (h|⟨u,-,h⟩)
   ·cases h
   ·obtain ⟨v,hv,e⟩:=List.mem_map.1 h
    cases e
    have h2:=(List.mem_filter.1 hv).2
    exact (decide_eq_true_iff (p:=y^2=x^3+7)).1 h2
  ·intro h
   have h:y^2=x^3+7:=h
   exact Or.inr ⟨x,List.mem_finRange x,List.mem_map.2 ⟨y,List.mem_filter.2 ⟨List.mem_finRange y,decide_eq_true h⟩,rfl⟩⟩
theorem nodup_pts:(pts P).Nodup:=by
 unfold pts
 refine List.nodup_cons.2 ⟨fun h=>?_,?_⟩
 ·obtain ⟨u,-,h⟩:=List.mem_flatMap.1 h
  obtain ⟨v,-,e⟩:=List.mem_map.1 h
  cases e
 ·refine List.pairwise_flatMap.2 ⟨fun x _=>List.pairwise_map.2 ?_,?_⟩
  ·refine List.Pairwise.imp ?_ ((List.nodup_finRange P).sublist List.filter_sublist)
   intro a b h e
   exact h (by cases e;rfl)
  ·refine List.Pairwise.imp ?_ (List.nodup_finRange P)
   intro a b h u hu v hv e
   obtain ⟨c,-,rfl⟩:=List.mem_map.1 hu
   obtain ⟨d,-,rfl⟩:=List.mem_map.1 hv
   exact h (by cases e;rfl)
theorem sq_diff {u v c:Fin P} (hu:u^2=c) (hv:v^2=c):(u-v)*(u+v)=0:=by grobner
theorem opp_one {a b d:Fin P} (e1:a+b=0) (e2:a+d=0):b=d:=by grobner
theorem two_roots (C:Cur P) {c:Fin P}:∀ l:List (Fin P),l.Nodup→(∀ y,y∈l→y^2=c)→l.length≤2
 | [],_,_=>Nat.zero_le _
 | [_],_,_=>Nat.le_succ _
 | [_,_],_,_=>Nat.le_refl _
 | a :: b :: d :: l,hn,h=>by
  exfalso
  have ha:a^2=c:=h a (by simp)
  have hb:b^2=c:=h b (by simp)
  have hd:d^2=c:=h d (by simp)
  have n1:a≠b:=fun e=>(List.nodup_cons.1 hn).1 (by rw[e];simp)
  have n2:a≠d:=fun e=>(List.nodup_cons.1 hn).1 (by rw[e];simp)
  have n3:b≠d:=fun e=>(List.nodup_cons.1 (List.nodup_cons.1 hn).2).1 (by rw[e];simp)
  have f:∀ u v:Fin P,u^2=c→v^2=c→u≠v→u+v=0:=fun u v hu hv hn=>by
   exact Classical.byContradiction fun hs=>mul_ne C.pr (sub_ne hn) hs (sq_diff hu hv)
  have e1:=f a b ha hb n1
  have e2:=f a d ha hd n2
  exact n3 (opp_one e1 e2)
theorem flat_len {α β:Type} (f:α→List β) (k:Nat) (h:∀ a,(f a).length≤k):∀ l:List α,(l.flatMap f).length≤k*l.length
 | []=>Nat.zero_le _
 | a :: l=>by
  rw[List.flatMap_cons,List.length_append,List.length_cons,Nat.mul_succ,Nat.add_comm]
  exact Nat.add_le_add (flat_len f k h l) (h a)
theorem len_pts (C:Cur P):(pts P).length≤2*P+1:=by
 unfold pts
 rw[List.length_cons]
 refine Nat.succ_le_succ (Nat.le_trans (flat_len _ 2 (fun x=>?_) _) (by rw[List.length_finRange];exact Nat.le_refl _))
 rw[List.length_map]
 exact two_roots C (c:=x^3+7) _ ((List.nodup_finRange P).sublist List.filter_sublist) fun y hy=>of_decide_eq_true (List.mem_filter.1 hy).2
theorem pts_pos:0<(pts P).length:=Nat.succ_pos _
def lsum:List (Pt P)→Pt P
 | []=>none
 | a :: l=>add a (lsum l)
theorem lsum_on (C:Cur P):∀ l:List (Pt P),(∀ a,a∈l→On a)→On (lsum l)
 | [],_=>none_on
 | a :: l,h=>C.on (h a List.mem_cons_self) (lsum_on C l fun b hb=>h b (List.mem_cons_of_mem _ hb))
theorem lsum_perm (C:Cur P) {l m:List (Pt P)} (p:l.Perm m):(∀ a,a∈l→On a)→lsum l=lsum m:=by
 induction p with
 | nil=>intro _;rfl
 | cons x _ ih =>
  intro h
  show add x _=add x _
  rw[ih fun b hb=>h b (List.mem_cons_of_mem _ hb)]
 | swap x y l =>
  intro h
  have hy:=h y List.mem_cons_self
  have hx:=h x (List.mem_cons_of_mem _ List.mem_cons_self)
  have hl:=lsum_on C l fun b hb=>h b (List.mem_cons_of_mem _ (List.mem_cons_of_mem _ hb))
  show add y (add x (lsum l))=add x (add y (lsum l))
  rw[← C.assoc hy hx hl,C.comm hy hx,C.assoc hx hy hl]
 | trans p _ ih1 ih2 =>
  intro h
  rw[ih1 h,ih2 fun a ha=>h a (p.mem_iff.2 ha)]
theorem lsum_shift (C:Cur P) {r:Pt P} (hr:On r):∀ l:List (Pt P),(∀ a,a∈l→On a)→lsum (l.map fun a=>add a r)=add (lsum l) (mul l.length r)
 | [],_=>rfl
 | a :: l,h=>by
  have ha:=h a List.mem_cons_self
  have hl:∀ b,b∈l→On b:=fun b hb=>h b (List.mem_cons_of_mem _ hb)
  show add (add a r) (lsum (l.map _))=add (add a (lsum l)) (add (mul l.length r) r)
  rw[lsum_shift C hr l hl,C.comm (mul_on C hr _) hr,C.swap ha hr (lsum_on C l hl) (mul_on C hr _)]
theorem add_cancel (C:Cur P) {a b r:Pt P} (ha:On a) (hb:On b) (hr:On r) (e:add a r=add b r):a=b:=by
 have:add (add a r) (neg r)=add (add b r) (neg r):=by rw[e]
 rwa[C.assoc ha hr (neg_on hr),C.assoc hb hr (neg_on hr),add_neg,add_none,add_none] at this
theorem shift_perm (C:Cur P) {r:Pt P} (hr:On r):((pts P).map fun a=>add a r).Perm (pts P):=by
 refine (List.perm_ext_iff_of_nodup ?_ nodup_pts).2 fun a=>?_
 ·refine List.pairwise_map.2 (List.Pairwise.imp_of_mem ?_ (nodup_pts (P:=P)))
  intro a b ha hb h e
  exact h (add_cancel C ((mem_pts a).1 ha) ((mem_pts b).1 hb) hr e)
 ·rw[mem_pts,List.mem_map]
  constructor
  ·rintro ⟨b,hb,rfl⟩
   exact C.on ((mem_pts b).1 hb) hr
  ·intro ha
   refine ⟨add a (neg r),(mem_pts _).2 (C.on ha (neg_on hr)),?_⟩
   rw[C.assoc ha (neg_on hr) hr,C.neg_l hr,add_none]
theorem mul_pts (C:Cur P) {r:Pt P} (hr:On r):mul (pts P).length r=none:=by
 have h0:∀ a,a∈pts P→On a:=fun a ha=>(mem_pts a).1 ha
 have h1:=lsum_shift C hr (pts P) h0
 rw[lsum_perm C (shift_perm C hr) fun a ha=>(mem_pts a).1 ((shift_perm C hr).mem_iff.1 ha)] at h1
 have hs:=lsum_on C (pts P) h0
 have hm:=mul_on C hr (pts P).length
 have h2:add (mul (pts P).length r) (lsum (pts P))=add none (lsum (pts P)):=by
  rw[C.comm hm hs,← h1,none_add]
 exact add_cancel C hm none_on hs h2
theorem mul_mul (C:Cur P) {a:Pt P} (ha:On a) (m:Nat):∀ n,mul (m*n) a=mul n (mul m a)
 | 0=>rfl
 | n+1=>by
  rw[Nat.mul_succ,mul_add C ha,mul_mul C ha m n]
  rfl
theorem mul_none:∀ n,mul n (none:Pt P)=none
 | 0=>rfl
 | n+1=>by
  show add (mul n none) none=none
  rw[mul_none n]
  rfl
theorem twice_none (C:Cur P) {a:Pt P} (ha:On a) (e:add a a=none):a=none:=by
 rcases a with _|⟨x,y⟩
 ·rfl
 ·exfalso
  have ho:=C.opp_ne ha
  rw[add_line C.pr C.two ha ha ho (slope_line C.pr C.two ha ha ho)] at e
  cases e
theorem order_of (C:Cur P) {n:Nat} (hn:NT.IsP n) (h3:2*P+1<3*n) {g:Pt P} (hg:On g) (h0:g≠none) (hz:mul n g=none) {r:Pt P} (hr:On r):mul n r=none:=by
 have hd:n ∣ (pts P).length:=Classical.byContradiction fun hd=>by
  have h1:=hn.fermat1 _ hd
  have h2:mul ((pts P).length^(n-1)) g=none:=by
   have:n-1=(n-2)+1:=by have:=hn.1;omega
   rw[this,Nat.pow_succ,Nat.mul_comm,mul_mul C hg,mul_pts C hg,mul_none]
  have h4:=Nat.div_add_mod ((pts P).length^(n-1)) n
  rw[h1] at h4
  rw[← h4,mul_add C hg,mul_mul C hg,hz,mul_none,none_add] at h2
  exact h0 h2
 obtain ⟨c,hc⟩:=hd
 have hl:=len_pts C
 have hp:=pts_pos (P:=P)
 have hm:=mul_pts C hr
 rw[hc] at hl hp hm
 have hc3:c<3:=Nat.lt_of_mul_lt_mul_left (a:=n) (by omega)
 match c,hc3 with
 | 0,_=>omega
 | 1,_=>rwa[Nat.mul_one] at hm
 | 2,_ =>
  rw[mul_mul C hr] at hm
  exact twice_none C (mul_on C hr n) hm
end EC
section
open Go.RowKit Go.Sort Go.Deep
variable {P:Nat} [NeZero P] {N:Nat}
def unwr (P:Nat) [NeZero P] (b:Bs):EC.Pt P:=match rd P b with|some p=>pt p|none=>none
theorem unwr_wr (C:Fld P) {X:EC.Pt P} (h:EC.On X):unwr P (wr X)=X:=by
 obtain ⟨p,h1,h2⟩:=rd_wr C h
 unfold unwr
 rw[h1]
 exact h2
def sumL (P:Nat) [NeZero P]:List (Nat × Bs)→EC.Pt P
 | []=>none
 | x :: r=>EC.add (EC.mul x.1 (unwr P x.2)) (sumL P r)
def PtsL (P:Nat) [NeZero P] (l:List (Nat × Bs)):Prop:=∀ x∈l,∃ X:EC.Pt P,EC.On X∧x.2=wr X
theorem PtsL.on (C:Fld P) {l:List (Nat × Bs)} (h:PtsL P l) {x:Nat × Bs} (hx:x∈l):EC.On (unwr P x.2):=by
 obtain ⟨X,h1,h2⟩:=h x hx
 rw[h2,unwr_wr C h1];exact h1
theorem sumL_on (C:Fld P):∀ {l:List (Nat × Bs)},PtsL P l→EC.On (sumL P l)
 | [],_=>EC.none_on
 | x :: r,h=>C.cur.on (EC.mul_on C.cur (h.on C List.mem_cons_self) _) (sumL_on C fun y hy=>h y (List.mem_cons_of_mem _ hy))
theorem sumL_snoc (C:Fld P) (y:Nat × Bs) (hy:EC.On (unwr P y.2)):∀ {l:List (Nat × Bs)},PtsL P l→sumL P (l++[y])=EC.add (sumL P l) (EC.mul y.1 (unwr P y.2))
 | [],_=>EC.add_none _
 | x :: r,h=>by
  have hr:PtsL P r:=fun z hz=>h z (List.mem_cons_of_mem _ hz)
  show EC.add (EC.mul x.1 (unwr P x.2)) (sumL P (r++[y]))=_
  rw[sumL_snoc C y hy hr]
  exact (C.cur.assoc (EC.mul_on C.cur (h.on C List.mem_cons_self) _) (sumL_on C hr) (EC.mul_on C.cur hy _)).symm
theorem sumL_LF:∀ l:List (Nat × Bs),sumL P (LF l)=sumL P l
 | []=>rfl
 | x :: r=>by
  unfold LF
  rw[List.filter_cons]
  by_cases h:x.1=0
  ·rw[if_neg (by simp[h])]
   show sumL P (LF r)=EC.add (EC.mul x.1 (unwr P x.2)) (sumL P r)
   rw[h,sumL_LF r]
   rfl
  ·rw[if_pos (by simp[h])]
   show EC.add _ (sumL P (LF r))=EC.add _ (sumL P r)
   rw[sumL_LF r]
theorem mul_mod (C:Fld P) (hord:∀ r:EC.Pt P,EC.On r→EC.mul N r=none) {X:EC.Pt P} (hX:EC.On X) (n:Nat):EC.mul (n%N) X=EC.mul n X:=by
 have h:=EC.mul_add C.cur hX (N*(n/N)) (n%N)
 rw[Nat.div_add_mod,EC.mul_mul C.cur hX N (n/N),hord X hX,EC.mul_none,EC.none_add] at h
 exact h.symm
theorem sumL_addT (C:Fld P) (hord:∀ r:EC.Pt P,EC.On r→EC.mul N r=none) (n:Nat) (p:Bs) (hp:EC.On (unwr P p)):∀ {l:List (Nat × Bs)},PtsL P l→sumL P (addT N l n p)=EC.add (sumL P l) (EC.mul n (unwr P p))
 | [],_=>EC.add_none _
 | (s,q) :: r,h=>by
  have hr:PtsL P r:=fun z hz=>h z (List.mem_cons_of_mem _ hz)
  have hq:=h.on C (x:=(s,q)) List.mem_cons_self
  have h1:=EC.mul_on C.cur hq s
  have h2:=sumL_on C hr
  have h3:=EC.mul_on C.cur hp n
  unfold addT
  by_cases e:p=q
  ·rw[if_pos e]
   subst e
   show EC.add (EC.mul (sPl N s n) (unwr P p)) (sumL P r)=EC.add (EC.add (EC.mul s (unwr P p)) (sumL P r)) (EC.mul n (unwr P p))
   unfold sPl
   rw[mul_mod C hord hp,EC.mul_add C.cur hp,C.cur.assoc h1 h3 h2,C.cur.assoc h1 h2 h3,C.cur.comm h3 h2]
  ·rw[if_neg e]
   show EC.add (EC.mul s (unwr P q)) (sumL P (addT N r n p))=EC.add (EC.add (EC.mul s (unwr P q)) (sumL P r)) (EC.mul n (unwr P p))
   rw[sumL_addT C hord n p hp hr,C.cur.assoc h1 h2 h3]
theorem addT_pt {n:Nat} {p:Bs} (hp:∃ X:EC.Pt P,EC.On X∧p=wr X):∀ {l:List (Nat × Bs)},PtsL P l→PtsL P (addT N l n p)
 | [],_=>fun x hx=>by
  have:x=(n,p):=by simpa[addT] using hx
  rw[this];exact hp
 | (s,q) :: r,h=>by
  have hr:PtsL P r:=fun z hz=>h z (List.mem_cons_of_mem _ hz)
  unfold addT
  split
  ·intro x hx
   rcases List.mem_cons.1 hx with rfl|hx
   ·exact h (s,q) List.mem_cons_self
   ·exact hr x hx
  ·intro x hx
   rcases List.mem_cons.1 hx with rfl|hx
   ·exact h (s,q) List.mem_cons_self
   ·exact addT_pt hp hr x hx
theorem mrg_pts (ns:Nat→Nat) (X:Nat→EC.Pt P) {k:Nat} (hX:∀ j,j<k→EC.On (X j)):∀ i,i≤k→PtsL P (mrg N ns (fun j=>wr (X j)) i)
 | 0,_=>fun x hx=>by cases hx
 | i+1,hi=>addT_pt ⟨X i,hX i (by omega),rfl⟩ (mrg_pts ns X hX i (by omega))
theorem mrg_sum (C:Fld P) (hord:∀ r:EC.Pt P,EC.On r→EC.mul N r=none) (ns:Nat→Nat) (X:Nat→EC.Pt P) {k:Nat} (hX:∀ j,j<k→EC.On (X j)):∀ i,i≤k→sumL P (mrg N ns (fun j=>wr (X j)) i)=EC.tot X i (fun j=>(ns j:Int))
 | 0,_=>rfl
 | i+1,hi=>by
  have hi':=hX i (by omega)
  show sumL P (addT N (mrg N ns (fun j=>wr (X j)) i) (ns i) (wr (X i)))=EC.add (EC.tot X i (fun j=>(ns j:Int))) (EC.mul (ns i) (X i))
  rw[sumL_addT C hord _ _ (by rw[unwr_wr C hi'];exact hi') (mrg_pts ns X hX i (by omega)),mrg_sum C hord ns X hX i (by omega),unwr_wr C hi']
theorem tot_sumL (C:Fld P) (l:List (Nat × Bs)) (h:PtsL P l):∀ i,i≤l.length→EC.tot (fun j=>unwr P ((l[j]?).getD (0,#[])).2) i (fun j=>(((l[j]?).getD (0,#[])).1:Int))=sumL P (l.take i)
 | 0,_=>by rw[List.take_zero];rfl
 | i+1,hi=>by
  have hlt:i<l.length:=by omega
  show EC.add (EC.tot _ i _) (EC.mul ((l[i]?).getD (0,#[])).1 (unwr P ((l[i]?).getD (0,#[])).2))=_
  rw[tot_sumL C l h i (by omega),List.take_add_one,List.getElem?_eq_getElem hlt]
  exact (sumL_snoc C (l[i]) (h.on C (List.getElem_mem hlt)) fun x hx=>h x (List.mem_of_mem_take hx)).symm
theorem sumPoint_c (C:Fld P) (O:Ord N) (hord:∀ r:EC.Pt P,EC.On r→EC.mul N r=none) (g k c:Nat) (hk0:0<k) (hk:k≤512) (ns:Nat→Nat) (X:Nat→EC.Pt P) (hn:∀ j,j<k→ns j<N) (hX:∀ j,j<k→EC.On (X j)) (w:World) (hg:g<w.heap.size) (hr:∀ j,j<k→w.rangeAt g (37*j) (wn (ns j)++bl33 (wr (X j)))) :
 Calls Tryz.prog 19 #[.slice (some ⟨g,0,none⟩) k c] w (Ret fun e w'=>Below w.heap.size w w'∧e=pvl (wr (EC.tot X k (fun j=>(ns j:Int))))):=by
 have hM:=mrg_pts (N:=N) ns X hX k (Nat.le_refl _)
 have hlt:=mrg_lt O ns (fun j=>wr (X j)) hn k (Nat.le_refl _)
 have hsz:=mrg_size (N:=N) ns (fun j=>wr (X j)) (k:=k) (fun j _=>wr_size _) k (Nat.le_refl _)
 have hle:=mrg_len (N:=N) ns (fun j=>wr (X j)) k
 have hsum:=mrg_sum C hord ns X hX k (Nat.le_refl _)
 have hpos:0<(mrg N ns (fun j=>wr (X j)) k).length:=by
  obtain ⟨k',rfl⟩:∃ k',k=k'+1:=⟨k-1,by omega⟩
  show 0<(addT N _ _ _).length
  cases mrg N ns (fun j=>wr (X j)) k' with
  | nil=>exact Nat.lt_succ_self 0
  | cons x r=>unfold addT;split<;>simp
 have hmer:=fun W (hb:Below w.heap.size w W)=>merged_a O (fun e w'=>Below W.heap.size W w'∧∃ q cap,e=.slice q (LF (mrg N ns (fun j=>wr (X j)) k)).length cap∧TmL w' q (LF (mrg N ns (fun j=>wr (X j)) k))) g k c (by omega) ns (fun j=>wr (X j)) (fun j _=>wr_size _) hn W (Nat.lt_of_lt_of_le hg hb.size) (fun j hj=>RG.range_below (hr j hj) hb hg) (fun W' v hMx=>by
  refine (delete_c _ hpos (by omega) hsz (fun x hx=>Nat.lt_of_lt_of_le (hlt x hx) O.le) W.heap.size v W' hMx.bl.size hMx.ow).mono ?_
  rintro e w' ⟨u,rfl,hb',hT⟩
  exact ⟨_,rfl,hMx.bl.trans hb',hT⟩)
 generalize mrg N ns (fun j=>wr (X j)) k=L at hM hlt hsz hle hsum hpos hmer
 have hF:PtsL P (LF L):=fun x hx=>hM x (LF_mem hx)
 have hFl:(LF L).length≤L.length:=List.length_filter_le _ _
 refine (sumPoint_g C O _ w (LF L).length (by omega) (fun j=>(((LF L)[j]?).getD (0,#[])).1) (fun j=>unwr P (((LF L)[j]?).getD (0,#[])).2) (fun j hj=>by rw[List.getElem?_eq_getElem hj];exact hlt _ (LF_mem (List.getElem_mem hj))) (fun j hj=>by rw[List.getElem?_eq_getElem hj];exact hF.on C (List.getElem_mem hj)) fun W hb=>?_).mono ?_
 ·refine (hmer W hb).mono ?_
  rintro e w' ⟨u,rfl,hb',q,cap,rfl,hT⟩
  refine ⟨_,rfl,hb',q,cap,rfl,fun h0=>?_⟩
  obtain ⟨g',e1,e2,e3⟩:=hT h0
  refine ⟨g',e1,e2,fun j hj=>?_⟩
  have h5:=e3 j hj
  obtain ⟨Y,y1,y2⟩:=hF _ (List.getElem_mem hj)
  show w'.rangeAt g' (37*j) (wn (((LF L)[j]?).getD (0,#[])).1++bl33 (wr (unwr P (((LF L)[j]?).getD (0,#[])).2)))
  rw[List.getElem?_eq_getElem hj]
  show w'.rangeAt g' (37*j) (wn ((LF L)[j]).1++bl33 (wr (unwr P ((LF L)[j]).2)))
  rw[y2,unwr_wr C y1,← y2]
  exact h5
 ·rintro e w' ⟨u,rfl,hb',rfl⟩
  refine ⟨_,rfl,hb',?_⟩
  rw[tot_sumL C (LF L) hF _ (Nat.le_refl _),List.take_length,sumL_LF,hsum]
theorem undI:Tryz.prog.underlying 3=some (.int .i64):=by kernel_rfl
theorem atB (k o n c i:Nat) (hi:i<n) (w:World):(Instr.indexAt 22 (.slice (some ⟨k,o,none⟩) n c) (.int .i64 i)).run Tryz.prog w=.ok (.pointer (some ⟨k,o+1*i,none⟩)) w:=by
 have h1:¬ (i:Int)<0:=by omega
 have h2:(i:Int)<n:=by omega
 go_simp
end
section
open Go.RowKit Go.Sort Go.Deep Go.Shelf
attribute [local go_sem] Oper.semAt_some
variable {P:Nat} [NeZero P]
theorem grown_b {w w':World} (h:Below w.heap.size w w') (row:Option Nat):w.grownBy w' row:=⟨h.os,h.tape,h.output,h.size,fun k hk _=>h.block k hk⟩
theorem holds_lt {w:World} {g o:Nat} {bs:Bs} (h:Holds encB w g o bs) (hs:0<bs.size):g<w.heap.size:=by
 obtain ⟨ob,ho,-⟩:=cells_of_cell (h 0 hs).1
 exact (Array.getElem?_eq_some_iff.1 ho).1
noncomputable def cand (P:Nat) [NeZero P] (lab:ByteArray) (b:List UInt8) (i:Nat):Option (Fin P × Fin P):=
 if beV (SP.tagL ((⟨#[112,111,105,110,116,32]⟩:ByteArray)++lab).data.toList [b,[UInt8.ofNat i]]).toList<P then
  (rt (Fin.ofNat P (beV (SP.tagL ((⟨#[112,111,105,110,116,32]⟩:ByteArray)++lab).data.toList [b,[UInt8.ofNat i]]).toList)*Fin.ofNat P (beV (SP.tagL ((⟨#[112,111,105,110,116,32]⟩:ByteArray)++lab).data.toList [b,[UInt8.ofNat i]]).toList)*Fin.ofNat P (beV (SP.tagL ((⟨#[112,111,105,110,116,32]⟩:ByteArray)++lab).data.toList [b,[UInt8.ofNat i]]).toList)+7)).map fun y=>(Fin.ofNat P (beV (SP.tagL ((⟨#[112,111,105,110,116,32]⟩:ByteArray)++lab).data.toList [b,[UInt8.ofNat i]]).toList),y)
 else none
noncomputable def cands (P:Nat) [NeZero P] (lab:ByteArray) (b:List UInt8) (i:Nat):List (Fin P × Fin P):=(List.range i).filterMap (cand P lab b)
theorem cands_succ (lab:ByteArray) (b:List UInt8) (i:Nat):cands P lab b (i+1)=cands P lab b i++(cand P lab b i).toList:=by
 unfold cands
 rw[List.range_succ,List.filterMap_append]
 cases h:cand P lab b i<;>simp[h]
theorem cands_pre (lab:ByteArray) (b:List UInt8) {i j:Nat} (h:i≤j):cands P lab b i <+: cands P lab b j:=by
 induction j with
 | zero=>rw[Nat.le_zero.1 h];exact List.prefix_rfl
 | succ j ih =>
  rcases Nat.lt_or_ge i (j+1) with h1|h1
  ·rw[cands_succ]
   exact (ih (by omega)).trans (List.prefix_append _ _)
  ·rw[show i=j+1 by omega];exact List.prefix_rfl
theorem cands_len (lab:ByteArray) (b:List UInt8) (i:Nat):(cands P lab b i).length≤i:=by
 unfold cands
 exact Nat.le_trans (List.length_filterMap_le _ _) (by rw[List.length_range];exact Nat.le_refl _)
end
section
open Go.RowKit Go.Sort Go.Deep Go.Shelf
attribute [local go_sem] Oper.semAt_some
section
variable {F:Fence} {n:Nat} {P:Program} {ops:Array Oper} {rest:List Oper} {op:Oper} {a:Act} {w:World} {Q:Exit→Act→World→Prop}
theorem wpListIn_load_mid_g (hgd:Region.wanted op (yielded ops a.tmps)=true) (ty:TypeId) (x:Operand) (ho:op.op=.load ty x) (b o:Nat) (hx:a.eval x=.pointer (some ⟨b,o,none⟩)) (cs:List Value) (d:TypeDesc) (hc:w.rangeAt b o cs)
 (hu:P.underlying ty=some d) (hd:d.isRow=true) (hi:(P.info? ty).map (·.size)=some cs.length) (h:wpListIn F n P ops Q rest (a.put op.dst (.agg cs.toArray)) w):wpListIn F n P ops Q (op :: rest) a w:=
 wpListIn_step fun K hK=>by
  rw[hgd,if_pos rfl]
  refine ⟨fun f hf=>(by unfold Oper.about at hf;rw[ho] at hf;cases hf),?_⟩
  rw[Oper.semAt_eq _ _ _ (fun c=>by rw[ho];intro e;cases e)]
  unfold execOp
  simp only[ho,hx,Instr.loadAt,Instr.sureAddr,Sem.run_bind,Sem.run_pure,Result.andThen_ok,run_loadVar_mid w b o ty cs d hc hu hd hi]
  exact hK _ _ h
end
variable {P:Nat} [NeZero P]
theorem Hid.mk {p:Prop} (h:p):Hid p:=h
theorem iter_c (C:Fld P) (lab:ByteArray) (vb:Value) (b:List UInt8) (k1 k2:Nat) (w:World) (hlab:lab.size≤1000000) (h1:w.cell? ⟨k1,0,none⟩=some (.string lab)) (h2:w.cell? ⟨k2,0,none⟩=some vb) (l1:k1<w.heap.size) (l2:k2<w.heap.size) (hb:SP.PartOk w vb b) (n:Nat) :
 SeqStopsK Fence.wide n Tryz.prog 70 #[.pointer (some ⟨k1,0,none⟩),.pointer (some ⟨k2,0,none⟩)] (fun x:Fin P × Fin P=>#[pv x.1 x.2]) (Below w.heap.size) (fun xs=>xs=cands P lab b 256) (fun pre=>pre <+: cands P lab b 256) 256 w:=by
 have HP:=hb
 obtain ⟨a0,sb,so,cap,bs,rfl,-,-,-,-⟩:=hb
 intro l J Jx W hW hJ hJx hY h0
 refine callsIn_of_wp Tryz.func70 rfl trivial ?_ rfl
 simp only[Tryz.ntmps70,List.size_toArray,List.length_cons,List.length_nil,Nat.reduceAdd,Nat.reduceSub,Array.replicate_succ,Array.replicate_zero,List.push_toArray,List.append_toArray,List.nil_append,List.cons_append]
 gi_wp2
 gi_loopw [10] (fun p wr=>∃ i:Nat,i≤256∧p=.int .i64 i∧J (cands P lab b i) wr∧Below w.heap.size w wr∧W.heap.size≤wr.heap.size) (fun p wr=>256-(intOf p).toNat)
 case atStart =>
  exact ⟨0,by decide,rfl,h0,hW,Nat.le_refl _⟩
 case round =>
  obtain ⟨i,hi,rfl,hJi,hB,hsz⟩:=hrel
  have hB':=hB
  by_cases he:i=256
  ·subst he
   gi_wp2
   go_end0
   exact ⟨⟨_,rfl⟩,.inl ⟨_,rfl,hJi⟩⟩
  ·have hlt:(i:Int)<256:=by omega
   have c1:wr.cell? ⟨k1,0,none⟩=some (.string lab):=(World.cell?_of_block (hB.block k1 l1)).trans h1
   have c2:wr.cell? ⟨k2,0,none⟩=some (.slice a0 bs.size cap):=(World.cell?_of_block (hB.block k2 l2)).trans h2
   have hM1:=RG.Made.alloc wr [.int .u8 i] 5
   have hM2:=RG.Made.alloc (wr.alloc (.cells #[.int .u8 i] 5)) [.slice a0 bs.size cap,.slice (some ⟨wr.heap.size,0,none⟩) 1 1] 23
   rw[World.size_alloc] at hM2
   have hub:ub (UInt8.ofNat i)=(i:Int):=by
    show (((UInt8.ofNat i).toNat:Nat):Int)=_
    rw[UInt8.toNat_ofNat',Nat.mod_eq_of_lt (by omega)]
   obtain ⟨W1,hW1⟩:∃ W1,W1=(wr.alloc (.cells #[.int .u8 i] 5)).alloc (.cells #[.slice a0 bs.size cap,.slice (some ⟨wr.heap.size,0,none⟩) 1 1] 23):=⟨_,rfl⟩
   have hb1:Below wr.heap.size wr W1:=by rw[hW1];exact ((Below.refl _ wr).alloc (Nat.le_refl _) _).alloc (by rw[World.size_alloc];omega) _
   have hP:SP.PartsOk W1 (some ⟨wr.heap.size+1,0,none⟩) [b,[UInt8.ofNat i]]:=by
    have hm2:W1.rangeAt (wr.heap.size+1) 0 [.slice a0 bs.size cap,.slice (some ⟨wr.heap.size,0,none⟩) 1 1]:=by rw[hW1];exact hM2.range
    refine Or.inr ⟨_,_,rfl,fun j hj=>?_⟩
    have hj2:j=0∨j=1:=by simp at hj;omega
    rcases hj2 with rfl|rfl
    ·exact ⟨_,hm2 0 _ rfl,(HP.below hB').below hb1⟩
    ·refine ⟨_,hm2 1 _ rfl,some ⟨wr.heap.size,0,none⟩,wr.heap.size,0,1,#[UInt8.ofNat i],rfl,rfl,Nat.le_refl _,Nat.le_of_ble_eq_true rfl,Or.inr ⟨rfl,?_⟩⟩
     have hm1:=hM1.range
     have hc:wr.heap.size<(wr.alloc (.cells #[.int .u8 i] 5)).heap.size:=by rw[World.size_alloc];omega
     intro j hj
     have hj0:j=0:=by simp at hj;omega
     subst hj0
     have hq:W1.heap[wr.heap.size]? = (wr.alloc (.cells #[.int .u8 i] 5)).heap[wr.heap.size]?:=by rw[hW1];exact Below.heap_alloc _ _ _ hc
     refine ⟨?_,?_⟩
     ·rw[World.cell?_of_block (a:=⟨wr.heap.size,0+0,none⟩) hq]
      show _=some (Value.int .u8 (ub (UInt8.ofNat i)))
      rw[hub]
      exact hm1 0 _ rfl
     ·rw[World.frozen?_of_block (a:=⟨wr.heap.size,0+0,none⟩) hq]
      exact (hM1.there 0 (Nat.le_refl _)).2
   have hTag:=SP.Tag_any ((⟨#[112,111,105,110,116,32]⟩:ByteArray)++lab) (some ⟨wr.heap.size+1,0,none⟩) 2 [b,[UInt8.ofNat i]] W1 (by rw[ByteArray.size_append];show 6+lab.size≤_;omega) (Nat.le_of_ble_eq_true rfl) hP
   gi_wp2_with fail
   rw[← hW1]
   refine ⟨trivial,fun h=>(by cases h),(callsIn_wide.2 hTag).mono ?_⟩
   rintro e w2 ⟨r,rfl,hr1,hb2,hH2⟩
   clear hTag hP c1 c2 hM1 hM2 hlt
   obtain ⟨T,hT⟩:∃ T,Hid (SP.tagL ((⟨#[112,111,105,110,116,32]⟩:ByteArray)++lab).data.toList [b,[UInt8.ofNat i]]=T):=⟨_,rfl⟩
   rw[hT.out] at hH2
   gi_wp2_with fail
   refine ⟨trivial,fun h=>(by cases h),(callsIn_wide.2 (Coordinates_c _)).mono ?_⟩
   rintro e w3 ⟨v,rfl,hb3,rfl⟩
   have hrl:r<w2.heap.size:=holds_lt hH2 (by rw[← hT.out,SP.tagL_size];decide)
   have hTs:T.size=32:=by rw[← hT.out];exact SP.tagL_size _ _
   have hH3:Holds encB w3 r 0 T:=Holds.below hH2 hb3 hrl
   have hrl3:r<w3.heap.size:=Nat.lt_of_lt_of_le hrl hb3.size
   have hb03:Below wr.heap.size wr w3:=(hb1.trans (hb2.mono hb1.size)).trans (hb3.mono (Nat.le_trans hb1.size hb2.size))
   by_cases hx:beV T.toList<P
   ·obtain ⟨x,hxv⟩:∃ x:Fin P,Hid (beV T.toList=x.val):=⟨Fin.ofNat P (beV T.toList),(Nat.mod_eq_of_lt hx).symm⟩
    have hfx:Hid (Fin.ofNat P (beV T.toList)=x):=Fin.ext (by show beV T.toList%P=_;rw[Nat.mod_eq_of_lt hx];exact hxv.out)
    have hx:Hid (beV T.toList<P):=hx
    gi_wp2_with fail
    refine ⟨trivial,fun h=>(by cases h),(callsIn_wide.2 (Read_y C hTs (Nat.le_refl _) hxv.out hrl3 hH3)).mono ?_⟩
    rintro e w4 ⟨v,rfl,hb4,rfl⟩
    have hth4:=(RG.Made.alloc w4 [.int .u64 0,.int .u64 0,.int .u64 0,.int .u64 0] 50).there
    have hb04:=hb03.trans (hb4.mono hb03.size)
    have hra4:=World.rangeAt_setCells_same _ _ 0 (ws x) hth4
    obtain ⟨d,hd1,hd2⟩:=Option.map_eq_some_iff.1 u85
    clear hth4 hra4 hTs hH3 hrl hrl3 hb3 hb4 hH2 hr1 hb2 hb1
    obtain ⟨w5,hw5⟩:∃ w5,Hid ((w4.alloc (.cells #[.int .u64 0,.int .u64 0,.int .u64 0,.int .u64 0] 50)).setCells w4.heap.size 0 (ws x)=w5):=⟨_,rfl⟩
    have hb05:Hid (Below wr.heap.size wr w5):=by rw[← hw5.out];exact RG.below_setCells hb04.size _ _ _ (hb04.alloc hb04.size _)
    have hra5:w5.rangeAt w4.heap.size 0 (ws x):=by rw[← hw5.out];exact World.rangeAt_setCells_same _ _ 0 (ws x) (RG.Made.alloc w4 [.int .u64 0,.int .u64 0,.int .u64 0,.int .u64 0] 50).there
    gi_wp2_with (first|(refine wpListIn_store_mid rfl 50 _ _ rfl w4.heap.size 0 (ws x).toArray rfl rfl (RG.Made.alloc w4 [.int .u64 0,.int .u64 0,.int .u64 0,.int .u64 0] 50).there i85 (by kernel_rfl) ?_;rw[show (ws x).toArray.toList=ws x from rfl,hw5.out])|refine wpListIn_load_mid rfl 50 _ rfl w4.heap.size 0 rfl (ws x) d hra5 hd1 hd2 i85 ?_)
    refine ⟨trivial,fun h=>(by cases h),?_⟩
    clear hra5 hd1 hd2
    have hdum:True:=trivial
    obtain ⟨d8,hd81,hd82⟩:=Option.map_eq_some_iff.1 u109
    cases hrt:rt (x*x*x+7) with
    | none =>
     obtain ⟨z,hz⟩:∃ z:Fin P,Hid (z=0):=⟨_,rfl⟩
     have habove:=above_n_c C x hrt w5
     rw[← hz.out] at habove
     obtain ⟨vz,hvz⟩:∃ vz,Hid (pv z z=vz):=⟨_,rfl⟩
     rw[hvz.out] at habove
     refine (callsIn_wide.2 habove).mono ?_
     clear habove
     rintro e w6 ⟨v,rfl,hb6,rfl⟩
     have hcand:Hid (cand P lab b i=none):=by
      show cand P lab b i=none
      unfold cand
      rw[hT.out,if_pos hx.out,hfx.out,hrt]
      rfl
     clear hrt
     have hbA:Hid (Below wr.heap.size wr ((w6.alloc (.cells #[.int .u64 0,.int .u64 0,.int .u64 0,.int .u64 0,.int .u64 0,.int .u64 0,.int .u64 0,.int .u64 0] 85)).setCells w6.heap.size 0 (ws z++ws z))):=
      have h6:=hb05.out.trans (hb6.mono hb05.out.size)
      RG.below_setCells h6.size _ _ _ (h6.alloc h6.size _)
     clear hb6
     have hs8:(ws z++ws z).toArray.size=8:=by kernel_rfl
     have hth6:Hid <| (w6.alloc (.cells #[.int .u64 0,.int .u64 0,.int .u64 0,.int .u64 0,.int .u64 0,.int .u64 0,.int .u64 0,.int .u64 0] 85)).there w6.heap.size 0 (ws z++ws z).toArray.size:=by show World.there _ _ _ _;rw[hs8];exact (RG.Made.alloc w6 [.int .u64 0,.int .u64 0,.int .u64 0,.int .u64 0,.int .u64 0,.int .u64 0,.int .u64 0,.int .u64 0] 85).there
     have hi8:Hid ((Tryz.prog.info? 85).map (·.size)=some (ws z++ws z).toArray.size):=by show _=_;rw[hs8];exact i109
     clear hs8
     obtain ⟨w7,hw7⟩:∃ w7,Hid ((w6.alloc (.cells #[.int .u64 0,.int .u64 0,.int .u64 0,.int .u64 0,.int .u64 0,.int .u64 0,.int .u64 0,.int .u64 0] 85)).setCells w6.heap.size 0 (ws z++ws z)=w7):=⟨_,rfl⟩
     rw[hw7.out] at hbA
     gi_wp2_with (refine wpListIn_store_mid rfl 85 _ _ rfl w6.heap.size 0 (ws z++ws z).toArray ?_ ?_ ?_ ?_ ?_ ?_;rfl;exact hvz.out.symm;exact hth6.out;exact hi8.out;kernel_rfl;rw[show (ws z++ws z).toArray.toList=ws z++ws z from rfl,hw7.out];refine Hid.out ?_)
     clear hth6 hi8 hvz hz hw7 hb05 hfx hxv hx hT
     show wpListIn _ _ _ _ _ _ _ _
     gi_wp2_with fail
     refine ⟨fun _ h=>(by cases h),?_⟩
     gi_wp2_with fail
     refine ⟨⟨i+1,by omega,rfl,?_,hB.trans (hbA.out.mono hB.size),Nat.le_trans hsz hbA.out.size⟩,?_⟩
     ·rw[cands_succ,hcand.out]
      exact hJ _ wr _ none (by simpa using hJi) (grown_b hbA.out none) (fun _ e=>by cases e)
     ·simp[intOf]
      omega
    | some y =>
     have habove:=above_y_c C x y hrt w5
     obtain ⟨vz,hvz⟩:∃ vz,Hid (pv x y=vz):=⟨_,rfl⟩
     rw[hvz.out] at habove
     refine (callsIn_wide.2 habove).mono ?_
     clear habove
     rintro e w6 ⟨v,rfl,hb6,rfl⟩
     have hcand:Hid (cand P lab b i=some (x,y)):=by
      show cand P lab b i=some (x,y)
      unfold cand
      rw[hT.out,if_pos hx.out,hfx.out,hrt]
      rfl
     clear hrt
     obtain ⟨w7,hw7⟩:∃ w7,Hid ((w6.alloc (.cells #[.int .u64 0,.int .u64 0,.int .u64 0,.int .u64 0,.int .u64 0,.int .u64 0,.int .u64 0,.int .u64 0] 85)).setCells w6.heap.size 0 (ws x++ws y)=w7):=⟨_,rfl⟩
     have hb07:Hid (Below wr.heap.size wr w7):=by
      rw[← hw7.out]
      have h6:=hb05.out.trans (hb6.mono hb05.out.size)
      exact RG.below_setCells h6.size _ _ _ (h6.alloc h6.size _)
     clear hb6
     have hra7:w7.rangeAt w6.heap.size 0 (ws x++ws y):=by rw[← hw7.out];exact World.rangeAt_setCells_same _ _ 0 (ws x++ws y) (RG.Made.alloc w6 [.int .u64 0,.int .u64 0,.int .u64 0,.int .u64 0,.int .u64 0,.int .u64 0,.int .u64 0,.int .u64 0] 85).there
     have hJ7:Hid (J (cands P lab b i) w7):=hJ _ wr _ none (by simpa using hJi) (grown_b hb07.out none) (fun _ e=>by cases e)
     have hs8:(ws x++ws y).toArray.size=8:=by kernel_rfl
     have hth6:Hid <| (w6.alloc (.cells #[.int .u64 0,.int .u64 0,.int .u64 0,.int .u64 0,.int .u64 0,.int .u64 0,.int .u64 0,.int .u64 0] 85)).there w6.heap.size 0 (ws x++ws y).toArray.size:=by show World.there _ _ _ _;rw[hs8];exact (RG.Made.alloc w6 [.int .u64 0,.int .u64 0,.int .u64 0,.int .u64 0,.int .u64 0,.int .u64 0,.int .u64 0,.int .u64 0] 85).there
     have hi8:Hid ((Tryz.prog.info? 85).map (·.size)=some (ws x++ws y).toArray.size):=by show _=_;rw[hs8];exact i109
     clear hs8
     obtain ⟨fn,tmps,assign,body,hy,hR⟩:=hY (cands P lab b i) (x,y) w7 hJ7.out (Nat.lt_of_le_of_lt (cands_len lab b i) (by omega))
     dsimp only at hy
     obtain ⟨va,hva⟩:∃ va,Hid (Value.agg (ws x++ws y).toArray=va):=⟨_,rfl⟩
     rw[show pv x y=va from hva.out] at hy
     gi_wp2_with (refine wpListIn_store_mid rfl 85 _ _ rfl w6.heap.size 0 (ws x++ws y).toArray ?_ ?_ ?_ ?_ ?_ ?_;rfl;exact hvz.out.symm;exact hth6.out;exact hi8.out;kernel_rfl;rw[show (ws x++ws y).toArray.toList=ws x++ws y from rfl,hw7.out];refine Hid.out ?_)
     clear hth6 hi8 hw7 hb05 hfx hxv hx hT
     have hR2:=Hid.mk hR
     have hra8:=Hid.mk hra7
     have hd8:=Hid.mk hd81
     have hd9:=Hid.mk hd82
     clear hR hra7 hd81 hd82
     show wpListIn _ _ _ _ _ _ _ _
     gi_wp2_with (refine wpListIn_load_mid_g rfl 85 _ rfl w6.heap.size 0 ?_ (ws x++ws y) d8 ?_ ?_ ?_ ?_ ?_;rfl;exact hra8.out;exact hd8.out;exact hd9.out;exact i109;rw[hva.out];refine Hid.out ?_)
     clear hra8 hd8 hd9 hva hvz
     show wpListIn _ _ _ _ _ _ _ _
     gi_wp2_with fail
     refine ⟨fun h=>(by cases h),hR2.out.mono ?_⟩
     clear hR2 hy
     rintro e W8 (⟨rfl,hJ8,hk8⟩|⟨rfl,hJx8⟩)
     ·gi_wp2_with fail
      refine ⟨⟨i+1,by omega,rfl,?_,(hB.trans (hb07.out.mono hB.size)).trans hk8,Nat.le_trans hsz (Nat.le_trans hb07.out.size hk8.size)⟩,?_⟩
      ·rw[cands_succ,hcand.out]
       exact hJ8
      ·simp[intOf]
       omega
     ·gi_wp2_with fail
      refine bodyPost_ret (results_none rfl _ _ _) rfl ?_
      refine ⟨⟨_,rfl⟩,.inr ⟨_,?_,hJx8⟩⟩
      have hp:=cands_pre (P:=P) lab b (i:=i+1) (j:=256) (by omega)
      rw[cands_succ,hcand.out] at hp
      exact hp
   ·have hcand:cand P lab b i=none:=by
     unfold cand
     rw[hT.out,if_neg hx]
    gi_wp2_with fail
    refine ⟨trivial,fun h=>(by cases h),(callsIn_wide.2 (Read_n C hTs (Nat.le_refl _) hx hrl3 hH3)).mono ?_⟩
    rintro e w4 ⟨v,rfl,hb4,rfl⟩
    have hth4:Hid ((w4.alloc (.cells #[.int .u64 0,.int .u64 0,.int .u64 0,.int .u64 0] 50)).there w4.heap.size 0 4):=(RG.Made.alloc w4 [.int .u64 0,.int .u64 0,.int .u64 0,.int .u64 0] 50).there
    have hb04:=hb03.trans (hb4.mono hb03.size)
    have hbA:Hid (Below wr.heap.size wr ((w4.alloc (.cells #[.int .u64 0,.int .u64 0,.int .u64 0,.int .u64 0] 50)).setCells w4.heap.size 0 (ws (0:Fin P)))):=RG.below_setCells hb04.size _ _ _ (hb04.alloc hb04.size _)
    have hcand:Hid (cand P lab b i=none):=hcand
    obtain ⟨w7,hw7⟩:∃ w7,Hid ((w4.alloc (.cells #[.int .u64 0,.int .u64 0,.int .u64 0,.int .u64 0] 50)).setCells w4.heap.size 0 (ws (0:Fin P))=w7):=⟨_,rfl⟩
    rw[hw7.out] at hbA
    gi_wp2_with (refine wpListIn_store_mid rfl 50 _ _ rfl w4.heap.size 0 (ws (0:Fin P)).toArray ?_ ?_ ?_ ?_ ?_ ?_;rfl;rfl;exact hth4.out;exact i85;kernel_rfl;rw[show (ws (0:Fin P)).toArray.toList=ws (0:Fin P) from rfl,hw7.out];refine Hid.out ?_)
    clear hth4 hb04 hb03 hb4 hT hw7
    show wpListIn _ _ _ _ _ _ _ _
    gi_wp2_with fail
    refine ⟨⟨i+1,by omega,rfl,?_,hB.trans (hbA.out.mono hB.size),Nat.le_trans hsz hbA.out.size⟩,?_⟩
    ·rw[cands_succ,hcand.out]
     exact hJ _ wr _ none (by simpa using hJi) (grown_b hbA.out none) (fun _ e=>by cases e)
    ·simp[intOf]
     omega
end
section
open Go.RowKit Go.Sort Go.Deep Go.Shelf
variable {P:Nat} [NeZero P] {N:Nat}
theorem pointsOf_c (lab:ByteArray) (a:Option Addr) (m c:Nat) (w:World) :
 Calls Tryz.prog 30 #[.string lab,.slice a m c] w (Ret fun e w'=>e=.func (.func 70) #[] #[.pointer (some ⟨w.heap.size,0,none⟩),.pointer (some ⟨w.heap.size+1,0,none⟩)]∧w'=(w.alloc (.cells #[.string lab] 9)).alloc (.cells #[.slice a m c] 23)):=by
 go_enter Tryz.func30,Tryz.ntmps30
 go_wp2
 go_ret
 exact ⟨_,rfl,rfl,rfl⟩
noncomputable def hpt (P:Nat) [NeZero P] (lab:ByteArray) (b:List UInt8):Fin P × Fin P:=(cands P lab b 256).headD (gX P,gY P)
theorem cand_on {lab:ByteArray} {b:List UInt8} {i:Nat} {x:Fin P × Fin P} (h:cand P lab b i=some x):x.2*x.2=x.1*x.1*x.1+7:=by
 unfold cand at h
 split at h
 ·obtain ⟨y,hy,rfl⟩:=Option.map_eq_some_iff.1 h
  exact rt_sq hy
 ·cases h
theorem cands_on {lab:ByteArray} {b:List UInt8} {n:Nat} {x:Fin P × Fin P} (h:x∈cands P lab b n):x.2*x.2=x.1*x.1*x.1+7:=by
 unfold cands at h
 obtain ⟨i,-,hi⟩:=List.mem_filterMap.1 h
 exact cand_on hi
theorem hpt_on (C:Fld P) (lab:ByteArray) (b:List UInt8):EC.On (.some (hpt P lab b):EC.Pt P):=by
 unfold hpt
 cases h:cands P lab b 256 with
 | nil=>exact gG_on C
 | cons x r=>exact on_of (x:=x.1) (y:=x.2) (cands_on (by rw[h];exact List.mem_cons_self))
theorem some_wr (C:Fld P) (q:Fin P × Fin P) (h:EC.On (.some q:EC.Pt P)):by33 q.1 q.2=wr (.some q:EC.Pt P):=by33_wr C ⟨rfl,rfl⟩ h
theorem hpt_wr (C:Fld P) (lab:ByteArray) (b:List UInt8):by33 (hpt P lab b).1 (hpt P lab b).2=wr (.some (hpt P lab b):EC.Pt P):=some_wr C _ (hpt_on C lab b)
theorem firstOf_c (C:Fld P) (lab:ByteArray) (a:Option Addr) (m c:Nat) (b:List UInt8) (w:World) (hlab:lab.size≤1000000) (hb:SP.PartOk w (.slice a m c) b) :
 Calls Tryz.prog 29 #[.func (.func 70) #[] #[.pointer (some ⟨w.heap.size,0,none⟩),.pointer (some ⟨w.heap.size+1,0,none⟩)]] ((w.alloc (.cells #[.string lab] 9)).alloc (.cells #[.slice a m c] 23)) (Ret fun e w'=>Below w.heap.size w w'∧e=pv (hpt P lab b).1 (hpt P lab b).2):=by
 have hM1:=RG.Made.alloc w [.string lab] 9
 have hM2:=RG.Made.alloc (w.alloc (.cells #[.string lab] 9)) [.slice a m c] 23
 have hB1:Below w.heap.size w ((w.alloc (.cells #[.string lab] 9)).alloc (.cells #[.slice a m c] 23)):=((Below.refl _ w).alloc (Nat.le_refl _) _).alloc (by rw[World.size_alloc];omega) _
 have hs:((w.alloc (.cells #[.string lab] 9)).alloc (.cells #[.slice a m c] 23)).heap.size=w.heap.size+2:=by rw[World.size_alloc,World.size_alloc]
 have h1:((w.alloc (.cells #[.string lab] 9)).alloc (.cells #[.slice a m c] 23)).cell? ⟨w.heap.size,0,none⟩=some (.string lab):=by
  rw[World.cell?_of_block (a:=⟨w.heap.size,0,none⟩) (Below.heap_alloc _ _ _ (by rw[World.size_alloc];exact Nat.lt_succ_self _))]
  exact hM1.range 0 _ rfl
 have h2:((w.alloc (.cells #[.string lab] 9)).alloc (.cells #[.slice a m c] 23)).cell? ⟨w.heap.size+1,0,none⟩=some (.slice a m c):=by
  have:=hM2.range 0 _ rfl
  rwa[World.size_alloc] at this
 refine (first_c C _ (cands P lab b 256) 256 _ (fun n=>iter_c C lab (.slice a m c) b w.heap.size (w.heap.size+1) _ hlab h1 h2 (by omega) (by omega) (hb.below hB1) n)).mono ?_
 rintro e w' ⟨v,rfl,hb2,rfl⟩
 exact ⟨_,rfl,hB1.trans (hb2.mono hB1.size),rfl⟩
theorem HashTo_c (C:Fld P) (lab:ByteArray) (a:Option Addr) (m c:Nat) (b:List UInt8) (w:World) (hlab:lab.size≤1000000) (hb:SP.PartOk w (.slice a m c) b) :
 Calls Tryz.prog 101 #[.string lab,.slice a m c] w (Ret fun e w'=>Below w.heap.size w w'∧OutP w (wr (.some (hpt P lab b):EC.Pt P)) e w'):=by
 have hF:=firstOf_c C lab a m c b w hlab hb
 have hBt:∀ w,Calls Tryz.prog 32 #[pv (hpt P lab b).1 (hpt P lab b).2] w (Ret fun e w'=>Below w.heap.size w w'∧BytesR w (by33 (hpt P lab b).1 (hpt P lab b).2) e w'):=bytes_c C _ _
 rw[hpt_wr C] at hBt
 generalize pv (hpt P lab b).1 (hpt P lab b).2=v4 at hF hBt
 clear hb
 go_enter Tryz.func101,Tryz.ntmps101
 go_wp2_with fail
 refine (pointsOf_c lab a m c w).mono ?_
 rintro e w1 ⟨v,rfl,rfl,rfl⟩
 go_wp2_with fail
 refine hF.mono ?_
 rintro e w2 ⟨v,rfl,hb2,rfl⟩
 have HB2:Hid (Below w.heap.size w w2):=hb2
 clear hb2 hF
 go_wp2_with fail
 refine (hBt _).mono ?_
 rintro e w3 ⟨v,rfl,hb3,g,cap3,rfl,hc3,hg3,hlt3,hH3⟩
 have HB3:Hid (Below w.heap.size w w3):=HB2.out.trans (hb3.mono HB2.out.size)
 have HO:Hid (OutP w (wr (.some (hpt P lab b):EC.Pt P)) (.tuple #[.slice (some ⟨g,0,none⟩) 33 cap3,.int .i64 0]) w3):=⟨g,cap3,rfl,hc3,Nat.le_trans HB2.out.size hg3,hlt3,hH3⟩
 clear hb3 hH3 hBt
 go_wp2
 go_ret2
 exact ⟨_,rfl,HB3.out,HO.out⟩
end
section
open Go.RowKit Go.Sort Go.Deep
variable {P:Nat} [NeZero P] {N:Nat}
theorem cHash_c (C:Fld P) (lb:ByteArray) (hlb:lb.size≤1000000) (ta:Option Addr) (tl tc:Nat) (tx:List UInt8) (w:World) (hP:SP.PartOk w (.slice ta tl tc) tx) :
 Calls Tryz.prog 44 #[.string lb,.slice ta tl tc] w (Ret fun e w'=>Below w.heap.size w w'∧e=pvl (wr (.some (hpt P lb tx):EC.Pt P))):=by
 obtain ⟨T,hT⟩:∃ T,Hid (wr (.some (hpt P lb tx):EC.Pt P)=T):=⟨_,rfl⟩
 have hTs:T.size=33:=by rw[← hT.out];exact wr_size _
 rw[hT.out]
 have HC:Hid (Fld P):=C
 have HP:=Hid.mk' hP
 have HL:=Hid.mk' hlb
 clear C hP hlb
 obtain ⟨w1,hw1⟩:∃ w1,Hid (w.alloc (.cells z33.toArray 61)=w1):=⟨_,rfl⟩
 have K1:Hid (Row w1 w.heap.size z33∧Below w.heap.size w w1):=by rw[← hw1.out];exact ⟨row_new w _ _,below1 w _⟩
 obtain ⟨d,hd1,hd2⟩:=Option.map_eq_some_iff.1 uCP
 have HD:Hid (Tryz.prog.underlying 61=some d∧d.isRow=true):=⟨hd1,hd2⟩
 clear hd1 hd2
 go_enter Tryz.func44,Tryz.ntmps44
 go_wp2_with (refine wpList_op (v:=.pointer (some ⟨w.heap.size,0,none⟩)) (w':=w1) rfl (.alloc 61) rfl ?_ ?_;(rw[← hw1.out];kernel_rfl))
 refine (HashTo_c HC.out lb ta tl tc tx w1 HL.out (HP.out.below K1.out.2)).mono ?_
 rintro e w2 ⟨vv,rfl,hb2,g,cg,rfl,-,-,k3,k4⟩
 rw[hT.out] at k4
 have K2:Hid (Row w2 w.heap.size z33∧Below w.heap.size w w2∧Row w2 g (bl33 T)):=⟨K1.out.1.below hb2,K1.out.2.trans (hb2.mono K1.out.2.size),row_cp k4 k3⟩
 clear hb2 k3 k4 K1 hw1
 have harr:=arrCP g cg
 obtain ⟨w3,hw3⟩:∃ w3,Hid (w2.setCells w.heap.size 0 (bl33 T)=w3):=⟨_,rfl⟩
 have hlen:(bl33 T).length=33:=bl33_length hTs
 have K3:Hid (Row w3 w.heap.size (bl33 T)∧Below w.heap.size w w3):=by rw[← hw3.out];exact ⟨K2.out.1.put (by rw[hlen];rfl),RG.below_setCells (Nat.le_refl _) _ _ _ K2.out.2.1⟩
 obtain ⟨vt,hvt⟩:∃ vt,Hid (Value.agg (bl33 T).toArray=vt):=⟨_,rfl⟩
 have HI:Hid ((Tryz.prog.info? 61).map (·.size)=some (bl33 T).length∧w2.there w.heap.size 0 (bl33 T).toArray.size∧(Tryz.prog.info? 61).map (·.size)=some (bl33 T).toArray.size):=by
  have e:(bl33 T).toArray.size=33:=by rw[List.size_toArray];exact hlen
  refine ⟨by rw[hlen];exact infoCP,by rw[e];exact K2.out.1.2.2,by rw[e];exact infoCP⟩
 clear hlen
 go_wp2_with (first|(refine wpList_load_mid rfl 61 _ rfl g 0 ?_ (bl33 T) d ?_ ?_ ?_ ?_ ?_;rfl;exact K2.out.2.2.2.1;exact HD.out.1;exact HD.out.2;exact HI.out.1;rw[hvt.out])|(refine wpList_store_mid rfl 61 _ _ rfl w.heap.size 0 (bl33 T).toArray ?_ ?_ ?_ ?_ ?_ ?_;rfl;exact hvt.out.symm;exact HI.out.2.1;exact HI.out.2.2;exact bl33_one T;rw[show (bl33 T).toArray.toList=bl33 T from rfl,hw3.out]))
 refine bodyPost_ret (results_cell 4 61 rfl K3.out.1 rfl uCP HI.out.1) rfl ?_
 exact ⟨_,rfl,K3.out.2,rfl⟩
end
section
open Go.RowKit Go.Sort Go.Deep
variable {P:Nat} [NeZero P] {N:Nat}
theorem of1_c:Gives 64 #[.int .u64 1] (nv 1):=by
 intro w
 go_enter Tryz.func64,Tryz.ntmps64
 refine RG.M.enter [(0,.v (.int .u64 1))] 6 (by kernel_rfl) ?_
 intro a0 M0
 repeat refine wp_seq ?_
 refine M0.t [.m 2 [] 0] [(0,RG.z 4)] [] [RG.z 4] [(0,.v (.int .u64 1)),(2,.p 0 0)] ⟨RG.mk 0 52,trivial⟩ ?_
 intro k a1 w1 M1
 repeat refine wp_seq ?_
 refine M1.t [.x 3 [] (.int .u64 1),.x 4 [(3,0)] (nv 1),.x 5 [(4,1)] (nv 1),.u [(5,2)] 0] [] [(0,3,wn 1)] [wn 1] [(2,.p 0 0)] ⟨RG.st,RG.st,RG.st,RG.pt i40,trivial⟩ ?_
 intro a2 w2 M2
 refine wp_ret ?_
 refine bodyPost_ret (v:=nv 1) (RG.results_row M2.st 2 52 rfl 0 _ rfl (M2.at (s:=(.p 0 0))) u40 i40) M2.sl.defers ?_
 exact ⟨_,rfl,M2.st.bel.below,rfl⟩
def Sm (B:Nat) (W:World) (v:Value) (l:List (Nat × Bs)):Prop:=∃ g c,v=.slice (some ⟨g,0,none⟩) l.length c∧l.length≤c∧B≤g∧g<W.heap.size∧W.rangeAt g 0 (cellsT l)
theorem Sm.grow {B:Nat} {W W':World} {v:Value} {l:List (Nat × Bs)} (h:Sm B W v l) (hb:Below W.heap.size W W'):Sm B W' v l:=by
 obtain ⟨g,c,h1,h2,h3,h4,h5⟩:=h
 exact ⟨g,c,h1,h2,h3,Nat.lt_of_lt_of_le h4 hb.size,RG.range_below h5 hb h4⟩
theorem cellsT_one' (n:Nat) (a:Bs):cellsT [(n,a)]=wn n++bl33 a:=by rw[cellsT_cons];exact List.append_nil _
theorem Sm.one {B W k n} {w:World} {a:Bs} (h:Row w k (wn n++bl33 a)) (hB:B≤k) (hW:w=W):Sm B W (.slice (some ⟨k,0,none⟩) 1 1) [(n,a)]:=by
 subst hW
 exact ⟨k,1,rfl,Nat.le_refl _,hB,h.1,by rw[cellsT_one'];exact h.2.1⟩
section
variable (a:Bs) (w:World) (k1:Nat)
end
theorem infoT':(Tryz.prog.info? 121).map (fun i=>(i.size,i.bytes,i.zero.map fun z=>z.cells.size))=some (37,72,some 37):=by kernel_rfl
theorem growT_c (n:Nat) (hn:n≤10000000) (w:World):Calls Tryz.prog 147 #[.slice none 0 0,.int .i64 n] w (Ret fun e w'=>Below w.heap.size w w'∧w'.ownsRow w.heap.size 121 37 e 0 []):=by
 by_cases h0:n=0
 ·subst h0
  go_enter Tryz.func147,Tryz.ntmps147
  go_wp2
  go_ret
  exact ⟨_,rfl,Below.refl _ _,World.ownsRow_nil _ _ _ _⟩
 ·obtain ⟨i,hi,he⟩:=Option.map_eq_some_iff.1 infoT'
  simp only[Prod.mk.injEq] at he
  obtain ⟨h1,h2,h3⟩:=he
  obtain ⟨z,hz,hz2⟩:=Option.map_eq_some_iff.1 h3
  have hr:=Lib.run_append_nil_zeros (P:=Tryz.prog) w 56 3 56 121 i z .i64 .i64 undS undI hi hz n (by omega) (by omega) (by omega) (by rw[h2];omega)
  have hcap:=grownCap_ge w n 0 121
  have hcap2:=grownCap_le_maxLen w n 0 121 (by unfold maxLen;omega)
  have hcs:(Builtin.zeroCells z.cells n++Builtin.zeroCells z.cells (grownCap w n 0 121-n)).size=grownCap w n 0 121*37:=by rw[Array.size_append,size_zeroCells,size_zeroCells,hz2];omega
  generalize grownCap w n 0 121=cp at hr hcap hcap2 hcs
  generalize Builtin.zeroCells z.cells n++Builtin.zeroCells z.cells (cp-n)=cur at hr hcs
  obtain ⟨w1,hw1⟩:∃ w1,Hid (w.drew.alloc (.cells cur 121)=w1):=⟨_,rfl⟩
  rw[hw1.out] at hr
  have HR:=Hid.mk' hr
  have K:Hid (Below w.heap.size w w1∧w1.ownsRow w.heap.size 121 37 (.slice (some ⟨w.heap.size,0,none⟩) 0 cp) 0 []):=by
   rw[← hw1.out]
   exact ⟨(Below.refl _ _).drew.alloc (Nat.le_refl _) _,World.ownsRow_made w.drew cur cp (Nat.le_refl _) hcap2 hcs⟩
  clear hr hw1 hcs hi hz hz2 h1 h2 h3
  have hn1:(0:Int)<(n:Int):=by omega
  have hn2:¬ ((n:Int)<0):=by omega
  have hw:IntKind.i64.wrap (n:Int)=n:=by rw[IntKind.wrap_i64];omega
  go_enter Tryz.func147,Tryz.ntmps147
  go_wp2_with (at_builtin;refine Lib.wpList_append_run _ rfl _ _ _ _ rfl _ _ rfl rfl _ _ HR.out ?_)
  go_ret
  exact ⟨_,rfl,K.out.1,K.out.2⟩
theorem cellsT_app (l m:List (Nat × Bs)):cellsT (l++m)=cellsT l++cellsT m:=by unfold cellsT;rw[List.flatMap_append]
theorem cellsT_ok (l:List (Nat × Bs)):∀ u∈cellsT l,u.oneCell'=true:=fun u hu=>by
 unfold cellsT at hu
 obtain ⟨x,-,hx⟩:=List.mem_flatMap.1 hu
 exact cells_one x.1 x.2 u hx
theorem cellsT_len:∀ {l:List (Nat × Bs)},(∀ x∈l,x.2.size=33)→(cellsT l).length=l.length*37
 | [],_=>rfl
 | x :: r,h=>by
  rw[cellsT_cons,List.length_append,row_len (h x List.mem_cons_self),cellsT_len fun y hy=>h y (List.mem_cons_of_mem _ hy),List.length_cons]
  omega
theorem own_appT {base B:Nat} {W:World} {v x:Value} {l m:List (Nat × Bs)} (hown:W.ownsRow base 121 37 v l.length (cellsT l)) (hm:∀ y∈m,y.2.size=33) (hx:Sm B W x m) (hn:l.length+m.length≤1000000) (hb:base≤W.heap.size) :
 ∃ v' W',(Builtin.append_ #[56,56] 56 #[v,x]).run Tryz.prog W=.ok v' W'∧W'.ownsRow base 121 37 v' (l++m).length (cellsT (l++m))∧W.grownBy W' v.ownBlock:=by
 obtain ⟨i,hi,he⟩:=Option.map_eq_some_iff.1 infoT'
 simp only[Prod.mk.injEq] at he
 obtain ⟨h1,h2,h3⟩:=he
 obtain ⟨z,hz,hz2⟩:=Option.map_eq_some_iff.1 h3
 obtain ⟨k,c,rfl,e1,e2,e3,e4⟩:=hx
 obtain ⟨v',W',r1,r2,r3,-⟩:=run_append_own (P:=Tryz.prog) W base 56 56 121 i z 37 72 undS hi hz h1 h2 hz2 (by decide) v l.length (cellsT l) hown ⟨k,0,none⟩ m.length c (cellsT m) (cellsT_len hm)
  (fun j u hj=>by
   have:=e4 j u hj
   rw[Nat.zero_add] at this
   rw[add0];exact this) (cellsT_ok m) (by unfold maxLen;omega) (by omega) hb
 exact ⟨v',W',r1,by rw[List.length_append,cellsT_app];exact r2,r3⟩
end
section
open Go.RowKit Go.Sort Go.Deep
variable {P:Nat} [NeZero P] {N:Nat}
theorem atS (k o n c i:Nat) (hi:i<n) (w:World):(Instr.indexAt 54 (.slice (some ⟨k,o,none⟩) n c) (.int .i64 i)).run Tryz.prog w=.ok (.pointer (some ⟨k,o+1*i,none⟩)) w:=by
 have h1:¬ (i:Int)<0:=by omega
 have h2:(i:Int)<n:=by omega
 go_simp
def catT (L:Nat→List (Nat × Bs)) (k:Nat):List (Nat × Bs):=(List.range k).flatMap L
theorem catT_succ (L:Nat→List (Nat × Bs)) (i:Nat):catT L (i+1)=catT L i++L i:=by
 unfold catT
 rw[List.range_succ,List.flatMap_append]
 simp
theorem catT_le (L:Nat→List (Nat × Bs)) {k m:Nat} (hs:∀ j,j<k→(L j).length≤m):∀ i,i≤k→(catT L i).length≤m*i
 | 0,_=>Nat.le_refl _
 | i+1,hi=>by
  have h1:=catT_le L hs i (by omega)
  have h2:=hs i (by omega)
  rw[catT_succ,List.length_append,Nat.mul_succ]
  omega
theorem concatT_c (g k c:Nat) (L:Nat→List (Nat × Bs)) (hk:k≤1000) (hs:∀ j,j<k→(L j).length≤600) (h33:∀ j,j<k→∀ x∈L j,x.2.size=33) (w:World) (hg:g<w.heap.size) (hL:∀ j,j<k→∃ x,w.cell? ⟨g,j,none⟩=some x∧Sm 0 w x (L j)) :
 Calls Tryz.prog 103 #[.slice (some ⟨g,0,none⟩) k c] w (Ret fun e w'=>Below w.heap.size w w'∧w'.ownsRow w.heap.size 121 37 e (catT L k).length (cellsT (catT L k))):=by
 have HL:=Hid.mk' hL
 have HS:Hid (∀ i,i≤k→(catT L i).length≤600*i):=catT_le L hs
 have HG:=Hid.mk' hg
 have H3:=Hid.mk' h33
 clear hL hs hg h33
 go_enter Tryz.func103,Tryz.ntmps103
 go_wp2_with fail
 go_loopg [3,11] k (fun m s3 s11 W=>∃ i:Nat,i+m=k∧s11=.int .i64 i∧s3=.int .i64 ((catT L i).length:Int)∧w=W)
 case atStart=>exact ⟨0,by omega,rfl,rfl,rfl⟩
 case round =>
  obtain ⟨i,hik,rfl,rfl,rfl⟩:=hrel
  by_cases hi:i<k
  ·have hi':(i:Int)<(k:Int):=by omega
   obtain ⟨x,hc,hE⟩:=HL.out i hi
   obtain ⟨kx,cx,rfl,h1,-⟩:=hE
   have hix:=atS g 0 k c i hi
   rw[show 0+1*i=i by omega] at hix
   have hlen:(catT L (i+1)).length=(catT L i).length+(L i).length:=by rw[catT_succ,List.length_append]
   have hb1:=HS.out i (by omega)
   have hb2:=HS.out (i+1) (by omega)
   obtain ⟨a,ha⟩:∃ a,Hid ((catT L i).length=a):=⟨_,rfl⟩
   obtain ⟨b,hb⟩:∃ b,Hid ((L i).length=b):=⟨_,rfl⟩
   rw[ha.out] at hlen hb1
   rw[hb.out] at hlen h1
   rw[ha.out]
   have hwr:IntKind.i64.wrap ((a:Int)+(b:Int))=((a+b:Nat):Int):=by rw[IntKind.wrap_i64];omega
   have hng:¬ (((a+b:Nat):Int)<0):=by omega
   rw[hb.out] at hc
   go_wp2
   go_roundg (gk-1)
   case measure=>omega
   case rel=>exact ⟨i+1,by omega,rfl,by rw[hlen,Int.natCast_add],rfl⟩
  ·have hi':¬ (i:Int)<(k:Int):=by omega
   obtain rfl:i=k:=by omega
   go_wp2_with fail
   refine (growT_c (catT L i).length (by have:=HS.out i (Nat.le_refl _);omega) w).mono ?_
   rintro e w1 ⟨v,rfl,hb1,ho1⟩
   have K1:Hid (Below w.heap.size w w1∧w1.ownsRow w.heap.size 121 37 v (catT L 0).length (cellsT (catT L 0))):=⟨hb1,ho1⟩
   clear hb1 ho1
   go_wp2_with fail
   go_loopg [6,27] i (fun m s6 s27 W=>∃ j:Nat,j+m=i∧s27=.int .i64 j∧Hid (Below w.heap.size w W∧W.ownsRow w.heap.size 121 37 s6 (catT L j).length (cellsT (catT L j))))
   case atStart=>exact ⟨0,by omega,rfl,K1⟩
   case round =>
    clear K1
    obtain ⟨j,hjk,rfl,KM⟩:=hrel
    by_cases hj:j<i
    ·have hj':(j:Int)<(i:Int):=by omega
     obtain ⟨x,hc0,hE0⟩:=HL.out j hj
     have hc:wr.cell? ⟨g,j,none⟩=some x:=by rw[KM.out.1.cell (p:=⟨g,j,none⟩) HG.out];exact hc0
     have hE:=hE0.grow KM.out.1
     have hb2:=HS.out (j+1) (by omega)
     have hlen:(catT L (j+1)).length=(catT L j).length+(L j).length:=by rw[catT_succ,List.length_append]
     obtain ⟨v',W',r1,r2,r3⟩:=own_appT KM.out.2 (H3.out j hj) hE (by rw[← hlen];omega) KM.out.1.size
     rw[← catT_succ] at r2
     have KN:Hid (Below w.heap.size w W'∧W'.ownsRow w.heap.size 121 37 v' (catT L (j+1)).length (cellsT (catT L (j+1)))):=⟨KM.out.1.grown r3 KM.out.1.size (fun k hk=>(KM.out.2.lt k hk).1),r2⟩
     have HAP:=Hid.mk' r1
     obtain ⟨kx,cx,rfl,-⟩:=hE
     have hix:=atS g 0 i c j hj
     rw[show 0+1*j=j by omega] at hix
     clear r1 r2 r3 hlen hb2 KM hE0 hc0
     go_wp2_with (first|(refine wpList_app (x:=u6) (y:=.slice (some ⟨kx,0,none⟩) (L j).length cx) (v:=v') (w':=W') rfl _ _ 56 rfl ?_ ?_ ?_ ?_;rfl;rfl;exact HAP.out)|fail)
     go_roundg (gk-1)
     case measure=>omega
     case rel=>exact ⟨j+1,by omega,rfl,KN⟩
    ·have hj':¬ (j:Int)<(i:Int):=by omega
     obtain rfl:j=i:=by omega
     go_wp2
     go_ret
     exact ⟨_,rfl,KM.out.1,KM.out.2⟩
theorem owns_sm {W:World} {base:Nat} {v:Value} {l:List (Nat × Bs)} (h:W.ownsRow base 121 37 v l.length (cellsT l)) (hl:0<l.length):Sm base W v l:=by
 have h0:=fun {g:Nat}=>h.cells (g:=g)
 rcases h.2 with ⟨-,h2⟩|⟨g,cap,cur,rfl,h1,hc,hn,-⟩
 ·omega
 ·refine ⟨g,cap,rfl,hn,h1,(Array.getElem?_eq_some_iff.1 hc).1,fun j u hu=>?_⟩
  have:=h0 (g:=g) rfl j u hu
  rw[add0] at this
  rw[Nat.zero_add]
  exact this
theorem sumPlus_c (B:Nat) (s t:Value) (l m:List (Nat × Bs)) (hl0:0<l.length) (hl:l.length≤500) (hm:m.length≤500) (hl3:∀ x∈l,x.2.size=33) (hm3:∀ x∈m,x.2.size=33) (w:World) (h1:Sm B w s l) (h2:Sm B w t m) :
 Calls Tryz.prog 46 #[s,t] w (Ret fun e w'=>Below w.heap.size w w'∧Sm w.heap.size w' e (l++m)):=by
 have hb0:=hl0
 obtain ⟨g1,c1,e1,-⟩:=id h1
 obtain ⟨g2,c2,e2,-⟩:=id h2
 subst e1
 subst e2
 obtain ⟨w1,hw1⟩:∃ w1,Hid (w.alloc (.cells #[.slice (some ⟨g1,0,none⟩) l.length c1,.slice (some ⟨g2,0,none⟩) m.length c2] 56)=w1):=⟨_,rfl⟩
 have hb:Below w.heap.size w w1:=by rw[← hw1.out];exact below1 _ _
 have hlt:w.heap.size<w1.heap.size:=by rw[← hw1.out,World.size_alloc];omega
 have hM:w1.rangeAt w.heap.size 0 [.slice (some ⟨g1,0,none⟩) l.length c1,.slice (some ⟨g2,0,none⟩) m.length c2]:=by rw[← hw1.out];exact (RG.Made.alloc w [.slice (some ⟨g1,0,none⟩) l.length c1,.slice (some ⟨g2,0,none⟩) m.length c2] 56).range
 have HC:=Hid.mk' (concatT_c w.heap.size 2 2 (fun j=>if j=0 then l else m) (by decide) (fun j _=>by show (if j=0 then l else m).length≤600;split<;>omega) (fun j _=>by
  show ∀ x∈(if j=0 then l else m),x.2.size=33
  split
  ·exact hl3
  ·exact hm3) w1 hlt (fun j hj=>by
  have hz:∀ {v:Value} {l:List (Nat × Bs)},Sm B w v l→Sm 0 w1 v l:=fun h=>by
   obtain ⟨g,c,q1,q2,-,q4,q5⟩:=h.grow hb
   exact ⟨g,c,q1,q2,Nat.zero_le _,q4,q5⟩
  have hj2:j=0∨j=1:=by omega
  rcases hj2 with rfl|rfl
  ·exact ⟨_,hM 0 _ rfl,hz h1⟩
  ·exact ⟨_,hM 1 _ rfl,hz h2⟩))
 have hcat:catT (fun j=>if j=0 then l else m) 2=l++m:=by rw[catT_succ,catT_succ];rfl
 have HB:=Hid.mk' hb
 have HK:Hid (catT (fun j=>if j=0 then l else m) 2=l++m∧0<(l++m).length):=⟨hcat,by rw[List.length_append];omega⟩
 clear h1 h2 hM hlt hb hcat hl3 hm3
 go_enter Tryz.func46,Tryz.ntmps46
 go_wp2_with fail
 rw[hw1.out]
 refine HC.out.mono ?_
 rintro e w2 ⟨vv,rfl,hb2,ho⟩
 rw[HK.out.1] at ho
 have K2:Hid (Below w.heap.size w w2∧Sm w.heap.size w2 vv (l++m)):=by
  obtain ⟨g,c,q1,q2,q3,q4,q5⟩:=owns_sm ho HK.out.2
  exact ⟨HB.out.trans (hb2.mono HB.out.size),g,c,q1,q2,Nat.le_trans HB.out.size q3,q4,q5⟩
 clear hb2 ho HC
 go_wp2
 go_ret
 exact ⟨_,rfl,K2.out.1,K2.out.2⟩
theorem Sm.point (C:Fld P) (O:Ord N) (hord:∀ r:EC.Pt P,EC.On r→EC.mul N r=none) {B:Nat} {w:World} {v:Value} {l:List (Nat × Bs)} (h:Sm B w v l) (hl0:0<l.length) (hl:l.length≤512) (hn:∀ x∈l,x.1<N) (hp:PtsL P l) :
 Calls Tryz.prog 19 #[v] w (Ret fun e w'=>Below w.heap.size w w'∧e=pvl (wr (sumL P l))):=by
 obtain ⟨g,c,rfl,-,-,hg,hr⟩:=h
 have h33:∀ x∈l.map (·.2),x.size=33:=fun x hx=>by
  obtain ⟨y,hy,rfl⟩:=List.mem_map.1 hx
  obtain ⟨X,-,e⟩:=hp y hy
  rw[e];exact wr_size _
 have hm:∀ j (hj:j<l.length),((l[j]?).getD (0,#[]))=l[j]:=fun j hj=>by rw[List.getElem?_eq_getElem hj];rfl
 have hX:∀ j,j<l.length→EC.On (unwr P ((l[j]?).getD (0,#[])).2):=fun j hj=>by rw[hm j hj];exact hp.on C (List.getElem_mem hj)
 refine (sumPoint_c C O hord g l.length c hl0 hl (fun j=>((l[j]?).getD (0,#[])).1) (fun j=>unwr P ((l[j]?).getD (0,#[])).2) (fun j hj=>by rw[hm j hj];exact hn _ (List.getElem_mem hj)) hX w hg (fun j hj=>?_)).mono ?_
 ·rw[hm j hj]
  obtain ⟨X,x1,x2⟩:=hp _ (List.getElem_mem hj)
  rw[x2,unwr_wr C x1,← x2]
  intro t u hu
  have ht:t<37:=by
   have:=(List.getElem?_eq_some_iff.1 hu).1
   rw[row_len (h33 _ (List.mem_map.2 ⟨_,List.getElem_mem hj,rfl⟩))] at this
   exact this
  have:=hr (37*j+t) u (by rw[cellsT_at l h33 j hj t ht];exact hu)
  rw[Nat.zero_add] at this
  exact this
 ·rintro e w' ⟨u,rfl,hb,rfl⟩
  refine ⟨_,rfl,hb,?_⟩
  rw[tot_sumL C l hp _ (Nat.le_refl _),List.take_length]
theorem mul_twoB (C:Fld P) {a b:EC.Pt P} (ha:EC.On a) (hb:EC.On b):∀ n,EC.mul n (EC.add a b)=EC.add (EC.mul n a) (EC.mul n b)
 | 0=>rfl
 | n+1=>by
  show EC.add (EC.mul n (EC.add a b)) (EC.add a b)=EC.add (EC.add (EC.mul n a) a) (EC.add (EC.mul n b) b)
  rw[mul_twoB C ha hb n]
  exact C.cur.swap (EC.mul_on C.cur ha n) (EC.mul_on C.cur hb n) ha hb
def SmZ (B:Nat) (W:World) (v:Value) (l:List (Nat × Bs)):Prop:=(v=.slice none 0 0∧l=[])∨Sm B W v l
theorem SmZ.grow {B:Nat} {W W':World} {v:Value} {l:List (Nat × Bs)} (h:SmZ B W v l) (hb:Below W.heap.size W W'):SmZ B W' v l:=by
 rcases h with h|h
 ·exact Or.inl h
 ·exact Or.inr (h.grow hb)
theorem SmZ.form {B:Nat} {W:World} {v:Value} {l:List (Nat × Bs)} (h:SmZ B W v l):∃ q c,v=.slice q l.length c∧l.length≤c:=by
 rcases h with ⟨rfl,rfl⟩|⟨g,c,h1,h2,-⟩
 ·exact ⟨none,0,rfl,Nat.le_refl _⟩
 ·exact ⟨_,_,h1,h2⟩
theorem app_nn:∀ W:World,(Builtin.append_ #[56,56] 56 #[.slice none 0 0,.slice none 0 0]).run Tryz.prog W=.ok (.slice none 0 0) W:=fun W=>by kernel_rfl
theorem own_appZ {base B:Nat} {W:World} {v x:Value} {l m:List (Nat × Bs)} (hown:W.ownsRow base 121 37 v l.length (cellsT l)) (hm:∀ y∈m,y.2.size=33) (hx:SmZ B W x m) (hn:l.length+m.length≤1000000) (hb:base≤W.heap.size) :
 ∃ v' W',(Builtin.append_ #[56,56] 56 #[v,x]).run Tryz.prog W=.ok v' W'∧W'.ownsRow base 121 37 v' (l++m).length (cellsT (l++m))∧W.grownBy W' v.ownBlock:=by
 rcases hx with ⟨rfl,rfl⟩|hx
 ·rw[List.append_nil]
  rcases id hown.2 with ⟨rfl,h0⟩|⟨g,cap,cur,rfl,h1,h2,h3,-⟩
  ·exact ⟨_,_,app_nn W,hown,⟨rfl,rfl,rfl,Nat.le_refl _,fun _ _ _=>rfl⟩⟩
  ·obtain ⟨i,hi,he⟩:=Option.map_eq_some_iff.1 infoT'
   have:=run_append_room_src (P:=Tryz.prog) W 56 56 56 121 i undS hi g 0 l.length cap (.slice none 0 0) 0 [] (Src.ofNil (e':=121) _ undS 0) (by omega) (fun j hj=>by cases hj) (fun j hj=>by cases hj)
   exact ⟨_,_,this,hown,⟨rfl,rfl,rfl,Nat.le_refl _,fun _ _ _=>rfl⟩⟩
 ·exact own_appT hown hm hx hn hb
theorem concatZ_c (g k c:Nat) (L:Nat→List (Nat × Bs)) (hk:k≤1000) (hs:∀ j,j<k→(L j).length≤600) (h33:∀ j,j<k→∀ x∈L j,x.2.size=33) (w:World) (hg:g<w.heap.size) (hL:∀ j,j<k→∃ x,w.cell? ⟨g,j,none⟩=some x∧SmZ 0 w x (L j)) :
 Calls Tryz.prog 103 #[.slice (some ⟨g,0,none⟩) k c] w (Ret fun e w'=>Below w.heap.size w w'∧w'.ownsRow w.heap.size 121 37 e (catT L k).length (cellsT (catT L k))):=by
 have HL:=Hid.mk' hL
 have HS:Hid (∀ i,i≤k→(catT L i).length≤600*i):=catT_le L hs
 have HG:=Hid.mk' hg
 have H3:=Hid.mk' h33
 clear hL hs hg h33
 go_enter Tryz.func103,Tryz.ntmps103
 go_wp2_with fail
 go_loopg [3,11] k (fun m s3 s11 W=>∃ i:Nat,i+m=k∧s11=.int .i64 i∧s3=.int .i64 ((catT L i).length:Int)∧w=W)
 case atStart=>exact ⟨0,by omega,rfl,rfl,rfl⟩
 case round =>
  obtain ⟨i,hik,rfl,rfl,rfl⟩:=hrel
  by_cases hi:i<k
  ·have hi':(i:Int)<(k:Int):=by omega
   obtain ⟨x,hc,hE⟩:=HL.out i hi
   obtain ⟨kx,cx,rfl,h1⟩:=hE.form
   have hix:=atS g 0 k c i hi
   rw[show 0+1*i=i by omega] at hix
   have hlen:(catT L (i+1)).length=(catT L i).length+(L i).length:=by rw[catT_succ,List.length_append]
   have hb1:=HS.out i (by omega)
   have hb2:=HS.out (i+1) (by omega)
   obtain ⟨a,ha⟩:∃ a,Hid ((catT L i).length=a):=⟨_,rfl⟩
   obtain ⟨b,hb⟩:∃ b,Hid ((L i).length=b):=⟨_,rfl⟩
   rw[ha.out] at hlen hb1
   rw[hb.out] at hlen h1
   rw[ha.out]
   have hwr:IntKind.i64.wrap ((a:Int)+(b:Int))=((a+b:Nat):Int):=by rw[IntKind.wrap_i64];omega
   have hng:¬ (((a+b:Nat):Int)<0):=by omega
   rw[hb.out] at hc
   go_wp2
   go_roundg (gk-1)
   case measure=>omega
   case rel=>exact ⟨i+1,by omega,rfl,by rw[hlen,Int.natCast_add],rfl⟩
  ·have hi':¬ (i:Int)<(k:Int):=by omega
   obtain rfl:i=k:=by omega
   go_wp2_with fail
   refine (growT_c (catT L i).length (by have:=HS.out i (Nat.le_refl _);omega) w).mono ?_
   rintro e w1 ⟨v,rfl,hb1,ho1⟩
   have K1:Hid (Below w.heap.size w w1∧w1.ownsRow w.heap.size 121 37 v (catT L 0).length (cellsT (catT L 0))):=⟨hb1,ho1⟩
   clear hb1 ho1
   go_wp2_with fail
   go_loopg [6,27] i (fun m s6 s27 W=>∃ j:Nat,j+m=i∧s27=.int .i64 j∧Hid (Below w.heap.size w W∧W.ownsRow w.heap.size 121 37 s6 (catT L j).length (cellsT (catT L j))))
   case atStart=>exact ⟨0,by omega,rfl,K1⟩
   case round =>
    clear K1
    obtain ⟨j,hjk,rfl,KM⟩:=hrel
    by_cases hj:j<i
    ·have hj':(j:Int)<(i:Int):=by omega
     obtain ⟨x,hc0,hE0⟩:=HL.out j hj
     have hc:wr.cell? ⟨g,j,none⟩=some x:=by rw[KM.out.1.cell (p:=⟨g,j,none⟩) HG.out];exact hc0
     have hE:=hE0.grow KM.out.1
     have hb2:=HS.out (j+1) (by omega)
     have hlen:(catT L (j+1)).length=(catT L j).length+(L j).length:=by rw[catT_succ,List.length_append]
     obtain ⟨v',W',r1,r2,r3⟩:=own_appZ KM.out.2 (H3.out j hj) hE (by rw[← hlen];omega) KM.out.1.size
     rw[← catT_succ] at r2
     have KN:Hid (Below w.heap.size w W'∧W'.ownsRow w.heap.size 121 37 v' (catT L (j+1)).length (cellsT (catT L (j+1)))):=⟨KM.out.1.grown r3 KM.out.1.size (fun k hk=>(KM.out.2.lt k hk).1),r2⟩
     have HAP:=Hid.mk' r1
     obtain ⟨kx,cx,rfl,-⟩:=hE.form
     have hix:=atS g 0 i c j hj
     rw[show 0+1*j=j by omega] at hix
     clear r1 r2 r3 hlen hb2 KM hE0 hc0
     go_wp2_with (first|(refine wpList_app (x:=u6) (y:=.slice kx (L j).length cx) (v:=v') (w':=W') rfl _ _ 56 rfl ?_ ?_ ?_ ?_;rfl;rfl;exact HAP.out)|fail)
     go_roundg (gk-1)
     case measure=>omega
     case rel=>exact ⟨j+1,by omega,rfl,KN⟩
    ·have hj':¬ (j:Int)<(i:Int):=by omega
     obtain rfl:j=i:=by omega
     go_wp2
     go_ret
     exact ⟨_,rfl,KM.out.1,KM.out.2⟩
theorem sumPlusZ_c (B:Nat) (s t:Value) (l m:List (Nat × Bs)) (hl0:0<(l++m).length) (hl:l.length≤500) (hm:m.length≤500) (hl3:∀ x∈l,x.2.size=33) (hm3:∀ x∈m,x.2.size=33) (w:World) (h1:SmZ B w s l) (h2:SmZ B w t m) :
 Calls Tryz.prog 46 #[s,t] w (Ret fun e w'=>Below w.heap.size w w'∧Sm w.heap.size w' e (l++m)):=by
 obtain ⟨g1,c1,e1,-⟩:=h1.form
 obtain ⟨g2,c2,e2,-⟩:=h2.form
 subst e1
 subst e2
 obtain ⟨w1,hw1⟩:∃ w1,Hid (w.alloc (.cells #[.slice g1 l.length c1,.slice g2 m.length c2] 56)=w1):=⟨_,rfl⟩
 have hb:Below w.heap.size w w1:=by rw[← hw1.out];exact below1 _ _
 have hlt:w.heap.size<w1.heap.size:=by rw[← hw1.out,World.size_alloc];omega
 have hM:w1.rangeAt w.heap.size 0 [.slice g1 l.length c1,.slice g2 m.length c2]:=by rw[← hw1.out];exact (RG.Made.alloc w [.slice g1 l.length c1,.slice g2 m.length c2] 56).range
 have HC:=Hid.mk' (concatZ_c w.heap.size 2 2 (fun j=>if j=0 then l else m) (by decide) (fun j _=>by show (if j=0 then l else m).length≤600;split<;>omega) (fun j _=>by
  show ∀ x∈(if j=0 then l else m),x.2.size=33
  split
  ·exact hl3
  ·exact hm3) w1 hlt (fun j hj=>by
  have hz:∀ {v:Value} {l:List (Nat × Bs)},SmZ B w v l→SmZ 0 w1 v l:=fun h=>by
   rcases h.grow hb with h|⟨g,c,q1,q2,-,q4,q5⟩
   ·exact Or.inl h
   ·exact Or.inr ⟨g,c,q1,q2,Nat.zero_le _,q4,q5⟩
  have hj2:j=0∨j=1:=by omega
  rcases hj2 with rfl|rfl
  ·exact ⟨_,hM 0 _ rfl,hz h1⟩
  ·exact ⟨_,hM 1 _ rfl,hz h2⟩))
 have hcat:catT (fun j=>if j=0 then l else m) 2=l++m:=by rw[catT_succ,catT_succ];rfl
 have HB:=Hid.mk' hb
 have HK:Hid (catT (fun j=>if j=0 then l else m) 2=l++m∧0<(l++m).length):=⟨hcat,hl0⟩
 clear h1 h2 hM hlt hb hcat hl3 hm3
 go_enter Tryz.func46,Tryz.ntmps46
 go_wp2_with fail
 rw[hw1.out]
 refine HC.out.mono ?_
 rintro e w2 ⟨vv,rfl,hb2,ho⟩
 rw[HK.out.1] at ho
 have K2:Hid (Below w.heap.size w w2∧Sm w.heap.size w2 vv (l++m)):=by
  obtain ⟨g,c,q1,q2,q3,q4,q5⟩:=owns_sm ho HK.out.2
  exact ⟨HB.out.trans (hb2.mono HB.out.size),g,c,q1,q2,Nat.le_trans HB.out.size q3,q4,q5⟩
 clear hb2 ho HC
 go_wp2
 go_ret
 exact ⟨_,rfl,K2.out.1,K2.out.2⟩
end
section
open Go.RowKit Go.Sort Go.Deep
variable {P:Nat} [NeZero P] {N:Nat}
def Nw (B:Nat) (c:List Value) (v:Value) (W:World):Prop:=∃ k,v=.pointer (some ⟨k,0,none⟩)∧B≤k∧Row W k c
section
variable (w:World) (k6 k8 k9 k10 x kk c z B0:Nat) (A F:Bs) (v1:Value)
def R5:Nat→Value→World→Prop
 | 0,v,_=>v=nv kk
 | 1,v,_=>v=pvl A
 | 2,v,_=>v=pvl F
 | 3,v,W=>Nw B0 z33 v W
 | _,_,_=>True
def Two (v:Value) (W:World):Prop:=∃ k y,v=.slice (some ⟨k,0,none⟩) 2 2∧k<W.heap.size∧W.cell? ⟨k,0,none⟩=some (.slice (some ⟨k9,0,none⟩) 33 33)∧W.cell? ⟨k,1,none⟩=some y∧El 32 W y (bx z)
end
end
section
open Go.RowKit Go.Sort Go.Deep
variable {P:Nat} [NeZero P] {N:Nat}
theorem results_ct {P:Program} {fn:Func} {tmps:Array Value} {W:World} {k:Nat} {vs:List Value} {v:Value} (t u:Tmp) (T:TypeId) (hr:fn.results=#[.cell t T,.tmp u]) (h:Row W k vs) (ht:tmps[t]? = some (.pointer (some ⟨k,0,none⟩))) (hv:tmps[u]? = some v)
 (hu:(P.underlying T).map (·.isRow)=some true) (hi:(P.info? T).map (·.size)=some vs.length):(results fn tmps).run P W=.ok (.tuple #[.agg vs.toArray,v]) W:=by
 obtain ⟨d,hu,hd⟩:=Option.map_eq_some_iff.1 hu
 have h1:=run_loadVar_mid (P:=P) W k 0 T vs d h.2.1 hu hd hi
 have h2:tmps.getD t undef=.pointer (some ⟨k,0,none⟩):=by rw[Array.getD_eq_getD_getElem?,ht];rfl
 have h3:tmps.getD u undef=v:=by rw[Array.getD_eq_getD_getElem?,hv];rfl
 unfold results
 rw[hr]
 simp only[Array.mapM_eq_mapM_toList,List.mapM_cons,List.mapM_nil,h2,h3,asAddr]
 simp[Sem.run_bind,h1]
theorem bldCP (w:World):(Instr.build 61 #[]).run Tryz.prog w=.ok (.agg z33.toArray) w:=by kernel_rfl
theorem arrCPo (g o cg:Nat) (w:World):(Instr.arrayAt 61 (.slice (some ⟨g,o,none⟩) 33 cg)).run Tryz.prog w=.ok (.pointer (some ⟨g,o,none⟩)) w:=by kernel_rfl
theorem rd_33 {bs:Bs} {p:Fin P × Fin P} (h:rd P bs=some p):bs.size=33:=by
 unfold rd at h
 split at h
 ·assumption
 ·cases h
theorem holds_rng {W:World} {g o:Nat} {b:Bs} (h:Holds encB W g o b):W.rangeAt g o (bl33 b):=fun j u hu=>by
 unfold bl33 at hu
 rw[List.getElem?_map] at hu
 obtain ⟨x,hx,rfl⟩:=Option.map_eq_some_iff.1 hu
 have hj:j<b.size:=by have:=(List.getElem?_eq_some_iff.1 hx).1;simpa using this
 rw[(h j hj).1,getElem!_pos b j hj]
 rw[Array.getElem?_toList,Array.getElem?_eq_getElem hj] at hx
 rw[Option.some.inj hx]
theorem cRead_y (C:Fld P) (v:Value) (bs:Bs) (p:Fin P × Fin P) (w:World) (hv:Arg33 w v bs) (hr:rd P bs=some p):Calls Tryz.prog 23 #[v] w (Ret fun e w'=>Below w.heap.size w w'∧e=.tuple #[pvl bs,.bool true]):=by
 have hs:=rd_33 hr
 have HG:Hid (∀ W,Below w.heap.size w W→Calls Tryz.prog 59 #[v] W (Ret fun e w'=>Below W.heap.size W w'∧e=.bool true)):=fun W hb=>by
  have h:=gPoint_c C v bs W (hv.below hb)
  rw[hr] at h
  exact h
 obtain ⟨q,n,cap,rfl,e1,e2⟩:=hv
 rw[hs] at e1
 subst e1
 obtain ⟨g,o,rfl,-,hg,hH⟩:=e2 rfl
 have HH:Hid (w.rangeAt g o (bl33 bs)∧g<w.heap.size):=⟨holds_rng hH,hg⟩
 obtain ⟨w1,hw1⟩:∃ w1,Hid (w.alloc (.cells z33.toArray 61)=w1):=⟨_,rfl⟩
 have K1:Hid (Row w1 w.heap.size z33∧Below w.heap.size w w1):=by rw[← hw1.out];exact ⟨row_new w _ _,below1 w _⟩
 obtain ⟨d,hd1,hd2⟩:=Option.map_eq_some_iff.1 uCP
 have HD:Hid (Tryz.prog.underlying 61=some d∧d.isRow=true):=⟨hd1,hd2⟩
 have HS:=Hid.mk' hs
 have harr:=arrCPo g o cap
 clear hd1 hd2 C hr hs hH hg e2
 go_enter Tryz.func23,Tryz.ntmps23
 go_wp2_with (first|(refine wpList_op (v:=.pointer (some ⟨w.heap.size,0,none⟩)) (w':=w1) rfl (.alloc 61) rfl ?_ ?_;(rw[← hw1.out];kernel_rfl))|fail)
 refine (HG.out w1 K1.out.2).mono ?_
 rintro e w2 ⟨vv,rfl,hb2,rfl⟩
 have K2:Hid (Row w2 w.heap.size z33∧Below w.heap.size w w2∧w2.rangeAt g o (bl33 bs)):=⟨K1.out.1.below hb2,K1.out.2.trans (hb2.mono K1.out.2.size),RG.range_below HH.out.1 (K1.out.2.trans (hb2.mono K1.out.2.size)) HH.out.2⟩
 clear hb2 K1 hw1 HG
 obtain ⟨w3,hw3⟩:∃ w3,Hid (w2.setCells w.heap.size 0 (bl33 bs)=w3):=⟨_,rfl⟩
 have hlen:(bl33 bs).length=33:=bl33_length HS.out
 have K3:Hid (Row w3 w.heap.size (bl33 bs)∧Below w.heap.size w w3):=by rw[← hw3.out];exact ⟨K2.out.1.put (by rw[hlen];rfl),RG.below_setCells (Nat.le_refl _) _ _ _ K2.out.2.1⟩
 obtain ⟨vt,hvt⟩:∃ vt,Hid (Value.agg (bl33 bs).toArray=vt):=⟨_,rfl⟩
 have HI:Hid ((Tryz.prog.info? 61).map (·.size)=some (bl33 bs).length∧w2.there w.heap.size 0 (bl33 bs).toArray.size∧(Tryz.prog.info? 61).map (·.size)=some (bl33 bs).toArray.size):=by
  have e:(bl33 bs).toArray.size=33:=by rw[List.size_toArray];exact hlen
  refine ⟨by rw[hlen];exact infoCP,by rw[e];exact K2.out.1.2.2,by rw[e];exact infoCP⟩
 clear hlen
 go_wp2_with (first|(refine wpList_load_mid rfl 61 _ rfl g o ?_ (bl33 bs) d ?_ ?_ ?_ ?_ ?_;rfl;exact K2.out.2.2;exact HD.out.1;exact HD.out.2;exact HI.out.1;rw[hvt.out])|(refine wpList_store_mid rfl 61 _ _ rfl w.heap.size 0 (bl33 bs).toArray ?_ ?_ ?_ ?_ ?_ ?_;rfl;exact hvt.out.symm;exact HI.out.2.1;exact HI.out.2.2;exact bl33_one bs;rw[show (bl33 bs).toArray.toList=bl33 bs from rfl,hw3.out])|fail)
 refine bodyPost_ret (results_ct 2 3 61 rfl K3.out.1 rfl rfl uCP HI.out.1) rfl ?_
 exact ⟨_,rfl,K3.out.2,rfl⟩
theorem cRead_n (C:Fld P) (v:Value) (bs:Bs) (w:World) (hv:Arg33 w v bs) (hr:rd P bs=none):Calls Tryz.prog 23 #[v] w (Ret fun e w'=>Below w.heap.size w w'∧e=.tuple #[.agg z33.toArray,.bool false]):=by
 have HG:Hid (∀ W,Below w.heap.size w W→Calls Tryz.prog 59 #[v] W (Ret fun e w'=>Below W.heap.size W w'∧e=.bool false)):=fun W hb=>by
  have h:=gPoint_c C v bs W (hv.below hb)
  rw[hr] at h
  exact h
 clear hv hr C
 obtain ⟨w1,hw1⟩:∃ w1,Hid (w.alloc (.cells z33.toArray 61)=w1):=⟨_,rfl⟩
 have K1:Hid (Row w1 w.heap.size z33∧Below w.heap.size w w1):=by rw[← hw1.out];exact ⟨row_new w _ _,below1 w _⟩
 obtain ⟨vt,hvt⟩:∃ vt,Hid (Value.agg z33.toArray=vt):=⟨_,rfl⟩
 have HO:Hid (z33.toArray.all (·.oneCell')=true):=by show _=_;decide +kernel
 go_enter Tryz.func23,Tryz.ntmps23
 go_wp2_with (first|(refine wpList_op (v:=.pointer (some ⟨w.heap.size,0,none⟩)) (w':=w1) rfl (.alloc 61) rfl ?_ ?_;(rw[← hw1.out];kernel_rfl))|fail)
 refine (HG.out w1 K1.out.2).mono ?_
 rintro e w2 ⟨vv,rfl,hb2,rfl⟩
 have K2:Hid (Row w2 w.heap.size z33∧Below w.heap.size w w2):=⟨K1.out.1.below hb2,K1.out.2.trans (hb2.mono K1.out.2.size)⟩
 clear hb2 K1 hw1 HG
 obtain ⟨w3,hw3⟩:∃ w3,Hid (w2.setCells w.heap.size 0 z33=w3):=⟨_,rfl⟩
 have K3:Hid (Row w3 w.heap.size z33∧Below w.heap.size w w3):=by rw[← hw3.out];exact ⟨K2.out.1.put rfl,RG.below_setCells (Nat.le_refl _) _ _ _ K2.out.2⟩
 have HB:=Hid.mk' (bldCP w2)
 rw[hvt.out] at HB
 go_wp2_with (first|(refine wpList_bld (v:=vt) (w':=w2) rfl 61 _ rfl #[] ?_ ?_ ?_;kernel_rfl;exact HB.out)|(refine wpList_store_mid rfl 61 _ _ rfl w.heap.size 0 z33.toArray ?_ ?_ ?_ ?_ ?_ ?_;rfl;exact hvt.out.symm;exact K2.out.1.2.2;exact infoCP;exact HO.out;rw[show z33.toArray.toList=z33 from rfl,hw3.out])|fail)
 refine bodyPost_ret (results_ct 2 3 61 rfl K3.out.1 rfl rfl uCP infoCP) rfl ?_
 exact ⟨_,rfl,K3.out.2,rfl⟩
theorem atP (k o n c i:Nat) (hi:i<n) (w:World):(Instr.indexAt 74 (.slice (some ⟨k,o,none⟩) n c) (.int .i64 i)).run Tryz.prog w=.ok (.pointer (some ⟨k,o+33*i,none⟩)) w:=by
 have h1:¬ (i:Int)<0:=by omega
 have h2:(i:Int)<n:=by omega
 go_simp
theorem mkPL (N:Nat) (hN:N≤512):∃ C0:List Value,C0.length=33*N∧∀ w:World,(Instr.makeSlice 74 (.int .i64 N) (.int .i64 N)).run Tryz.prog w=.ok (.slice (some ⟨w.heap.size,0,none⟩) N N) (w.alloc (.cells C0.toArray 61)):=by
 have hu:Tryz.prog.underlying 74=some (.slice 61):=by kernel_rfl
 have hi:(Tryz.prog.info? 61).map (fun i=>(i.size,decide (i.bytes≤4000),i.zero.isSome))=some (33,true,true):=by kernel_rfl
 obtain ⟨i,hi1,hi2⟩:=Option.map_eq_some_iff.1 hi
 simp only[Prod.mk.injEq,decide_eq_true_eq] at hi2
 obtain ⟨h1,h2,h3⟩:=hi2
 obtain ⟨z,hz⟩:=Option.isSome_iff_exists.1 h3
 refine ⟨(madeCells z.cells (N*33)).toList,by rw[Array.length_toList,size_madeCells,Nat.mul_comm],fun w=>?_⟩
 have hb:(i.bytes:Int)*(N:Int)≤281474976710656:=by
  have:i.bytes*N≤4000*512:=Nat.mul_le_mul h2 hN
  have h5:((i.bytes*N:Nat):Int)≤281474976710656:=by omega
  rwa[Int.natCast_mul] at h5
 have:=run_make (P:=Tryz.prog) w 74 61 i z hu hi1 hz .i64 .i64 (N:Int) (N:Int) (by omega) (by omega) hb (by omega)
 rw[Int.toNat_natCast,h1] at this
 rw[Array.toArray_toList]
 exact this
structure Az (w W:World) (K k i:Nat) (L:Nat→Bs):Prop where
 bl:Below w.heap.size w W
 lt:K<W.heap.size
 th:W.there K 0 (33*k)
 rw:∀ j,j<i→W.rangeAt K (33*j) (bl33 (L j))
theorem Az.grow {w W W':World} {K k i:Nat} {L:Nat→Bs} (h:Az w W K k i L) (hb:Below W.heap.size W W'):Az w W' K k i L:=
 ⟨h.bl.trans (hb.mono h.bl.size),Nat.lt_of_lt_of_le h.lt hb.size,RG.there_below h.th hb h.lt,fun j hj=>RG.range_below (h.rw j hj) hb h.lt⟩
theorem Az.put {w W:World} {K k i:Nat} {L:Nat→Bs} (h:Az w W K k i L) (hK:w.heap.size≤K) (hi:i<k) (hL:∀ j,j≤i→(L j).size=33):Az w (W.setCells K (33*i) (bl33 (L i))) K k (i+1) L:=by
 refine ⟨RG.below_setCells hK _ _ _ h.bl,by rw[RG.setCells_size];exact h.lt,World.there_setCells h.th _ _ _,fun j hj=>?_⟩
 by_cases hji:j=i
 ·subst hji
  refine World.rangeAt_setCells_same W K _ _ fun t ht=>?_
  rw[bl33_length (hL j (Nat.le_refl _))] at ht
  have:=h.th (33*j+t) (by omega)
  rwa[Nat.zero_add] at this
 ·exact World.rangeAt_setCells_apart (h.rw j (by omega)) K _ _ (Or.inr (Or.inl (by rw[bl33_length (hL j (by omega))];omega)))
def AllR (P:Nat) [NeZero P] (w:World) (k:Nat) (L:Nat→Bs) (e:Value) (w':World):Prop:=
 Below w.heap.size w w'∧(((∀ j,j<k→∃ p,rd P (L j)=some p)∧∃ K,e=.tuple #[.slice (some ⟨K,0,none⟩) k k,.bool true]∧w.heap.size≤K∧K<w'.heap.size∧∀ j,j<k→w'.rangeAt K (33*j) (bl33 (L j)))∨((∃ j,j<k∧rd P (L j)=none)∧e=.tuple #[.slice none 0 0,.bool false]))
def AllRt (P:Nat) [NeZero P] (w:World) (k:Nat) (L:Nat→Bs) (e:Value) (w':World):Prop:=
 Below w.heap.size w w'∧(((∀ j,j<k→∃ p,rd P (L j)=some p)∧∃ K,e=.tuple #[.slice (some ⟨K,0,none⟩) k k,.bool true]∧w.heap.size≤K∧K<w'.heap.size∧w'.there K 0 (33*k)∧∀ j,j<k→w'.rangeAt K (33*j) (bl33 (L j)))∨((∃ j,j<k∧rd P (L j)=none)∧e=.tuple #[.slice none 0 0,.bool false]))
theorem allP_x (C:Fld P) (gg o k c:Nat) (hk:k≤512) (L:Nat→Bs) (w:World) (hg:gg<w.heap.size) (hL:∀ j,j<k→∃ v,w.cell? ⟨gg,o+j,none⟩=some v∧Arg33 w v (L j)) :
 Calls Tryz.prog 60 #[.func (.func 23) #[] #[],.slice (some ⟨gg,o,none⟩) k c] w (Ret (AllRt P w k L)):=by
 obtain ⟨C0,hC0,hmk⟩:=mkPL k hk
 have hmk':=hmk w
 obtain ⟨w1,hw1⟩:∃ w1,Hid (w.alloc (.cells C0.toArray 61)=w1):=⟨_,rfl⟩
 rw[hw1.out] at hmk'
 have HM:=Hid.mk' hmk'
 have K1:Hid (Az w w1 w.heap.size k 0 L):=by
  have hR:Row w1 w.heap.size C0:=by rw[← hw1.out];exact row_new w _ _
  refine ⟨by rw[← hw1.out];exact below1 _ _,hR.1,by rw[← hC0];exact hR.2.2,fun j hj=>by omega⟩
 have HC:Hid (Fld P∧(∀ j,j<k→∃ v,w.cell? ⟨gg,o+j,none⟩=some v∧Arg33 w v (L j))∧gg<w.heap.size):=⟨C,hL,hg⟩
 obtain ⟨d,hd1,hd2⟩:=Option.map_eq_some_iff.1 uCP
 have HD:Hid (Tryz.prog.underlying 61=some d∧d.isRow=true):=⟨hd1,hd2⟩
 have HO:Hid (z33.toArray.all (·.oneCell')=true):=by show _=_;decide +kernel
 clear hd1 hd2 C hL hg hmk hC0 hw1
 go_enter Tryz.func60,Tryz.ntmps60
 go_wp2
 clear hmk'
 go_loopg [16] k (fun m s16 W=>∃ i:Nat,i+m=k∧s16=.int .i64 i∧Hid (Az w W w.heap.size k i L∧∀ j,j<i→∃ p,rd P (L j)=some p))
 case atStart=>exact ⟨0,by omega,rfl,K1.out,fun j hj=>by omega⟩
 case round =>
  clear K1 HM
  obtain ⟨i,hik,rfl,KM⟩:=hrel
  by_cases hi:i<k
  ·have hi':(i:Int)<(k:Int):=by omega
   obtain ⟨v,hc0,hA0⟩:=HC.out.2.1 i hi
   have hc:wr.cell? ⟨gg,o+i,none⟩=some v:=by rw[KM.out.1.bl.cell (p:=⟨gg,o+i,none⟩) HC.out.2.2];exact hc0
   have HA:Hid (Arg33 wr v (L i)):=hA0.below KM.out.1.bl
   have hix:=atB gg o k c i hi
   rw[show o+1*i=o+i by omega] at hix
   clear hc0 hA0
   obtain ⟨b,hbe⟩:∃ b,Hid (L i=b):=⟨_,rfl⟩
   rw[hbe.out] at HA
   obtain ⟨k9,hk9⟩:∃ k9:Nat,True:=⟨0,trivial⟩
   clear hk9 k9
   cases hr:rd P b with
   | none =>
    go_wp2_with fail
    refine (cRead_n HC.out.1 v b wr HA.out hr).mono ?_
    rintro e W1 ⟨vv,rfl,hb1,rfl⟩
    obtain ⟨vz,hvz⟩:∃ vz,Hid (Value.agg z33.toArray=vz):=⟨_,rfl⟩
    rw[hvz.out]
    obtain ⟨k9,hk9⟩:∃ k9,Hid (W1.heap.size=k9):=⟨_,rfl⟩
    obtain ⟨W2,hW2⟩:∃ W2,Hid (W1.alloc (.cells z33.toArray 61)=W2):=⟨_,rfl⟩
    obtain ⟨W3,hW3⟩:∃ W3,Hid (W2.setCells k9 0 z33=W3):=⟨_,rfl⟩
    have F2:Hid (Row W2 k9 z33∧Below w.heap.size w W2∧w.heap.size≤k9):=by
     have hbb:Below w.heap.size w W1:=KM.out.1.bl.trans (hb1.mono KM.out.1.bl.size)
     rw[← hW2.out,← hk9.out]
     exact ⟨row_new W1 _ _,hbb.alloc hbb.size _,hbb.size⟩
    have K3:Hid (Below w.heap.size w W3):=by rw[← hW3.out];exact RG.below_setCells F2.out.2.2 _ _ _ F2.out.2.1
    have HN:Hid (i<k∧rd P (L i)=none):=⟨hi,by rw[hbe.out];exact hr⟩
    clear hb1 KM hr
    go_wp2_with (first|(refine wpList_op (v:=.pointer (some ⟨k9,0,none⟩)) (w':=W2) rfl (.alloc 61) rfl ?_ ?_;(rw[← hW2.out,← hk9.out];kernel_rfl))|(refine wpList_store_mid rfl 61 _ _ rfl k9 0 z33.toArray ?_ ?_ ?_ ?_ ?_ ?_;rfl;exact hvz.out.symm;exact F2.out.1.2.2;exact infoCP;exact HO.out;rw[show z33.toArray.toList=z33 from rfl,hW3.out])|fail)
    go_ret2
    exact ⟨_,rfl,K3.out,Or.inr ⟨⟨i,HN.out⟩,rfl⟩⟩
   | some p =>
    have hs:=rd_33 hr
    go_wp2_with fail
    refine (cRead_y HC.out.1 v b p wr HA.out hr).mono ?_
    rintro e W1 ⟨vv,rfl,hb1,rfl⟩
    obtain ⟨vz,hvz⟩:∃ vz,Hid (pvl b=vz):=⟨_,rfl⟩
    rw[hvz.out]
    have hlen:(bl33 b).length=33:=bl33_length hs
    have hsz:(bl33 b).toArray.size=33:=by rw[List.size_toArray];exact hlen
    obtain ⟨k9,hk9⟩:∃ k9,Hid (W1.heap.size=k9):=⟨_,rfl⟩
    obtain ⟨W2,hW2⟩:∃ W2,Hid (W1.alloc (.cells z33.toArray 61)=W2):=⟨_,rfl⟩
    obtain ⟨W3,hW3⟩:∃ W3,Hid (W2.setCells k9 0 (bl33 b)=W3):=⟨_,rfl⟩
    obtain ⟨W4,hW4⟩:∃ W4,Hid (W3.setCells w.heap.size (33*i) (bl33 b)=W4):=⟨_,rfl⟩
    have A1:Az w W1 w.heap.size k i L:=KM.out.1.grow hb1
    have F2:Hid (Row W2 k9 z33∧Below W1.heap.size W1 W2):=by
     rw[← hW2.out,← hk9.out]
     exact ⟨row_new W1 _ _,below1 _ _⟩
    have F3:Hid (Row W3 k9 (bl33 b)∧Az w W3 w.heap.size k i L):=by
     rw[← hW3.out]
     exact ⟨F2.out.1.put (by rw[hlen];rfl),A1.grow (RG.below_setCells (by rw[hk9.out];exact Nat.le_refl _) _ _ _ F2.out.2)⟩
    have K4:Hid (Az w W4 w.heap.size k (i+1) L∧∀ j,j<i+1→∃ p,rd P (L j)=some p):=by
     have hall:∀ j,j<i+1→∃ p,rd P (L j)=some p:=fun j hj=>by
      by_cases hji:j=i
      ·subst hji;exact ⟨p,by rw[hbe.out];exact hr⟩
      ·exact KM.out.2 j (by omega)
     have h:=F3.out.2.put (Nat.le_refl _) hi (fun j hj=>by obtain ⟨q,hq⟩:=hall j (by omega);exact rd_33 hq)
     rw[hbe.out,hW4.out] at h
     exact ⟨h,hall⟩
    have HI:Hid ((Tryz.prog.info? 61).map (·.size)=some (bl33 b).length∧(Tryz.prog.info? 61).map (·.size)=some (bl33 b).toArray.size∧W2.there k9 0 (bl33 b).toArray.size∧W3.there w.heap.size (33*i) (bl33 b).toArray.size):=by
     rw[hlen,hsz]
     refine ⟨infoCP,infoCP,F2.out.1.2.2,fun t ht=>?_⟩
     have:=F3.out.2.th (33*i+t) (by omega)
     rwa[Nat.zero_add] at this
    have hix2:=atP w.heap.size 0 k k i hi
    clear hb1 KM hr hlen hsz A1 hs
    go_wp2_with (first|(refine wpList_op (v:=.pointer (some ⟨k9,0,none⟩)) (w':=W2) rfl (.alloc 61) rfl ?_ ?_;(rw[← hW2.out,← hk9.out];kernel_rfl))|(refine wpList_store_mid rfl 61 _ _ rfl k9 0 (bl33 b).toArray ?_ ?_ ?_ ?_ ?_ ?_;rfl;exact hvz.out.symm;exact HI.out.2.2.1;exact HI.out.2.1;exact bl33_one b;rw[show (bl33 b).toArray.toList=bl33 b from rfl,hW3.out])|(refine wpList_load_mid rfl 61 _ rfl k9 0 ?_ (bl33 b) d ?_ ?_ ?_ ?_ ?_;rfl;exact F3.out.1.2.1;exact HD.out.1;exact HD.out.2;exact HI.out.1;rw[show Value.agg (bl33 b).toArray=vz from hvz.out])|(refine wpList_store_mid rfl 61 _ _ rfl w.heap.size (33*i) (bl33 b).toArray ?_ ?_ ?_ ?_ ?_ ?_;rfl;exact hvz.out.symm;exact HI.out.2.2.2;exact HI.out.2.1;exact bl33_one b;rw[show (bl33 b).toArray.toList=bl33 b from rfl,hW4.out])|fail)
    go_roundg (gk-1)
    case measure=>omega
    case rel=>exact ⟨i+1,by omega,rfl,K4⟩
  ·have hi':¬ (i:Int)<(k:Int):=by omega
   obtain rfl:i=k:=by omega
   go_wp2
   go_ret2
   exact ⟨_,rfl,KM.out.1.bl,Or.inl ⟨KM.out.2,w.heap.size,rfl,Nat.le_refl _,KM.out.1.lt,KM.out.1.th,KM.out.1.rw⟩⟩
theorem allP_t (C:Fld P) (gg k c:Nat) (hk:k≤512) (L:Nat→Bs) (w:World) (hg:gg<w.heap.size) (hL:∀ j,j<k→∃ v,w.cell? ⟨gg,j,none⟩=some v∧Arg33 w v (L j)) :
 Calls Tryz.prog 60 #[.func (.func 23) #[] #[],.slice (some ⟨gg,0,none⟩) k c] w (Ret (AllRt P w k L)):=allP_x C gg 0 k c hk L w hg fun j hj=>by rw[Nat.zero_add];exact hL j hj
theorem allP_c (C:Fld P) (gg k c:Nat) (hk:k≤512) (L:Nat→Bs) (w:World) (hg:gg<w.heap.size) (hL:∀ j,j<k→∃ v,w.cell? ⟨gg,j,none⟩=some v∧Arg33 w v (L j)) :
 Calls Tryz.prog 60 #[.func (.func 23) #[] #[],.slice (some ⟨gg,0,none⟩) k c] w (Ret (AllR P w k L)):=by
 refine (allP_t C gg k c hk L w hg hL).mono ?_
 rintro e w' ⟨v,rfl,hb,h⟩
 refine ⟨_,rfl,hb,?_⟩
 rcases h with ⟨h1,K,h2,h3,h4,-,h5⟩|h
 ·exact Or.inl ⟨h1,K,h2,h3,h4,h5⟩
 ·exact Or.inr h
end
end Go.Proofs.YtnfpdihkjkimiaaGreat
