import Derived.KernelRfl
import Derived.Below
import Derived.Deep.MidRow
import Derived.WalkKit
import Derived.Test.YtlofhpkoaljmeaaGreatRows
import Derived.Lib.Mul64
import Derived.Laws.Bits64b
import Derived.Laws.Externs
import Derived.Sort.Row
import Derived.Deep.LoopGhost
import Derived.Deep.QuietTactic
import Derived.StillTailTactics
import Derived.BigRegion
import Derived.BigQuiet
import Derived.WalkSpells
import Derived.WalkLawsBesides
import Derived.OrdersHeld
import Derived.Orders
import Derived.Deep.CutRange
import Derived.Deep.Draws
set_option linter.unusedVariables false
set_option linter.constructorNameAsVariable false
set_option linter.unusedSimpArgs false
set_option maxRecDepth 1000000
set_option maxHeartbeats 4000000
namespace Go.Proofs.YtlofhpkoaljmeaaGreat
section
variable {P:Nat} [NeZero P] {N:Nat}
theorem oM {p:Prop} (h:p:=by omega):p:=h
theorem kR {p:Prop} (h:p:=by kernel_rfl):p:=h
theorem dC {p:Prop} (h:p:=by decide):p:=h
theorem dK {p:Prop} (h:p:=by decide +kernel):p:=h
end
section
open Go Go.RowKit
theorem hE {α:Sort _} (x:α):∃ y,Hid (x=y):=⟨x,rfl⟩
theorem mk1 {p:Prop} (h:p):Hid p:=h
theorem mk2 {p0 p1:Prop} (k:p0) (b:p1):Hid (p0∧p1):=⟨k,b⟩
theorem mk3 {p0 p1 p2:Prop} (b:p0) (c:p1) (k:p2):Hid (p0∧p1∧p2):=⟨b,c,k⟩
theorem mk4 {p0 p1 p2 k:Prop} (c:p0) (e:p1) (b:p2) (d:k):Hid (p0∧p1∧p2∧k):=⟨c,e,b,d⟩
theorem mk5 {p0 p1 p2 k b:Prop} (e:p0) (f:p1) (c:p2) (g:k) (d:b):Hid (p0∧p1∧p2∧k∧b):=⟨e,f,c,g,d⟩
theorem mk6 {p0 p1 p2 b c k:Prop} (f:p0) (i:p1) (d:p2) (j:b) (e:c) (g:k):Hid (p0∧p1∧p2∧b∧c∧k):=⟨f,i,d,j,e,g⟩
theorem mk7 {p0 p1 p2 b c k p6:Prop} (f:p0) (j:p1) (d:p2) (l:b) (e:c) (i:k) (g:p6):Hid (p0∧p1∧p2∧b∧c∧k∧p6):=⟨f,j,d,l,e,i,g⟩
theorem mk8 {p0 p1 p2 b c k p6 p7:Prop} (f:p0) (l:p1) (d:p2) (j:b) (e:c) (i:k) (g:p6) (m:p7):Hid (p0∧p1∧p2∧b∧c∧k∧p6∧p7):=⟨f,l,d,j,e,i,g,m⟩
section
variable {P:Program} {ops:Array Oper} {rest:List Oper} {op:Oper} {a:Act} {w w':World} {Q:Exit→Act→World→Prop} {T:TypeId} {y:Operand} {g o:Nat} {cs:List Value} {v:Value} {ob:Obj}
theorem stR (t:Tmp) (c:Hid (w.setCells g o cs=w')) (hv:Hid (.agg cs.toArray=v)) (th:w.there g o cs.toArray.size) (b:(P.info? T).map (·.size)=some cs.toArray.size) (e:cs.toArray.all (·.oneCell')=true) (h:wpList P ops Q rest (a.put op.dst undef) w') (k:op.guard=none:=by rfl) (ho:op.op=.store T (.tmp t) y:=by rfl) (hx:a.eval (.tmp t)=.pointer (some ⟨g,o,none⟩):=by rfl) (d:a.eval y=v:=by rfl):wpList P ops Q (op :: rest) a w:=
 wpList_store_mid k T (.tmp t) y ho g o cs.toArray hx (d.trans hv.out.symm) th b e (by rw[show cs.toArray.toList=cs from rfl,c.out];exact h)
theorem ldR (t:Tmp) (b:w.rangeAt g o cs) (hv:Hid (.agg cs.toArray=v)) (e:(P.underlying T).map (·.isRow)=some true) (f:(P.info? T).map (·.size)=some cs.length) (h:wpList P ops Q rest (a.put op.dst v) w) (k:op.guard=none:=by rfl) (ho:op.op=.load T (.tmp t):=by rfl) (hx:a.eval (.tmp t)=.pointer (some ⟨g,o,none⟩):=by rfl):wpList P ops Q (op :: rest) a w:=by
 obtain ⟨d,i,c⟩:=Option.map_eq_some_iff.1 e
 exact wpList_load_mid k T (.tmp t) ho g o hx cs d b i c f (by rw[hv.out];exact h)
theorem alR (t:Tmp) (d:Hid (w.heap.size=g)) (e:Hid (w.alloc ob=w')) (h:wpList P ops Q rest (a.put op.dst (.pointer (some ⟨g,0,none⟩))) w') (hd:op.dst=some t:=by rfl) (k:op.guard=none:=by rfl) (b:(execOp a.eval op).run P w=.ok (.value (.pointer (some ⟨w.heap.size,0,none⟩))) (w.alloc ob):=by kernel_rfl):wpList P ops Q (op :: rest) a w:=
 wpList_plain k fun K c=>by
  unfold Oper.wp
  rw[b,d.out,e.out]
  exact c _ _ h
end
end
section
open Go.RowKit
variable {P:Nat} [NeZero P] {N:Nat}
def val (a b c d:Nat):Nat:=a+18446744073709551616*b+340282366920938463463374607431768211456*c+6277101735386680763835789423207666416102355444464034512896*d
def Four (v:Value) (n:Nat):Prop:=∃ a b c d:Nat,v=.agg #[.int .u64 a,.int .u64 b,.int .u64 c,.int .u64 d] ∧
 a<18446744073709551616∧b<18446744073709551616∧c<18446744073709551616∧d<18446744073709551616∧n=val a b c d
def top:Nat:=115792089237316195423570985008687907853269984665640564039457584007913129639936
theorem val_lt {a b c d:Nat} (f:a<18446744073709551616) (k:b<18446744073709551616) (e:c<18446744073709551616) (hd:d<18446744073709551616):val a b c d<top:=by
 unfold val top;omega
theorem Four.lt {v:Value} {n:Nat} (h:Four v n):n<top:=by
 obtain ⟨a,b,c,d,-,e,k,f,hd,rfl⟩:=h
 exact val_lt e k f hd
theorem val_inj {a b c d p q r s:Nat} (g:a<18446744073709551616) (k:b<18446744073709551616) (i:c<18446744073709551616)
 (e:p<18446744073709551616) (j:q<18446744073709551616) (f:r<18446744073709551616) (h:val a b c d=val p q r s):a=p∧b=q∧c=r∧d=s:=by
 unfold val at h;omega
theorem Four.inj {v k:Value} {n:Nat} (h:Four v n) (f:Four k n):v=k:=by
 obtain ⟨a,b,c,d,rfl,m,j,o,hd,e⟩:=h
 obtain ⟨p,q,r,s,rfl,g,i,l,t,e'⟩:=f
 obtain ⟨rfl,rfl,rfl,rfl⟩:=val_inj m j o g i l (e.symm.trans e')
 rfl
theorem Four.num {v:Value} {n m:Nat} (h:Four v n) (k:Four v m):n=m:=by
 obtain ⟨a,b,c,d,rfl,l,i,t,hd,rfl⟩:=h
 obtain ⟨p,q,r,s,e,f,g,j,o,rfl⟩:=k
 simp only[Value.agg.injEq,Array.mk.injEq,List.cons.injEq,Value.int.injEq,true_and,and_true,Int.ofNat_inj] at e
 obtain ⟨rfl,rfl,rfl,rfl⟩:=e
 rfl
theorem Four.mk {a b c d n:Nat} (e:a<18446744073709551616) (k:b<18446744073709551616) (g:c<18446744073709551616) (hd:d<18446744073709551616) (f:n=val a b c d) :
 Four (.agg #[.int .u64 a,.int .u64 b,.int .u64 c,.int .u64 d]) n:=⟨a,b,c,d,rfl,e,k,g,hd,f⟩
theorem ret_int {k:IntKind} {a b:Int} (h:a=b):Ending.returned (.int k a)=.returned (.int k b):=by rw[h]
end
section
open Go.RowKit Go.Sort
variable {P:Nat} [NeZero P] {N:Nat}
theorem mixed:Tryz.prog.follows .mixedOrders=true:=kR
theorem add64 (x y c:Nat) (hx:x<18446744073709551616) (d:y<18446744073709551616) (b:c≤1) :
 ∃ s k:Nat,(∀ w,(callFunc 102 #[.int .u64 x,.int .u64 y,.int .u64 c]).run Tryz.prog w=.ok (.value (.tuple #[.int .u64 s,.int .u64 k])) w) ∧
  s<18446744073709551616∧k≤1∧s+18446744073709551616*k=x+y+c:=by
 refine ⟨(x+y+c)%18446744073709551616,(x+y+c)/18446744073709551616,fun w=>?_,oM,oM,oM⟩
 rw[run_callFunc_extern Tryz.func102 kR kR kR (e:=add64Entry) kR,run_add64 x y c oM oM oM oM]
 simp only[Result.andThen]
 congr 5<;>omega
theorem sub64 (x y c:Nat) (hx:x<18446744073709551616) (d:y<18446744073709551616) (b:c≤1) :
 ∃ s k:Nat,(∀ w,(callFunc 214 #[.int .u64 x,.int .u64 y,.int .u64 c]).run Tryz.prog w=.ok (.value (.tuple #[.int .u64 s,.int .u64 k])) w) ∧
  s<18446744073709551616∧k≤1∧s+y+c=x+18446744073709551616*k:=by
 refine ⟨(x+18446744073709551616-y-c)%18446744073709551616,if x<y+c then 1 else 0,fun w=>?_,oM,by split<;>omega,by split<;>omega⟩
 rw[run_callFunc_extern Tryz.func214 kR kR kR (e:=(Extern.MathBitsCarry.rows[1]).2) kR]
 have:c=0∨c=1:=oM
 rcases this with rfl|rfl<;>rfl
theorem add64z (x y:Nat) (hx:x<18446744073709551616) (b:y<18446744073709551616) :
 ∃ s k:Nat,(∀ w,(callFunc 102 #[.int .u64 x,.int .u64 y,.int .u64 0]).run Tryz.prog w=.ok (.value (.tuple #[.int .u64 s,.int .u64 k])) w) ∧
  s<18446744073709551616∧k≤1∧s+18446744073709551616*k=x+y:=add64 x y 0 hx b (Nat.zero_le 1)
theorem sub64z (x y:Nat) (hx:x<18446744073709551616) (b:y<18446744073709551616) :
 ∃ s k:Nat,(∀ w,(callFunc 214 #[.int .u64 x,.int .u64 y,.int .u64 0]).run Tryz.prog w=.ok (.value (.tuple #[.int .u64 s,.int .u64 k])) w) ∧
  s<18446744073709551616∧k≤1∧s+y=x+18446744073709551616*k:=sub64 x y 0 hx b (Nat.zero_le 1)
theorem maskN (a:Nat) (k:a<18446744073709551616):bits .and .u64 (a:Int) 4294967295=((a%4294967296:Nat):Int):=by
 have h:=bits_and_u64_nat a 4294967295 k oM
 rw[show a &&& 4294967295=a%4294967296 from Nat.and_two_pow_sub_one_eq_mod a 32] at h
 exact h
theorem divN (a:Nat):(a:Int)/4294967296=((a/4294967296:Nat):Int):=oM
theorem mulN (a b:Nat):(a:Int)*(b:Int)=((a*b:Nat):Int):=(Int.natCast_mul a b).symm
theorem addN (a b:Nat):(a:Int)+(b:Int)=((a+b:Nat):Int):=(Int.natCast_add a b).symm
theorem wrapN (a:Nat) (k:a<18446744073709551616):IntKind.u64.wrap (a:Int)=(a:Int):=by rw[IntKind.wrap_u64];omega
theorem wrapM (a:Nat):IntKind.u64.wrap (a:Int)=((a%18446744073709551616:Nat):Int):=by rw[IntKind.wrap_u64];omega
theorem mul64e (x y:Nat) (hx:x<18446744073709551616) (f:y<18446744073709551616) (w:World) :
 Calls Tryz.prog 208 #[.int .u64 x,.int .u64 y] w fun e w'=>e=.returned (.tuple #[.int .u64 ((x*y/18446744073709551616:Nat):Int),.int .u64 ((x*y%18446744073709551616:Nat):Int)])∧w'=w:=by
 obtain ⟨i,d,bw,k⟩:=Lib.mul64_hi x y hx f
 have n:=Lib.half_mul_le (a:=x/4294967296) (b:=y/4294967296) oM oM
 have o:=Lib.half_mul_le (a:=x/4294967296) (b:=y%4294967296) oM oM
 have m:=Lib.half_mul_le (a:=x%4294967296) (b:=y/4294967296) oM oM
 have b1:x/4294967296*(y/4294967296)<18446744073709551616:=oM
 have g:x/4294967296*(y%4294967296)<18446744073709551616:=oM
 have j:x%4294967296*(y/4294967296)<18446744073709551616:=oM
 have c:x/4294967296*(y/4294967296)+(x/4294967296*(y%4294967296)+x%4294967296*(y%4294967296)/4294967296)/4294967296<18446744073709551616:=oM
 have l:x/4294967296*(y/4294967296)+(x/4294967296*(y%4294967296)+x%4294967296*(y%4294967296)/4294967296)/4294967296+((x/4294967296*(y%4294967296)+x%4294967296*(y%4294967296)/4294967296)%4294967296+x%4294967296*(y/4294967296))/4294967296<18446744073709551616:=oM
 go_enter Tryz.func208,Tryz.ntmps208
 go_wp2
 simp only[maskN x hx,maskN y f,divN,mulN,addN,wrapN _ i,wrapN _ g,wrapN _ d,maskN _ d,wrapN _ j,wrapN _ bw,wrapN _ b1,wrapN _ c,wrapN _ l,wrapM (x*y)]
 rw[k]
 go_ret2
 exact ⟨rfl,rfl⟩
theorem mul64q (x y:Nat) (hx:x<18446744073709551616) (k:y<18446744073709551616) :
 ∃ h l:Nat,(∀ w,Calls Tryz.prog 208 #[.int .u64 x,.int .u64 y] w fun e w'=>e=.returned (.tuple #[.int .u64 h,.int .u64 l])∧w'=w) ∧
  h<18446744073709551616∧l<18446744073709551616∧l+18446744073709551616*h=x*y:=by
 have b:x*y≤18446744073709551615*18446744073709551615:=Nat.mul_le_mul oM oM
 exact ⟨_,_,fun w=>mul64e x y hx k w,oM,oM,oM⟩
theorem mul64 (x y:Nat) (hx:x<18446744073709551616) (d:y<18446744073709551616) (w:World) :
 Calls Tryz.prog 208 #[.int .u64 x,.int .u64 y] w fun e w'=>w'=w∧∃ h l:Nat,e=.returned (.tuple #[.int .u64 h,.int .u64 l]) ∧
  h<18446744073709551616∧l<18446744073709551616∧l+18446744073709551616*h=x*y:=by
 obtain ⟨h,l,c,g,b,f⟩:=mul64q x y hx d
 exact (c w).mono fun e w' k=>⟨k.2,h,l,k.1,g,b,f⟩
theorem mulstep (x y o c:Nat) (hx:x<18446744073709551616) (p:y<18446744073709551616) (ho:o<18446744073709551616) (r:c<18446744073709551616) :
 ∃ h l s1 k s2 b g d:Nat,(∀ w,Calls Tryz.prog 208 #[.int .u64 x,.int .u64 y] w fun e w'=>e=.returned (.tuple #[.int .u64 h,.int .u64 l])∧w'=w) ∧
  (∀ w,(callFunc 102 #[.int .u64 l,.int .u64 c,.int .u64 0]).run Tryz.prog w=.ok (.value (.tuple #[.int .u64 s1,.int .u64 k])) w) ∧
  (∀ w,(callFunc 102 #[.int .u64 o,.int .u64 s1,.int .u64 0]).run Tryz.prog w=.ok (.value (.tuple #[.int .u64 s2,.int .u64 b])) w) ∧
  IntKind.u64.wrap ((h:Int)+(k:Int))=(g:Int)∧IntKind.u64.wrap ((g:Int)+(b:Int))=(d:Int) ∧
  s2<18446744073709551616∧d<18446744073709551616∧s2+18446744073709551616*d=x*y+o+c:=by
 have s:x*y≤18446744073709551615*18446744073709551615:=Nat.mul_le_mul oM oM
 obtain ⟨h,l,m,hh,j,t⟩:=mul64q x y hx p
 obtain ⟨s1,k,q,d,n,u⟩:=add64z l c j r
 obtain ⟨s2,b,a2,f,i,e3⟩:=add64z o s1 ho d
 refine ⟨h,l,s1,k,s2,b,h+k,h+k+b,m,q,a2,?_,?_,f,oM,oM⟩
 ·rw[addN];exact wrapN _ oM
 ·rw[addN];exact wrapN _ oM
theorem cell_any (x y o c:Nat) (hx:x<18446744073709551616) (n:y<18446744073709551616) (ho:o<18446744073709551616) (p:c<18446744073709551616) (w:World) :
 Calls Tryz.prog 195 #[.int .u64 x,.int .u64 y,.int .u64 o,.int .u64 c] w fun e w'=>w'=w∧∃ l h:Nat,e=.returned (.tuple #[.int .u64 l,.int .u64 h]) ∧
  h<18446744073709551616∧l<18446744073709551616∧l+18446744073709551616*h=x*y+o+c:=by
 have q:x*y≤18446744073709551615*18446744073709551615:=Nat.mul_le_mul oM oM
 go_enter Tryz.func195,Tryz.ntmps195
 go_wp2_with fail
 refine (mul64 x y hx n _).mono ?_
 rintro e i ⟨rfl,h,l,rfl,hh,g,r⟩
 obtain ⟨s1,k,u,d,j,s⟩:=add64z l o g ho
 obtain ⟨s2,b,a2,m,f,e3⟩:=add64z s1 c d p
 have i:IntKind.u64.wrap ((h:Int)+(k:Int))=((h+k:Nat):Int):=by rw[addN];exact wrapN _ oM
 have t:IntKind.u64.wrap (((h+k:Nat):Int)+(b:Int))=((h+k+b:Nat):Int):=by rw[addN];exact wrapN _ oM
 go_wp2
 go_ret2
 refine ⟨rfl,s2,h+k+b,?_,oM,oM,oM⟩
 rfl
def Ret (Q:Value→World→Prop) (e:Ending) (w:World):Prop:=∃ v,e=.returned v∧Q v w
theorem below1 (w:World) (k:Obj):Below w.heap.size w (w.alloc k):=(Below.refl _ _).alloc (Nat.le_refl _) k
theorem below2 (w:World) (k b:Obj):Below w.heap.size w ((w.alloc k).alloc b):=(below1 w k).alloc (by simp) b
theorem below3 (w:World) (k b c:Obj):Below w.heap.size w (((w.alloc k).alloc b).alloc c):=(below2 w k b).alloc (by simp;omega) c
theorem below4 (w:World) (k b c d:Obj):Below w.heap.size w ((((w.alloc k).alloc b).alloc c).alloc d):=(below3 w k b c).alloc (by simp;omega) d
theorem plus_any (x y:Value) (m n:Nat) (hx:Four x m) (G:Four y n) (w:World) :
 Calls Tryz.prog 54 #[x,y] w (Ret fun e w'=>Below w.heap.size w w'∧∃ (v:Value) (s k:Nat),e=.tuple #[v,.int .u64 k]∧Four v s∧k≤1∧s+top*k=m+n):=by
 obtain ⟨a,b,c,d,rfl,I,F,L,hd,B⟩:=hx
 obtain ⟨p,q,r,s,rfl,D,E,hr,K,J⟩:=G
 obtain ⟨s0,M,a0,u,t,P⟩:=add64z a p I D
 obtain ⟨s1,C,H,g,j,O⟩:=add64 b q M F E t
 obtain ⟨s2,A,a2,o,f,Q⟩:=add64 c r C L hr j
 obtain ⟨s3,z,N,l,i,e3⟩:=add64 d s A hd K f
 have hv:val s0 s1 s2 s3+top*z=m+n:=by rw[B,J];unfold val top;omega
 go_enter Tryz.func54,Tryz.ntmps54
 go_wp2_with (first|simp only[a0]|simp only[H]|simp only[a2]|simp only[N])
 refine bodyPost_ret (v:=?v) ?hr rfl ?hR
 case hr=>simp[results,Tryz.results54,go_sem];rfl
 exact ⟨_,rfl,below3 _ _ _ _,_,_,z,rfl,Four.mk u g o l rfl,i,hv⟩
theorem minus_any (x y:Value) (m n:Nat) (hx:Four x m) (G:Four y n) (w:World) :
 Calls Tryz.prog 202 #[x,y] w (Ret fun e w'=>Below w.heap.size w w'∧∃ (v:Value) (s k:Nat),e=.tuple #[v,.int .u64 k]∧Four v s∧k≤1∧s+n=m+top*k):=by
 obtain ⟨a,b,c,d,rfl,I,F,L,hd,B⟩:=hx
 obtain ⟨p,q,r,s,rfl,D,E,hr,K,J⟩:=G
 obtain ⟨s0,M,a0,u,t,P⟩:=sub64z a p I D
 obtain ⟨s1,C,H,g,j,O⟩:=sub64 b q M F E t
 obtain ⟨s2,A,a2,o,f,Q⟩:=sub64 c r C L hr j
 obtain ⟨s3,z,N,l,i,e3⟩:=sub64 d s A hd K f
 have hv:val s0 s1 s2 s3+n=m+top*z:=by rw[B,J];unfold val top;omega
 go_enter Tryz.func202,Tryz.ntmps202
 go_wp2_with (first|simp only[a0]|simp only[H]|simp only[a2]|simp only[N])
 refine bodyPost_ret (v:=?v) ?hr rfl ?hR
 case hr=>simp[results,Tryz.results202,go_sem];rfl
 exact ⟨_,rfl,below3 _ _ _ _,_,_,z,rfl,Four.mk u g o l rfl,i,hv⟩
theorem four_any (x:Value) (m:Nat) (hx:Four x m) (w:World) :
 Calls Tryz.prog 55 #[x] w (Ret fun e w'=>Below w.heap.size w w'∧e=x):=by
 obtain ⟨a,b,c,d,rfl,f,k,g,hd,i⟩:=hx
 go_enter Tryz.func55,Tryz.ntmps55
 go_wp2
 refine bodyPost_ret (v:=?v) ?hr rfl ?hR
 case hr=>simp[results,Tryz.results55,go_sem];rfl
 exact ⟨_,rfl,below2 _ _ _,rfl⟩
theorem number_any (x:Value) (m:Nat) (hx:Four x m) (w:World) :
 Calls Tryz.prog 99 #[x] w (Ret fun e w'=>Below w.heap.size w w'∧e=x):=by
 obtain ⟨a,b,c,d,rfl,f,k,g,hd,i⟩:=hx
 go_enter Tryz.func99,Tryz.ntmps99
 go_wp2
 refine bodyPost_ret (v:=?v) ?hr rfl ?hR
 case hr=>simp[results,Tryz.results99,go_sem];rfl
 exact ⟨_,rfl,below2 _ _ _,rfl⟩
theorem mul_val (x a b c d:Nat):x*val a b c d=val (x*a) (x*b) (x*c) (x*d):=by
 unfold val
 rw[Nat.mul_add,Nat.mul_add,Nat.mul_add,Nat.mul_left_comm x _ b,Nat.mul_left_comm x _ c,Nat.mul_left_comm x _ d]
theorem row_sum {x a b c d p q r s o l i j e g k f m n:Nat} (t:m=val a b c d) (u:n=val p q r s)
 (w:o+18446744073709551616*e=x*a+p+0) (v:l+18446744073709551616*g=x*b+q+e)
 (y:i+18446744073709551616*k=x*c+r+g) (e3:j+18446744073709551616*f=x*d+s+k) :
 o+18446744073709551616*val l i j f=x*m+n:=by
 rw[t,u,mul_val x a b c d]
 unfold val
 omega
theorem row_any (x:Nat) (y z:Value) (m n:Nat) (hx:x<18446744073709551616) (M:Four y m) (L:Four z n) (w:World) :
 Calls Tryz.prog 154 #[.int .u64 x,y,z] w (Ret fun e w'=>Below w.heap.size w w'∧∃ (l:Nat) (v:Value) (s:Nat),e=.tuple #[.int .u64 l,v]∧l<18446744073709551616∧Four v s∧l+18446744073709551616*s=x*m+n):=by
 obtain ⟨a,b,c,d,rfl,N,K,R,hd,C⟩:=M
 obtain ⟨p,q,r,s,rfl,E,I,hr,Q,P⟩:=L
 go_enter Tryz.func154,Tryz.ntmps154
 go_wp2_with fail
 refine (cell_any x a p 0 hx N E dC _).mono ?_
 rintro e g ⟨rfl,O,H,rfl,f,t,F⟩
 go_wp2_with fail
 refine (cell_any x b q H hx K I f _).mono ?_
 rintro e g ⟨rfl,V,J,rfl,k,u,D⟩
 go_wp2_with fail
 refine (cell_any x c r J hx R hr k _).mono ?_
 rintro e g ⟨rfl,T,B,rfl,o,A,G⟩
 go_wp2_with fail
 refine (cell_any x d s B hx hd Q o _).mono ?_
 rintro e g ⟨rfl,U,S,rfl,j,i,e3⟩
 go_wp2
 refine bodyPost_ret (v:=?v) ?hr rfl ?hR
 case hr=>simp[results,Tryz.results154,go_sem];rfl
 exact ⟨_,rfl,below3 _ _ _ _,O,_,_,rfl,t,Four.mk u A i j rfl,row_sum C P F D G e3⟩
end
namespace RG
open Go Go.RowKit
inductive SV where
 | v (x:Value)
 | p (b o:Nat)
 | s (b n c:Nat)
 | t (b n c:Nat) (y:Value)
def SV.at (μ:Nat→Nat):SV→Value
 | .v x=>x
 | .p b o=>.pointer (some ⟨μ b,o,none⟩)
 | .s b n c=>.slice (some ⟨μ b,0,none⟩) n c
 | .t b n c y=>.tuple #[.slice (some ⟨μ b,0,none⟩) n c,y]
def SV.blk:SV→Option Nat
 | .v _=>none
 | .p b _=>some b
 | .s b _ _=>some b
 | .t b _ _ _=>some b
theorem SV.at_congr {μ ν:Nat→Nat} {s:SV} (h:∀ b,s.blk=some b→μ b=ν b):s.at μ=s.at ν:=by
 cases s with
 | v x=>rfl
 | p b o=>show Value.pointer (some ⟨μ b,o,none⟩)=.pointer (some ⟨ν b,o,none⟩);rw[h b rfl]
 | s b n c=>show Value.slice (some ⟨μ b,0,none⟩) n c=.slice (some ⟨ν b,0,none⟩) n c;rw[h b rfl]
 | t b n c y=>show Value.tuple #[.slice (some ⟨μ b,0,none⟩) n c,y]=.tuple #[.slice (some ⟨ν b,0,none⟩) n c,y];rw[h b rfl]
inductive Kind where
 | stay
 | pass
 | call
 | make (b:Nat)
 | put (b:Nat)
structure It where
 dst:Option Tmp
 need:List (Tmp × Nat)
 out:SV
 kind:Kind
structure Bl where
 before:List Value
 after:List Value
 al:Option Nat
 st:Option Nat
def on (L:Array Bool) (i:Nat):Bool:=L.getD i false
def Bl.live (e:Bl) (L:Array Bool):Bool:=(e.al.map (on L)).getD true
def Bl.put (e:Bl) (L:Array Bool):Bool:=(e.st.map (on L)).getD false
def Bl.now (e:Bl) (L:Array Bool):List Value:=if e.put L=true then e.after else e.before
theorem on_set {L:Array Bool} {i j:Nat} (h:i<L.size):on (L.setIfInBounds i true) j=(on L j || i == j):=by
 unfold on
 simp only[Array.getD_eq_getD_getElem?,Array.getElem?_setIfInBounds]
 by_cases k:i=j
 ·subst k;simp[h]
 ·simp[k]
theorem live_set {e:Bl} {L:Array Bool} {i:Nat} (h:i<L.size):e.live (L.setIfInBounds i true)=(e.live L || e.al == some i):=by
 unfold Bl.live
 cases d:e.al with
 | none=>rfl
 | some j =>
  show on _ j=(on L j || _)
  rw[on_set h]
  by_cases k:i=j
  ·subst k;simp
  ·have c:(i == j)=false:=by simpa using k
   have b:(some j == some i)=false:=by simpa using fun h=>k h.symm
   rw[c,b]
theorem put_set {e:Bl} {L:Array Bool} {i:Nat} (h:i<L.size):e.put (L.setIfInBounds i true)=(e.put L || e.st == some i):=by
 unfold Bl.put
 cases d:e.st with
 | none=>rfl
 | some j =>
  show on _ j=(on L j || _)
  rw[on_set h]
  by_cases k:i=j
  ·subst k;simp
  ·have c:(i == j)=false:=by simpa using k
   have b:(some j == some i)=false:=by simpa using fun h=>k h.symm
   rw[c,b]
theorem range_below {B k o:Nat} {w w':World} {cs:List Value} (h:w.rangeAt k o cs) (b:Below B w w') (c:k<B):w'.rangeAt k o cs:=fun j v hv=>by
 rw[b.cell (p:=⟨k,o+j,none⟩) c];exact h j v hv
theorem there_below {B k o n:Nat} {w w':World} (h:w.there k o n) (b:Below B w w') (c:k<B):w'.there k o n:=fun j d=>by
 rw[b.cell (p:=⟨k,o+j,none⟩) c,b.frozen (p:=⟨k,o+j,none⟩) c];exact h j d
theorem below_setCells {B k:Nat} {b:World} (c:B≤k):∀ (vs:List Value) (o:Nat) (w:World),Below B b w→Below B b (w.setCells k o vs)
 | [],_,_,h=>h
 | v :: r,o,w,h=>below_setCells c r (o+1) _ (h.setCell (p:=⟨k,o,none⟩) c v)
theorem setCells_size (k:Nat):∀ (vs:List Value) (o:Nat) (w:World),(w.setCells k o vs).heap.size=w.heap.size
 | [],_,_=>rfl
 | v :: r,o,w=>by
  rw[World.setCells,setCells_size k r (o+1)]
  simp[World.setCell]
theorem there_setCells {k b o n:Nat}:∀ (vs:List Value) (i:Nat) (w:World),w.there b o n→(w.setCells k i vs).there b o n
 | [],_,_,h=>h
 | v :: r,i,w,h=>there_setCells r (i+1) _ fun j c=>⟨World.isSome_setCells k [v] i w _ (h j c).1,by rw[World.frozen?_setCell];exact (h j c).2⟩
structure BelX (k0:Nat) (X:List Nat) (w w':World):Prop where
 os:w'.os=w.os
 tape:w'.tape=w.tape
 output:w'.output=w.output
 size:w.heap.size≤w'.heap.size
 block:∀ j,j<k0→j ∉ X→w'.heap[j]? = w.heap[j]?
theorem BelX.below {k:Nat} {w w':World} (h:BelX k [] w w'):Below k w w':=⟨h.os,h.tape,h.output,h.size,fun j b=>h.block j b List.not_mem_nil⟩
theorem BelX.drew {k:Nat} {X:List Nat} {w w':World} (h:BelX k X w w'):BelX k X w w'.drew:=⟨h.os,h.tape,h.output,h.size,h.block⟩
theorem BelX.refl (k:Nat) (X:List Nat) (w:World):BelX k X w w:=⟨rfl,rfl,rfl,Nat.le_refl _,fun _ _ _=>rfl⟩
theorem BelX.trans {d:Nat} {X:List Nat} {a b c:World} (h:BelX d X a b) (k:BelX d X b c):BelX d X a c:=
 ⟨k.os.trans h.os,k.tape.trans h.tape,k.output.trans h.output,Nat.le_trans h.size k.size,fun i e hx=>(k.block i e hx).trans (h.block i e hx)⟩
structure Wd (w0:World) (k0:Nat) (X:List Nat) (bl:List Bl) (L:Array Bool) (μ:Nat→Nat) (w:World):Prop where
 bel:BelX k0 X w0 w
 le:k0≤w.heap.size
 has:∀ (b:Nat) (e:Bl),bl[b]? = some e→e.live L=true→w.rangeAt (μ b) 0 (e.now L)∧w.there (μ b) 0 e.before.length∧μ b<w.heap.size∧(k0≤μ b∨μ b∈X)
 inj:∀ (b c:Nat) (e f:Bl),bl[b]? = some e→bl[c]? = some f→e.live L=true→f.live L=true→b≠c→μ b≠μ c
variable {w0 w w':World} {k0:Nat} {X:List Nat} {bl:List Bl} {L:Array Bool} {μ:Nat→Nat}
theorem Wd.same {g:Array Bool} (h:Wd w0 k0 X bl L μ w) (d:∀ (b:Nat) (e:Bl),bl[b]? = some e→e.live g=e.live L∧e.put g=e.put L):Wd w0 k0 X bl g μ w:=by
 refine ⟨h.bel,h.le,fun b e k hv=>?_,fun b c e f k i j hf=>h.inj b c e f k i ((d b e k).1 ▸ j) ((d c f i).1 ▸ hf)⟩
 have:=h.has b e k ((d b e k).1 ▸ hv)
 unfold Bl.now at this ⊢
 rw[(d b e k).2]
 exact this
theorem Wd.call (h:Wd w0 k0 X bl L μ w) (c:Below w.heap.size w w'):Wd w0 k0 X bl L μ w':=by
 refine ⟨h.bel.trans ⟨c.os,c.tape,c.output,c.size,fun k l _=>c.block k (Nat.lt_of_lt_of_le l h.le)⟩,Nat.le_trans h.le c.size,fun b e d hv=>?_,h.inj⟩
 obtain ⟨i,g,f,j⟩:=h.has b e d hv
 exact ⟨range_below i c f,there_below g c f,Nat.lt_of_lt_of_le f c.size,j⟩
def upd (μ:Nat→Nat) (b k:Nat):Nat→Nat:=fun c=>if c=b then k else μ c
structure Made (w:World) (k:Nat) (c:List Value) (w':World):Prop where
 bel:Below w.heap.size w w'
 le:w.heap.size≤k
 lt:k<w'.heap.size
 range:w'.rangeAt k 0 c
 there:w'.there k 0 c.length
theorem Made.alloc (w:World) (c:List Value) (t:TypeId):Made w w.heap.size c (w.alloc (.cells c.toArray t)):=by
 refine ⟨below1 w _,Nat.le_refl _,by rw[World.size_alloc];omega,fun j v k=>?_,fun j k=>⟨?_,World.frozen?_alloc_new _ _ _ _⟩⟩
 ·rw[Nat.zero_add,World.cell?_alloc_new]
  simpa using k
 ·rw[Nat.zero_add,World.cell?_alloc_new]
  simp[k]
theorem Wd.make {i b k:Nat} {e:Bl} (h:Wd w0 k0 X bl L μ w) (z:i<L.size) (y:bl[b]? = some e) (D:e.al=some i) (u:∀ (c:Nat) (f:Bl),bl[c]? = some f→c≠b→f.al≠some i)
 (j:∀ (c:Nat) (f:Bl),bl[c]? = some f→f.st≠some i) (s:e.put L=false) (t:Made w k e.before w') :
 Wd w0 k0 X bl (L.setIfInBounds i true) (upd μ b k) w':=by
 have p:∀ (c:Nat) (f:Bl),bl[c]? = some f→f.put (L.setIfInBounds i true)=f.put L:=fun c f m=>by
  rw[put_set z,show (f.st == some i)=false by simpa using j c f m,Bool.or_false]
 have n:∀ (c:Nat) (f:Bl),bl[c]? = some f→c≠b→f.live (L.setIfInBounds i true)=f.live L:=fun c f m j=>by
  rw[live_set z,show (f.al == some i)=false by simpa using u c f m j,Bool.or_false]
 have o:∀ (c:Nat) (f:Bl),bl[c]? = some f→c≠b→f.live (L.setIfInBounds i true)=true→μ c<w.heap.size:=fun c f m j hv=>(h.has c f m (n c f m j ▸ hv)).2.2.1
 have l:=t.bel
 have r:=t.le
 refine ⟨h.bel.trans ⟨l.os,l.tape,l.output,l.size,fun k B _=>l.block k (Nat.lt_of_lt_of_le B h.le)⟩,Nat.le_trans h.le l.size,fun c f m hv=>?_,fun c d f g m hd hf x q=>?_⟩
 ·by_cases j:c=b
  ·subst j
   rw[y] at m
   obtain rfl:e=f:=Option.some.inj m
   have v:e.now (L.setIfInBounds i true)=e.before:=by unfold Bl.now;rw[p c e y,s];rfl
   rw[v]
   unfold upd
   rw[if_pos rfl]
   exact ⟨t.range,t.there,t.lt,Or.inl (Nat.le_trans h.le r)⟩
  ·obtain ⟨C,a,s,A⟩:=h.has c f m (n c f m j ▸ hv)
   unfold upd
   rw[if_neg j]
   have v:f.now (L.setIfInBounds i true)=f.now L:=by unfold Bl.now;rw[p c f m]
   rw[v]
   exact ⟨range_below C l s,there_below a l s,Nat.lt_of_lt_of_le s l.size,A⟩
 ·unfold upd
  by_cases j:c=b
  ·subst j
   rw[if_pos rfl,if_neg (fun h=>q h.symm)]
   exact Nat.ne_of_gt (Nat.lt_of_lt_of_le (o d g hd (fun h=>q h.symm) x) r)
  ·by_cases s:d=b
   ·subst s
    rw[if_pos rfl,if_neg j]
    exact Nat.ne_of_lt (Nat.lt_of_lt_of_le (o c f m j hf) r)
   ·rw[if_neg j,if_neg s]
    exact h.inj c d f g m hd (n c f m j ▸ hf) (n d g hd s ▸ x) q
structure PutTo (k n:Nat) (cs:List Value) (w w':World):Prop where
 os:w'.os=w.os
 tape:w'.tape=w.tape
 output:w'.output=w.output
 size:w.heap.size≤w'.heap.size
 block:∀ j,j<w.heap.size→j≠k→w'.heap[j]? = w.heap[j]?
 range:w'.rangeAt k 0 cs
 there:w'.there k 0 n
theorem setCells_other (k:Nat):∀ (vs:List Value) (o:Nat) (w:World) (j:Nat),j≠k→(w.setCells k o vs).heap[j]? = w.heap[j]?
 | [],_,_,_,_=>rfl
 | v :: r,o,w,j,h=>by
  rw[World.setCells,setCells_other k r (o+1) _ j h,Below.heap_setCell _ _ _ _ h]
theorem setCells_os (k:Nat):∀ (vs:List Value) (o:Nat) (w:World),(w.setCells k o vs).os=w.os∧(w.setCells k o vs).tape=w.tape∧(w.setCells k o vs).output=w.output
 | [],_,_=>⟨rfl,rfl,rfl⟩
 | v :: r,o,w=>by rw[World.setCells];exact setCells_os k r (o+1) _
theorem PutTo.store {k n o:Nat} {b c vs:List Value} (g:w.there k 0 n) (s:w.rangeAt k 0 b) (x:o+vs.length≤n) (t:∀ j,c[j]? = if o≤j∧j<o+vs.length then vs[j-o]? else b[j]?):PutTo k n c w (w.setCells k o vs):=by
 obtain ⟨r,l,q⟩:=setCells_os k vs o w
 refine ⟨r,l,q,by rw[setCells_size];exact Nat.le_refl _,fun j _ d=>setCells_other k vs o w j d,fun j v hv=>?_,there_setCells _ _ _ g⟩
 have e:w.there k o vs.length:=fun j d=>by have:=g (o+j) oM;rwa[Nat.zero_add] at this
 rw[t j] at hv
 rw[Nat.zero_add]
 by_cases d:o≤j∧j<o+vs.length
 ·rw[if_pos d] at hv
  have:=World.rangeAt_setCells_same w k o vs e (j-o) v hv
  rwa[show o+(j-o)=j by omega] at this
 ·rw[if_neg d] at hv
  have p:w.rangeAt k j [v]:=fun i u f=>by
   cases i with
   | zero =>
    obtain rfl:v=u:=by simpa using f
    have:=s j v hv
    rwa[Nat.zero_add] at this
   | succ i=>simp at f
  have m:=World.rangeAt_setCells_apart p k o vs (Or.inr (by simp only[List.length_cons,List.length_nil];omega))
  have:=m 0 v rfl
  exact this
theorem PutTo.whole {k:Nat} {b c:List Value} (f:w.there k 0 b.length) (e:w.rangeAt k 0 b) (g:c.length=b.length):PutTo k b.length c w (w.setCells k 0 c):=
 PutTo.store f e oM (fun j=>by
  by_cases d:0≤j∧j<0+c.length
  ·rw[if_pos d];rfl
  ·rw[if_neg d,List.getElem?_eq_none oM,List.getElem?_eq_none oM])
theorem Wd.put {i b:Nat} {e:Bl} (h:Wd w0 k0 X bl L μ w) (t:i<L.size) (s:bl[b]? = some e) (C:e.st=some i) (hv:e.live L=true) (m:PutTo (μ b) e.before.length e.after w w')
 (k:∀ (c:Nat) (f:Bl),bl[c]? = some f→c≠b→f.st≠some i) (o:∀ (c:Nat) (f:Bl),bl[c]? = some f→f.al≠some i) :
 Wd w0 k0 X bl (L.setIfInBounds i true) μ w':=by
 have l:∀ (c:Nat) (f:Bl),bl[c]? = some f→f.live (L.setIfInBounds i true)=f.live L:=fun c f n=>by
  rw[live_set t,show (f.al == some i)=false by simpa using o c f n,Bool.or_false]
 obtain ⟨E,F,G,D⟩:=h.has b e s hv
 have B:=h.le
 refine ⟨h.bel.trans ⟨m.os,m.tape,m.output,m.size,fun j q hx=>m.block j oM (fun e=>D.elim (fun h=>oM) (fun h=>hx (e ▸ h)))⟩,Nat.le_trans h.le m.size,fun c f n p=>?_,fun c d f g n hd hf z=>h.inj c d f g n hd (l c f n ▸ hf) (l d g hd ▸ z)⟩
 rw[l c f n] at p
 obtain ⟨A,y,r,x⟩:=h.has c f n p
 by_cases o:c=b
 ·subst o
  rw[s] at n
  obtain rfl:e=f:=Option.some.inj n
  have u:e.now (L.setIfInBounds i true)=e.after:=by
   unfold Bl.now
   rw[put_set t,C]
   simp
  rw[u]
  exact ⟨m.range,m.there,Nat.lt_of_lt_of_le r m.size,x⟩
 ·have u:f.now (L.setIfInBounds i true)=f.now L:=by
   unfold Bl.now
   rw[put_set t,show (f.st == some i)=false by simpa using k c f n o,Bool.or_false]
  rw[u]
  have k:=m.block (μ c) r (h.inj c b f e n s p hv o)
  refine ⟨fun j v q=>?_,fun j q=>?_,Nat.lt_of_lt_of_le r m.size,x⟩
  ·rw[World.cell?_of_block (w:=w) (a:=⟨μ c,0+j,none⟩) k];exact A j v q
  ·rw[World.cell?_of_block (w:=w) (a:=⟨μ c,0+j,none⟩) k,World.frozen?_of_block (w:=w) (a:=⟨μ c,0+j,none⟩) k];exact y j q
end RG
namespace RG
open Go Go.RowKit
variable {P:Program} {ops:Array Oper} {Q:Exit→Act→World→Prop} {w0 w:World} {k0:Nat} {X:List Nat} {its:List It} {bl:List Bl} {olds:List (Tmp × SV)} {a0:Act} {L:Array Bool} {μ μ' μ0:Nat→Nat}
structure Ac (its:List It) (bl:List Bl) (a0:Act) (L:Array Bool) (μ:Nat→Nat) (a:Act):Prop where
 defers:a.defers=a0.defers
 size:a.tmps.size=a0.tmps.size
 got:∀ (i:Nat) (it:It) (d:Tmp),its[i]? = some it→on L i=true→it.dst=some d→a.tmps[d]? = some (it.out.at μ)∧∀ b,it.out.blk=some b→∃ e:Bl,bl[b]? = some e∧e.live L=true
 rest:∀ t:Tmp,(∀ (i:Nat) (it:It),its[i]? = some it→on L i=true→it.dst≠some t)→a.tmps[t]? = a0.tmps[t]?
def depB (o:Oper) (j:Nat):Bool:=o.after.any (fun e=>Region.binds .any e && e.on == j)
def freeB (k:Array Oper) (b:List It) (i:Nat) (t:Tmp):Bool:=b.zipIdx.all (fun x=>x.1.dst != some t || (match k[x.2]? with|some o=>depB o i|none=>false))
def Known (c:Array Oper) (i:Nat) (b:List It) (olds:List (Tmp × SV)) (k:List (Tmp × Nat)) (μ:Nat→Nat) (a:Act):Prop:=
 (∀ (t:Tmp) (j:Nat) (it:It),(t,j)∈k→b[j]? = some it→a.eval (.tmp t)=it.out.at μ)∧(∀ (t:Tmp) (s:SV),(t,s)∈olds→freeB c b i t=true→a.eval (.tmp t)=s.at μ)
def readB (k:Array Oper) (i:Nat) (e:Bl):Bool:=match e.st with|none=>true|some s=>match k[s]? with|some o=>depB o i|none=>false
def Reads (k:Array Oper) (i:Nat) (c:List Bl) (μ:Nat→Nat) (w:World):Prop:=∀ (b:Nat) (e:Bl),c[b]? = some e→(e.al=none∨∃ (o:Oper) (j:Nat),k[i]? = some o∧e.al=some j∧depB o j=true)→readB k i e=true→w.rangeAt (μ b) 0 e.before
def Does (P:Program) (Q:Exit→Act→World→Prop) (c:List Bl) (o:Oper) (it:It) (μ:Nat→Nat) (a:Act) (w:World) (K:Act→World→Prop):Kind→Prop
 | .stay=>K (a.put o.dst (it.out.at μ)) w→o.wp P a w K Q
 | .pass=>it.out=.v undef
 | .call=>(∀ w',Below w.heap.size w w'→K (a.put o.dst (it.out.at μ)) w')→o.wp P a w K Q
 | .make b=>∀ e:Bl,c[b]? = some e→(∀ (k:Nat) (w':World),Made w k e.before w'→K (a.put o.dst (it.out.at (upd μ b k))) w')→o.wp P a w K Q
 | .put b=>∀ e:Bl,c[b]? = some e→w.there (μ b) 0 e.before.length→w.rangeAt (μ b) 0 e.before→(∀ w',PutTo (μ b) e.before.length e.after w w'→K (a.put o.dst (it.out.at μ)) w')→o.wp P a w K Q
def Cert (P:Program) (Q:Exit→Act→World→Prop) (d:World) (e:Nat) (X:List Nat) (k:Array Oper) (i:Nat) (b:List It) (c:List Bl) (olds:List (Tmp × SV)) (o:Oper) (it:It):Prop:=
 ∀ (μ:Nat→Nat) (a:Act) (w:World) (K:Act→World→Prop),Known k i b olds it.need μ a→Reads k i c μ w→BelX e X d w→Does P Q c o it μ a w K it.kind
def liveB (k:List It) (c:List Bl) (o:Oper) (it:It) (b:Nat):Bool:=
 (match c[b]? with|some e=>(match e.al with|none=>true|some j=>depB o j)|none=>false) || it.need.any (fun x=>depB o x.2 && (match k[x.2]? with|some jt=>jt.dst.isSome && jt.out.blk == some b|none=>false))
def kindB (d:List It) (k:List Bl) (i:Nat) (o:Oper) (it:It):Kind→Bool
 | .stay | .pass | .call=>k.all (fun e=>e.al != some i && e.st != some i) && (match it.out.blk with|none=>true|some b=>liveB d k o it b)
 | .make b=>(match it.out.blk with|some c=>c == b|none=>false) && k.zipIdx.all (fun x=>x.1.st != some i && (x.1.al == some i) == (x.2 == b)) && (k[b]?).isSome
 | .put b=>(match it.out with | .v _=>true|_=>false) && k.zipIdx.all (fun x=>x.1.al != some i && (x.1.st == some i) == (x.2 == b)) && (match k[b]? with|some e=>(match e.al with|none=>true|some j=>depB o j)|none=>false)
def Kind.isPass:Kind→Bool
 | .pass=>true
 | _=>false
def guardB (k:List It) (o:Oper) (it:It):Bool:=
 match o.guard with
 | none=>!it.kind.isPass
 | some (j,want)=>depB o j && (match k[j]? with|some jt=>jt.dst.isSome && (match jt.out with | .v (.bool b)=>(b == want) == !it.kind.isPass|_=>false)|none=>false)
def okB (k:List It) (c:List Bl) (i:Nat) (o:Oper) (it:It):Bool:=
 (o.dst == it.dst) && guardB k o it && o.after.all (fun e=>!Region.binds .any e || e.on<i) && it.need.all (fun b=>depB o b.2 && ((k[b.2]?).bind (·.dst)) == some b.1) && kindB k c i o it it.kind
def dstB:List It→Bool
 | []=>true
 | it :: r=>(match it.dst with|none=>true|some d=>r.all (fun k=>k.dst != some d)) && dstB r
def oldB (k:List Bl) (olds:List (Tmp × SV)):Bool:=
 olds.all (fun x=>(match x.2.blk with|none=>true|some b=>match k[b]? with|some e=>e.al.isNone|none=>false))
def allB (b:Array Oper) (k:List It) (c:List Bl) (olds:List (Tmp × SV)) (n:Nat):Bool:=
 b.size == k.length && dstB k && oldB c olds && k.all (fun it=>match it.dst with|none=>true|some d=>d<n) &&
 (List.range k.length).all (fun i=>match b[i]?,k[i]? with|some o,some it=>okB k c i o it|_,_=>false)
theorem dst_ne:∀ {k:List It},dstB k=true→∀ (i j:Nat) (it b:It) (d:Tmp),k[i]? = some it→k[j]? = some b→it.dst=some d→b.dst=some d→i=j
 | [],_,i,_,_,_,_,h,_,_,_=>by simp at h
 | x :: r,h,i,j,it,b,d,hi,hj,di,dj=>by
  simp only[dstB,Bool.and_eq_true] at h
  match i,j with
  | 0,0=>rfl
  | 0,j+1 =>
   simp only[List.getElem?_cons_zero,Option.some.injEq] at hi
   simp only[List.getElem?_cons_succ] at hj
   subst hi
   rw[di] at h
   have:=List.all_eq_true.1 h.1 b (List.mem_of_getElem? hj)
   rw[dj] at this
   simp at this
  | i+1,0 =>
   simp only[List.getElem?_cons_zero,Option.some.injEq] at hj
   simp only[List.getElem?_cons_succ] at hi
   subst hj
   rw[dj] at h
   have:=List.all_eq_true.1 h.1 it (List.mem_of_getElem? hi)
   rw[di] at this
   simp at this
  | i+1,j+1 =>
   simp only[List.getElem?_cons_succ] at hi hj
   rw[dst_ne h.2 i j it b d hi hj di dj]
theorem live_mono {e:Bl} {i:Nat} (k:i<L.size) (h:e.live L=true):e.live (L.setIfInBounds i true)=true:=by rw[live_set k,h,Bool.true_or]
theorem Ac.put {a:Act} {i:Nat} {it:It} (h:Ac its bl a0 L μ a) (hd:dstB its=true) (p:i<L.size) (n:its[i]? = some it) (hμ:∀ (b:Nat) (e:Bl),bl[b]? = some e→e.live L=true→μ' b=μ b)
 (u:∀ d,it.dst=some d→d<a0.tmps.size) (o:∀ d,it.dst=some d→∀ b,it.out.blk=some b→∃ e:Bl,bl[b]? = some e∧e.live (L.setIfInBounds i true)=true)
 (v:Value) (hv:∀ d,it.dst=some d→v=it.out.at μ'):Ac its bl a0 (L.setIfInBounds i true) μ' (a.put it.dst v):=by
 have m:∀ (j:Nat) (f:It) (d:Tmp),its[j]? = some f→on L j=true→f.dst=some d→a.tmps[d]? = some (f.out.at μ')∧∀ b,f.out.blk=some b→∃ e:Bl,bl[b]? = some e∧e.live (L.setIfInBounds i true)=true:=fun j f d g ho c=>by
  obtain ⟨r,q⟩:=h.got j f d g ho c
  refine ⟨?_,fun b k=>?_⟩
  ·rw[r]
   congr 1
   refine SV.at_congr fun b s=>?_
   obtain ⟨e,l,o⟩:=q b s
   rw[hμ b e l o]
  ·obtain ⟨e,l,o⟩:=q b k
   exact ⟨e,l,live_mono p o⟩
 cases k:it.dst with
 | none =>
  show Ac its bl a0 _ μ' a
  refine ⟨h.defers,h.size,fun j f d g ho c=>?_,fun t q=>h.rest t fun j f g ho=>q j f g (by rw[on_set p,ho,Bool.true_or])⟩
  rw[on_set p] at ho
  by_cases l:i=j
  ·subst l
   rw[n] at g
   obtain rfl:it=f:=Option.some.inj g
   rw[k] at c
   cases c
  ·exact m j f d g (by simpa[l] using ho) c
 | some d0 =>
  have s:=u d0 k
  refine ⟨h.defers,?_,fun j f d g ho c=>?_,fun t q=>?_⟩
  ·show (a.tmps.setIfInBounds d0 v).size=_
   rw[Array.size_setIfInBounds];exact h.size
  ·show (a.tmps.setIfInBounds d0 v)[d]? = _∧_
   rw[Array.getElem?_setIfInBounds]
   rw[on_set p] at ho
   by_cases l:i=j
   ·subst l
    rw[n] at g
    obtain rfl:it=f:=Option.some.inj g
    rw[k] at c
    obtain rfl:d0=d:=Option.some.inj c
    rw[if_pos rfl,if_pos (by rw[h.size];exact s),hv d0 k]
    exact ⟨rfl,o d0 k⟩
   ·have o:d0≠d:=fun r=>l (dst_ne hd i j it f d0 n g k (r ▸ c))
    rw[if_neg o]
    exact m j f d g (by simpa[l] using ho) c
  ·show (a.tmps.setIfInBounds d0 v)[t]? = _
   have o:d0≠t:=fun l=>q i it n (by rw[on_set p];simp) (by rw[k,l])
   rw[Array.getElem?_setIfInBounds,if_neg o]
   exact h.rest t fun j f g ho=>q j f g (by rw[on_set p,ho,Bool.true_or])
structure Inv (ops:Array Oper) (its:List It) (bl:List Bl) (a0:Act) (w0:World) (k0:Nat) (X:List Nat) (μ0:Nat→Nat) (L:Array Bool) (a:Act) (w:World):Prop where
 size:L.size=its.length
 cl:∀ (i:Nat) (o:Oper),ops[i]? = some o→on L i=true→∀ e∈o.after,Region.binds .any e=true→on L e.on=true
 all:∃ μ,(∀ (b:Nat) (e:Bl),bl[b]? = some e→e.al=none→μ b=μ0 b)∧Ac its bl a0 L μ a∧Wd w0 k0 X bl L μ w∧∀ (b:Nat) (e:Bl),bl[b]? = some e→e.put L=true→e.live L=true
theorem wanted_none {o:Oper} (h:o.guard=none) (y:Nat→Option Bool):Region.wanted o y=true:=by unfold Region.wanted;rw[h]
theorem zip_all {p:Bl × Nat→Bool} (h:bl.zipIdx.all p=true) (b:Nat) (e:Bl) (k:bl[b]? = some e):p (e,b)=true:=
 List.all_eq_true.1 h (e,b) (by rw[List.mem_zipIdx_iff_getElem?];exact k)
theorem two {s t:Option Nat} {i c b:Nat} (h:(s != some i && (t == some i) == (c == b))=true):s≠some i∧(t=some i↔c=b):=by
 rw[Bool.and_eq_true] at h
 refine ⟨by simpa using h.1,?_⟩
 have k:(t == some i)=(c == b):=by simpa using h.2
 constructor
 ·intro d
  rw[d] at k
  simpa using k.symm
 ·intro d
  rw[d] at k
  simpa using k
theorem step {i:Nat} {o:Oper} {it:It} {a:Act} (hd:dstB its=true) (ho:ops[i]? = some o) (S:its[i]? = some it) (hr:okB its bl i o it=true) (h0:∀ d,it.dst=some d→d<a0.tmps.size)
 (holds:∀ (t:Tmp) (s:SV),(t,s)∈olds→a0.tmps[t]? = some (s.at μ0)∧∀ b,s.blk=some b→∃ e:Bl,bl[b]? = some e∧e.al=none)
 (l:∀ (j:Nat) (W:Oper) (G:It),ops[j]? = some W→its[j]? = some G→W.dst=G.dst) (F:ops.size=its.length) (B:Cert P Q w0 k0 X ops i its bl olds o it) (h7:on L i=false) (K:∀ e∈o.after,Region.binds .any e=true→on L e.on=true) (h:Inv ops its bl a0 w0 k0 X μ0 L a w) :
 wpOp P ops Q i (Inv ops its bl a0 w0 k0 X μ0 (L.setIfInBounds i true)) a w:=by
 obtain ⟨ht,h9,μ,hμ,hA,hW,hO⟩:=h
 have D:i<L.size:=by rw[ht];exact (List.getElem?_eq_some_iff.1 S).1
 simp only[okB,Bool.and_eq_true] at hr
 obtain ⟨⟨⟨⟨hu,Z⟩,k2⟩,h8⟩,g⟩:=hr
 have C:o.dst=it.dst:=by simpa using hu
 have r:∀ j,depB o j=true→on L j=true:=fun j J=>by
  obtain ⟨e,T,m⟩:=Array.any_eq_true'.1 J
  simp only[Bool.and_eq_true,beq_iff_eq] at m
  rw[← m.2]
  exact K e T m.1
 have hn:Region.wanted o (yielded ops a.tmps) = !it.kind.isPass:=by
  unfold Region.wanted
  unfold guardB at Z
  cases M:o.guard with
  | none=>rw[M] at Z;dsimp only at Z ⊢;rw[Z]
  | some jw =>
   obtain ⟨j,q⟩:=jw
   rw[M] at Z
   dsimp only at Z ⊢
   rw[Bool.and_eq_true] at Z
   cases J:its[j]? with
   | none=>rw[J] at Z;cases Z.2
   | some G =>
    rw[J] at Z
    obtain ⟨h1,A⟩:=Z
    dsimp only at A
    rw[Bool.and_eq_true] at A
    obtain ⟨d,I⟩:=Option.isSome_iff_exists.1 A.1
    have N:j<its.length:=(List.getElem?_eq_some_iff.1 J).1
    have E:ops[j]? = some (ops[j]'(by rw[F];exact N)):=Array.getElem?_eq_getElem _
    have H:=(hA.got j G d J (r j h1) I).1
    have O:yielded ops a.tmps j=match G.out.at μ with | .bool b=>some b|_=>none:=by
     unfold yielded
     rw[E]
     show (match (ops[j]'(by rw[F];exact N)).dst.bind (a.tmps[·]?) with|some (.bool b)=>some b|_=>none)=_
     rw[l j _ G E J,I]
     show (match a.tmps[d]? with|some (.bool b)=>some b|_=>none)=_
     rw[H]
     cases G.out.at μ<;>rfl
    rw[O]
    have l:=A.2
    cases n:G.out with
    | p b x=>rw[n] at l;cases l
    | s b x y=>rw[n] at l;cases l
    | t b x y z=>rw[n] at l;cases l
    | v x =>
     rw[n] at l
     cases x with
     | bool b =>
      show (some b == some q)=_
      dsimp only at l
      have:(b == q) = !it.kind.isPass:=by simpa using l
      rw[← this]
      cases b<;>cases q<;>rfl
     | _=>cases l
 have hK:Known ops i its olds it.need μ a:=by
  refine ⟨fun t j G hm J=>?_,fun t s hm M=>?_⟩
  ·have h1:=List.all_eq_true.1 h8 (t,j) hm
   simp only[Bool.and_eq_true,J] at h1
   have A:G.dst=some t:=by simpa using h1.2
   have H:=(hA.got j G t J (r j h1.1) A).1
   show a.tmps.getD t undef=_
   rw[Array.getD_eq_getD_getElem?,H]
   rfl
  ·obtain ⟨A,H⟩:=holds t s hm
   have O:=hA.rest t (fun j G J R I=>by
    have l:=List.all_eq_true.1 M (G,j) (by rw[List.mem_zipIdx_iff_getElem?];exact J)
    dsimp only at l
    rw[I] at l
    cases E:ops[j]? with
    | none=>rw[E] at l;simp at l
    | some W =>
     rw[E] at l
     have q:depB W i=true:=by simpa using l
     obtain ⟨e',N,F⟩:=Array.any_eq_true'.1 q
     simp only[Bool.and_eq_true,beq_iff_eq] at F
     have:=h9 j W E R e' N F.1
     rw[F.2,h7] at this
     cases this)
   show a.tmps.getD t undef=_
   rw[Array.getD_eq_getD_getElem?,O,A]
   show s.at μ0=s.at μ
   refine SV.at_congr fun b m=>?_
   obtain ⟨e,T,q⟩:=H b m
   rw[hμ b e T q]
 have hR:Reads ops i bl μ w:=fun b e m q M=>by
  have:=(hW.has b e m (by
   unfold Bl.live
   rcases q with q|⟨I,j,l,q,hd⟩
   ·rw[q];rfl
   ·rw[q]
    show on L j=true
    rw[ho] at l
    obtain rfl:=Option.some.inj l
    exact r j hd)).1
  unfold Bl.now Bl.put at this
  unfold readB at M
  cases hs:e.st with
  | none=>rw[hs] at this;exact this
  | some s =>
   rw[hs] at this M
   dsimp only at M
   cases l:ops[s]? with
   | none=>rw[l] at M;cases M
   | some os =>
    rw[l] at M
    have I:on L s=false:=by
     cases R:on L s with
     | false=>rfl
     | true =>
      obtain ⟨e',N,F⟩:=Array.any_eq_true'.1 M
      simp only[Bool.and_eq_true,beq_iff_eq] at F
      have:=h9 s os l R e' N F.1
      rw[F.2,h7] at this
      cases this
    rw[show (Option.map (on L) (some s)).getD false=on L s from rfl,I] at this
    exact this
 have V:∀ b,liveB its bl o it b=true→∃ e:Bl,bl[b]? = some e∧e.live L=true:=fun b m=>by
  unfold liveB at m
  rw[Bool.or_eq_true] at m
  rcases m with A|A
  ·cases T:bl[b]? with
   | none=>rw[T] at A;cases A
   | some e =>
    rw[T] at A
    dsimp only at A
    refine ⟨e,rfl,?_⟩
    unfold Bl.live
    cases q:e.al with
    | none=>rfl
    | some j=>rw[q] at A;exact r j A
  ·obtain ⟨x,hx,H⟩:=List.any_eq_true.1 A
   rw[Bool.and_eq_true] at H
   cases J:its[x.2]? with
   | none=>rw[J] at H;cases H.2
   | some G =>
    rw[J] at H
    dsimp only at H
    rw[Bool.and_eq_true] at H
    obtain ⟨d,l⟩:=Option.isSome_iff_exists.1 H.2.1
    exact (hA.got x.2 G d J (r x.2 H.1) l).2 b (by simpa using H.2.2)
 have I:∀ (j:Nat) (W:Oper),ops[j]? = some W→on (L.setIfInBounds i true) j=true→∀ e∈W.after,Region.binds .any e=true→on (L.setIfInBounds i true) e.on=true:=fun j W E R e T m=>by
  rw[on_set D] at R ⊢
  by_cases l:i=j
  ·subst l
   rw[ho] at E
   obtain rfl:o=W:=Option.some.inj E
   rw[K e T m,Bool.true_or]
  ·rw[h9 j W E (by simpa[l] using R) e T m,Bool.true_or]
 have H:(L.setIfInBounds i true).size=its.length:=by rw[Array.size_setIfInBounds];exact ht
 have hC:=B μ a w (Inv ops its bl a0 w0 k0 X μ0 (L.setIfInBounds i true)) hK hR hW.bel
 unfold wpOp
 rw[ho]
 dsimp only
 rw[hn]
 cases hk:it.kind with
 | pass =>
  rw[hk] at hC g
  simp only[kindB,Bool.and_eq_true] at g
  have G:∀ (b:Nat) (e:Bl),bl[b]? = some e→e.al≠some i∧e.st≠some i:=fun b e m=>by simpa using List.all_eq_true.1 g.1 e (List.mem_of_getElem? m)
  have l:∀ (b:Nat) (e:Bl),bl[b]? = some e→e.live (L.setIfInBounds i true)=e.live L∧e.put (L.setIfInBounds i true)=e.put L:=fun b e m =>
   ⟨by rw[live_set D,show (e.al == some i)=false by simpa using (G b e m).1,Bool.or_false],by rw[put_set D,show (e.st == some i)=false by simpa using (G b e m).2,Bool.or_false]⟩
  show Inv ops its bl a0 w0 k0 X μ0 (L.setIfInBounds i true) (a.put o.dst undef) w
  refine ⟨H,I,μ,hμ,?_,hW.same l,fun b e m=>by rw[(l b e m).1,(l b e m).2];exact hO b e m⟩
  rw[C]
  have n:it.out=.v undef:=hC
  refine hA.put hd D S (fun _ _ _ _=>rfl) h0 (fun _ _ b K=>?_) _ (fun _ _=>by rw[n];rfl)
  rw[n] at K
  cases K
 | stay =>
  rw[hk] at hC g
  simp only[kindB,Bool.and_eq_true] at g
  show o.wp P a w _ Q∨_
  left
  refine hC ?_
  have G:∀ (b:Nat) (e:Bl),bl[b]? = some e→e.al≠some i∧e.st≠some i:=fun b e m=>by simpa using List.all_eq_true.1 g.1 e (List.mem_of_getElem? m)
  have l:∀ (b:Nat) (e:Bl),bl[b]? = some e→e.live (L.setIfInBounds i true)=e.live L∧e.put (L.setIfInBounds i true)=e.put L:=fun b e m =>
   ⟨by rw[live_set D,show (e.al == some i)=false by simpa using (G b e m).1,Bool.or_false],by rw[put_set D,show (e.st == some i)=false by simpa using (G b e m).2,Bool.or_false]⟩
  refine ⟨H,I,μ,hμ,?_,hW.same l,fun b e m=>by rw[(l b e m).1,(l b e m).2];exact hO b e m⟩
  rw[C]
  refine hA.put hd D S (fun _ _ _ _=>rfl) h0 (fun _ _ b K=>?_) _ (fun _ _=>rfl)
  have A:=g.2
  rw[K] at A
  obtain ⟨e,T,hl⟩:=V b A
  exact ⟨e,T,live_mono D hl⟩
 | call =>
  rw[hk] at hC g
  simp only[kindB,Bool.and_eq_true] at g
  show o.wp P a w _ Q∨_
  left
  refine hC fun w' F=>?_
  have G:∀ (b:Nat) (e:Bl),bl[b]? = some e→e.al≠some i∧e.st≠some i:=fun b e m=>by simpa using List.all_eq_true.1 g.1 e (List.mem_of_getElem? m)
  have l:∀ (b:Nat) (e:Bl),bl[b]? = some e→e.live (L.setIfInBounds i true)=e.live L∧e.put (L.setIfInBounds i true)=e.put L:=fun b e m =>
   ⟨by rw[live_set D,show (e.al == some i)=false by simpa using (G b e m).1,Bool.or_false],by rw[put_set D,show (e.st == some i)=false by simpa using (G b e m).2,Bool.or_false]⟩
  refine ⟨H,I,μ,hμ,?_,(hW.call F).same l,fun b e m=>by rw[(l b e m).1,(l b e m).2];exact hO b e m⟩
  rw[C]
  refine hA.put hd D S (fun _ _ _ _=>rfl) h0 (fun _ _ b K=>?_) _ (fun _ _=>rfl)
  have A:=g.2
  rw[K] at A
  obtain ⟨e,T,hl⟩:=V b A
  exact ⟨e,T,live_mono D hl⟩
 | make b =>
  rw[hk] at hC g
  simp only[kindB,Bool.and_eq_true] at g
  obtain ⟨⟨n,hz⟩,N⟩:=g
  obtain ⟨e,l⟩:=Option.isSome_iff_exists.1 N
  have ha:e.al=some i:=(two (zip_all hz b e l)).2.2 rfl
  have F:∀ (c:Nat) (f:Bl),bl[c]? = some f→f.st≠some i:=fun c f B=>(two (zip_all hz c f B)).1
  have O:∀ (c:Nat) (f:Bl),bl[c]? = some f→c≠b→f.al≠some i:=fun c f B U h=>U ((two (zip_all hz c f B)).2.1 h)
  have G:e.live L=false:=by unfold Bl.live;rw[ha];exact h7
  have hpt:e.put L=false:=by
   cases hp:e.put L with
   | false=>rfl
   | true=>have:=hO b e l hp;rw[G] at this;cases this
  have hq:it.out.blk=some b:=by
   cases K:it.out.blk with
   | none=>rw[K] at n;cases n
   | some c =>
    rw[K] at n
    rw[show c=b by simpa using n]
  show o.wp P a w _ Q∨_
  left
  refine hC e l fun k w' hm=>?_
  have hμb:∀ (c:Nat) (f:Bl),bl[c]? = some f→f.live L=true→upd μ b k c=μ c:=fun c f B hl=>by
   unfold upd
   rw[if_neg]
   rintro rfl
   rw[l] at B
   obtain rfl:e=f:=Option.some.inj B
   rw[G] at hl
   cases hl
  refine ⟨H,I,upd μ b k,fun c f B q=>?_,?_,hW.make D l ha O F hpt hm,fun c f B=>?_⟩
  ·rw[hμb c f B (by unfold Bl.live;rw[q];rfl)]
   exact hμ c f B q
  ·rw[C]
   refine hA.put hd D S hμb h0 (fun _ _ c Y=>?_) _ (fun _ _=>rfl)
   rw[hq] at Y
   have h1:b=c:=Option.some.inj Y
   subst h1
   exact ⟨e,l,by rw[live_set D,ha];simp⟩
  ·rw[put_set D,show (f.st == some i)=false by simpa using F c f B,Bool.or_false]
   exact fun hp=>live_mono D (hO c f B hp)
 | put b =>
  rw[hk] at hC g
  simp only[kindB,Bool.and_eq_true] at g
  obtain ⟨⟨n,hz⟩,N⟩:=g
  cases l:bl[b]? with
  | none=>rw[l] at N;cases N
  | some e =>
   rw[l] at N
   dsimp only at N
   have hs:e.st=some i:=(two (zip_all hz b e l)).2.2 rfl
   have O:∀ (c:Nat) (f:Bl),bl[c]? = some f→f.al≠some i:=fun c f B=>(two (zip_all hz c f B)).1
   have F:∀ (c:Nat) (f:Bl),bl[c]? = some f→c≠b→f.st≠some i:=fun c f B U h=>U ((two (zip_all hz c f B)).2.1 h)
   have G:e.live L=true:=by
    unfold Bl.live
    cases q:e.al with
    | none=>rfl
    | some j =>
     have A:=N
     rw[q] at A
     exact r j A
   show o.wp P a w _ Q∨_
   left
   have hw:e.put L=false:=by unfold Bl.put;rw[hs];exact h7
   have A:e.now L=e.before:=by unfold Bl.now;rw[hw];rfl
   refine hC e l (hW.has b e l G).2.1 (A ▸ (hW.has b e l G).1) fun w' k1=>?_
   refine ⟨H,I,μ,hμ,?_,hW.put D l hs G k1 F O,fun c f B hp=>?_⟩
   ·rw[C]
    refine hA.put hd D S (fun _ _ _ _=>rfl) h0 (fun d hy c Y=>?_) _ (fun d hy=>rfl)
    cases K:it.out with
    | v x=>rw[K] at Y;cases Y
    | p x y=>rw[K] at n;cases n
    | s x y z=>rw[K] at n;cases n
    | t x y z u=>rw[K] at n;cases n
   ·rw[live_set D,show (f.al == some i)=false by simpa using O c f B,Bool.or_false]
    rw[put_set D] at hp
    by_cases U:c=b
    ·subst U
     rw[l] at B
     obtain rfl:e=f:=Option.some.inj B
     exact G
    ·rw[show (f.st == some i)=false by simpa using F c f B U,Bool.or_false] at hp
     exact hO c f B hp
end RG
namespace RG
open Go Go.RowKit
variable {P:Program} {ops:Array Oper} {Q:Exit→Act→World→Prop} {w0 w:World} {k0:Nat} {X:List Nat} {its:List It} {bl:List Bl} {olds:List (Tmp × SV)} {a0:Act} {L:Array Bool} {μ μ0:Nat→Nat}
def puts (μ:Nat→Nat):List It→Act→Act
 | [],a=>a
 | it :: r,a=>puts μ r (a.put it.dst (it.out.at μ))
theorem puts_defers (μ:Nat→Nat):∀ (k:List It) (a:Act),(puts μ k a).defers=a.defers
 | [],_=>rfl
 | it :: r,a=>by
  rw[puts,puts_defers μ r]
  cases it.dst<;>rfl
theorem put_size (a:Act) (d:Option Tmp) (v:Value):(a.put d v).tmps.size=a.tmps.size:=by
 cases d with
 | none=>rfl
 | some d=>exact Array.size_setIfInBounds ..
theorem puts_size (μ:Nat→Nat):∀ (k:List It) (a:Act),(puts μ k a).tmps.size=a.tmps.size
 | [],_=>rfl
 | it :: r,a=>by rw[puts,puts_size μ r,put_size]
theorem put_other (a:Act) {d:Option Tmp} (v:Value) {t:Tmp} (h:d≠some t):(a.put d v).tmps[t]? = a.tmps[t]?:=by
 cases d with
 | none=>rfl
 | some d =>
  show (a.tmps.setIfInBounds d v)[t]? = _
  rw[Array.getElem?_setIfInBounds,if_neg (fun e=>h (by rw[e]))]
theorem puts_other (μ:Nat→Nat):∀ (k:List It) (a:Act) (t:Tmp),(∀ it∈k,it.dst≠some t)→(puts μ k a).tmps[t]? = a.tmps[t]?
 | [],_,_,_=>rfl
 | it :: r,a,t,h=>by
  rw[puts,puts_other μ r _ t (fun x hx=>h x (List.mem_cons_of_mem _ hx)),put_other a _ (h it List.mem_cons_self)]
theorem puts_same (μ:Nat→Nat):∀ (k:List It) (a:Act) (i:Nat) (it:It) (d:Tmp),dstB k=true→k[i]? = some it→it.dst=some d→d<a.tmps.size→(puts μ k a).tmps[d]? = some (it.out.at μ)
 | [],_,i,_,_,_,h,_,_=>by simp at h
 | x :: r,a,0,it,d,hB,h,hd,hs=>by
  obtain rfl:x=it:=by simpa using h
  simp only[dstB,Bool.and_eq_true,hd] at hB
  rw[puts,puts_other μ r _ d (fun y b=>by simpa using List.all_eq_true.1 hB.1 y b),hd]
  show (a.tmps.setIfInBounds d _)[d]? = _
  rw[Array.getElem?_setIfInBounds,if_pos rfl,if_pos hs]
 | x :: r,a,i+1,it,d,hB,h,hd,hs=>by
  simp only[dstB,Bool.and_eq_true] at hB
  rw[puts]
  exact puts_same μ r _ i it d hB.2 (by simpa using h) hd (by rw[put_size];exact hs)
theorem Act.ext' {a b:Act} (c:a.tmps=b.tmps) (k:a.defers=b.defers):a=b:=by
 cases a;cases b;subst c;subst k;rfl
theorem Ac.done {a:Act} (h:Ac its bl a0 L μ a) (f:dstB its=true) (c:∀ it∈its,∀ d,it.dst=some d→d<a0.tmps.size) (b:∀ i,i<its.length→on L i=true):a=puts μ its a0:=by
 refine Act.ext' ?_ (by rw[puts_defers];exact h.defers)
 apply Array.ext_getElem?
 intro t
 by_cases e:∃ (i:Nat) (it:It),its[i]? = some it∧it.dst=some t
 ·obtain ⟨i,it,k,hd⟩:=e
  rw[(h.got i it t k (b i (List.getElem?_eq_some_iff.1 k).1) hd).1,puts_same μ its a0 i it t f k hd (c it (List.mem_of_getElem? k) t hd)]
 ·rw[h.rest t (fun i it k _ hd=>e ⟨i,it,k,hd⟩),puts_other μ its a0 t (fun it g hd=>?_)]
  obtain ⟨i,k⟩:=List.getElem?_of_mem g
  exact e ⟨i,it,k,hd⟩
def unl (L:Array Bool):Nat:=L.toList.countP (fun b=>!b)
theorem count_set:∀ (l:List Bool) (i:Nat),l[i]? = some false→(l.set i true).countP (fun b=>!b)+1=l.countP (fun b=>!b)
 | [],i,h=>by simp at h
 | x :: r,0,h=>by
  obtain rfl:x=false:=by simpa using h
  simp
 | x :: r,i+1,h=>by
  have:=count_set r i (by simpa using h)
  rw[List.set_cons_succ,List.countP_cons,List.countP_cons]
  omega
theorem unl_set {i:Nat} (h:L.getD i true=false):unl (L.setIfInBounds i true)+1=unl L:=by
 unfold unl
 rw[Array.toList_setIfInBounds]
 refine count_set _ _ ?_
 rw[Array.getElem?_toList]
 rw[Array.getD_eq_getD_getElem?] at h
 cases hh:L[i]? with
 | none=>rw[hh] at h;cases h
 | some b=>rw[hh] at h;rw[show b=false from h]
theorem unl_zero (h:unl L=0) (i:Nat) (b:i<L.size):on L i=true:=by
 have c:=List.countP_eq_zero.1 h
 have k:=c L[i] (by simp)
 unfold on
 rw[Array.getD_eq_getD_getElem?,Array.getElem?_eq_getElem b]
 simpa using k
structure Reg (P:Program) (ops:Array Oper) (Q:Exit→Act→World→Prop) (w0:World) (k0:Nat) (X:List Nat) (its:List It) (bl:List Bl) (olds:List (Tmp × SV)) (a0:Act) (μ0:Nat→Nat):Prop where
 chk:allB ops its bl olds a0.tmps.size=true
 old:∀ (t:Tmp) (s:SV),(t,s)∈olds→a0.tmps[t]? = some (s.at μ0)
 cert:∀ (i:Nat) (o:Oper) (it:It),ops[i]? = some o→its[i]? = some it→Cert P Q w0 k0 X ops i its bl olds o it
theorem Reg.step {i:Nat} {o:Oper} {a:Act} (R:Reg P ops Q w0 k0 X its bl olds a0 μ0) (ho:ops[i]? = some o) (u:on L i=false) (g:∀ e∈o.after,Region.binds .any e=true→on L e.on=true) (h:Inv ops its bl a0 w0 k0 X μ0 L a w) :
 wpOp P ops Q i (Inv ops its bl a0 w0 k0 X μ0 (L.setIfInBounds i true)) a w:=by
 have x:=R.chk
 simp only[allB,Bool.and_eq_true,beq_iff_eq] at x
 obtain ⟨⟨⟨⟨l,hd⟩,f⟩,v⟩,n⟩:=x
 have B:i<its.length:=by rw[← l];exact (Array.getElem?_eq_some_iff.1 ho).1
 obtain ⟨it,k⟩:∃ it,its[i]? = some it:=⟨its[i],List.getElem?_eq_getElem B⟩
 have A:=List.all_eq_true.1 n i (List.mem_range.2 B)
 rw[ho,k] at A
 refine RG.step (olds:=olds) hd ho k A (fun d q=>?_) (fun t s z=>?_) (fun j D E p m=>?_) l (R.cert i o it ho k) u g h
 ·have:=List.all_eq_true.1 v it (List.mem_of_getElem? k)
  rw[q] at this
  simpa using this
 ·have C:=List.all_eq_true.1 f (t,s) z
  refine ⟨R.old t s z,fun b r=>?_⟩
  have c:=C
  dsimp only at c
  rw[r] at c
  dsimp only at c
  cases y:bl[b]? with
  | none=>rw[y] at c;cases c
  | some e=>rw[y] at c;exact ⟨e,rfl,by simpa using c⟩
 ·have c:=List.all_eq_true.1 n j (List.mem_range.2 (List.getElem?_eq_some_iff.1 m).1)
  rw[p,m] at c
  simp only[okB,Bool.and_eq_true] at c
  simpa using c.1.1.1.1
theorem Reg.back {i:Nat} {o:Oper} (R:Reg P ops Q w0 k0 X its bl olds a0 μ0) (ho:ops[i]? = some o):i<its.length∧∀ e∈o.after,Region.binds .any e=true→e.on<i:=by
 have f:=R.chk
 simp only[allB,Bool.and_eq_true,beq_iff_eq] at f
 obtain ⟨⟨⟨⟨c,hd⟩,g⟩,m⟩,k⟩:=f
 have b:i<its.length:=by rw[← c];exact (Array.getElem?_eq_some_iff.1 ho).1
 have d:=List.all_eq_true.1 k i (List.mem_range.2 b)
 rw[ho,List.getElem?_eq_getElem b] at d
 simp only[okB,Bool.and_eq_true] at d
 refine ⟨b,fun e j l=>?_⟩
 have:=Array.all_eq_true'.1 d.1.1.2 e j
 simpa[l] using this
theorem Reg.size (R:Reg P ops Q w0 k0 X its bl olds a0 μ0):ops.size=its.length:=by
 have k:=R.chk
 simp only[allB,Bool.and_eq_true,beq_iff_eq] at k
 exact k.1.1.1.1
theorem Reg.full {a:Act} (R:Reg P ops Q w0 k0 X its bl olds a0 μ0) (h:Inv ops its bl a0 w0 k0 X μ0 L a w) (g:Region.ready .any ops L=[]):∀ i,i<its.length→on L i=true:=by
 intro i
 induction i using Nat.strongRecOn with
 | ind i ih =>
  intro c
  have ho:ops[i]? = some (ops[i]'(by rw[R.size];exact c)):=Array.getElem?_eq_getElem _
  cases k:on L i with
  | true=>rfl
  | false =>
   have:i∈Region.ready .any ops L:=mem_ready.2 ⟨?_,_,ho,fun e d f=>?_⟩
   ·rw[g] at this;cases this
   ·unfold on at k
    rw[Array.getD_eq_getD_getElem?,Array.getElem?_eq_getElem (by rw[h.size];exact c)] at k ⊢
    exact k
   ·have b:=(R.back ho).2 e d f
    exact ih e.on b (Nat.lt_trans b c)
def ad (ks:List Nat) (b:Nat):Nat:=ks.getD b 0
structure St (w0:World) (k0:Nat) (X:List Nat) (cs:List (List Value)) (ks:List Nat) (w:World):Prop where
 bel:BelX k0 X w0 w
 le:k0≤w.heap.size
 len:ks.length=cs.length
 has:∀ (b:Nat) (c:List Value),cs[b]? = some c→w.rangeAt (ad ks b) 0 c∧w.there (ad ks b) 0 c.length∧ad ks b<w.heap.size∧(k0≤ad ks b∨ad ks b∈X)
 inj:∀ (b c:Nat),b<cs.length→c<cs.length→b≠c→ad ks b≠ad ks c
theorem St.drew {cs:List (List Value)} {ks:List Nat} (h:St w0 k0 X cs ks w):St w0 k0 X cs ks w.drew:=⟨h.bel.drew,h.le,h.len,h.has,h.inj⟩
def Bl.fin (e:Bl):List Value:=if e.st.isSome=true then e.after else e.before
def startB (k:List Bl) (n:Nat):Bool:=k.zipIdx.all (fun x=>x.1.al.isNone == decide (x.2<n)) && decide (n≤k.length)
theorem start_inv {r:Array Oper} {cs:List (List Value)} {ks:List Nat} (q:St w0 k0 X cs ks w) (x:startB bl cs.length=true) (t:(bl.map (·.before)).take cs.length=cs) :
 Inv r its bl a0 w0 k0 X (ad ks) (Array.replicate its.length false) a0 w:=by
 simp only[startB,Bool.and_eq_true] at x
 have g:∀ i,on (Array.replicate its.length false) i=false:=fun i=>by
  unfold on
  rw[Array.getD_eq_getD_getElem?,Array.getElem?_replicate]
  by_cases h:i<its.length
  ·rw[if_pos h];rfl
  ·rw[if_neg h];rfl
 have k:∀ (b:Nat) (e:Bl),bl[b]? = some e→e.live (Array.replicate its.length false)=true→b<cs.length:=fun b e l n=>by
  have p:=zip_all x.1 b e l
  unfold Bl.live at n
  cases m:e.al with
  | none=>simpa[m] using p
  | some j=>rw[m] at n;have:on (Array.replicate its.length false) j=true:=n;rw[g] at this;cases this
 have m:∀ e:Bl,e.put (Array.replicate its.length false)=false:=fun e=>by
  unfold Bl.put
  cases e.st with
  | none=>rfl
  | some j=>exact g j
 have p:∀ (b:Nat) (e:Bl),bl[b]? = some e→b<cs.length→cs[b]? = some e.before:=fun b e l u=>by
  rw[← t,List.getElem?_take,if_pos u,List.getElem?_map,l]
  rfl
 refine ⟨Array.size_replicate,(fun i o _ h=>by rw[g] at h;cases h),ad ks,fun _ _ _ _=>rfl,⟨rfl,rfl,fun i it d a ho=>?_,fun _ _=>rfl⟩,⟨q.bel,q.le,fun b e l n=>?_,fun b c e f l z y hf s=>q.inj b c (k b e l y) (k c f z hf) s⟩,fun b e l v=>?_⟩
 ·rw[g] at ho;cases ho
 ·unfold Bl.now
  rw[m e]
  exact q.has b e.before (p b e l (k b e l n))
 ·rw[m e] at v;cases v
theorem Inv.done {a:Act} {cs:List (List Value)} {ks:List Nat} (R:Reg P ops Q w0 k0 X its bl olds a0 (ad ks)) (h:Inv ops its bl a0 w0 k0 X (ad ks) L a w) (o:ks.length=cs.length) (F:startB bl cs.length=true) (k:∀ i,i<its.length→on L i=true)
 (p:∀ e∈bl,∀ j,e.al=some j∨e.st=some j→j<its.length) (s:∀ e∈bl,e.fin.length=e.before.length)
 (J:∀ (new:List Nat) (w':World),new.length=bl.length-cs.length→St w0 k0 X (bl.map Bl.fin) (ks++new) w'→Q .normal (puts (ad (ks++new)) its a0) w'):Q .normal a w:=by
 obtain ⟨G,-,μ,hμ,C,A,N⟩:=h
 have I:=R.chk
 simp only[allB,Bool.and_eq_true,beq_iff_eq] at I
 obtain ⟨⟨⟨⟨v,hd⟩,u⟩,z⟩,H⟩:=I
 have M:=F
 simp only[startB,Bool.and_eq_true,decide_eq_true_eq] at F
 have f:∀ (b:Nat) (e:Bl),bl[b]? = some e→e.live L=true:=fun b e m=>by
  unfold Bl.live
  cases g:e.al with
  | none=>rfl
  | some j=>exact k j (p e (List.mem_of_getElem? m) j (Or.inl g))
 have y:∀ (b:Nat) (e:Bl),bl[b]? = some e→e.now L=e.fin:=fun b e m=>by
  unfold Bl.now Bl.put Bl.fin
  cases g:e.st with
  | none=>rfl
  | some j =>
   have:=k j (p e (List.mem_of_getElem? m) j (Or.inr g))
   simp[this]
 have g:∀ b,b<bl.length→ad (ks++(List.range (bl.length-cs.length)).map (fun j=>μ (cs.length+j))) b=μ b:=fun b m=>by
  unfold ad
  rw[List.getD_eq_getElem?_getD]
  by_cases n:b<cs.length
  ·rw[List.getElem?_append_left (by rw[o];exact n)]
   obtain ⟨e,l⟩:∃ e,bl[b]? = some e:=⟨bl[b],List.getElem?_eq_getElem m⟩
   have t:=zip_all F.1 b e l
   have q:e.al=none:=by simpa[n] using t
   rw[hμ b e l q]
   unfold ad
   rw[List.getD_eq_getElem?_getD]
  ·rw[List.getElem?_append_right (by rw[o];omega),List.getElem?_map,o,List.getElem?_range oM]
   show μ (cs.length+(b-cs.length))=μ b
   congr 1
   omega
 have q:=C.done hd (fun it D d n=>by
  have:=List.all_eq_true.1 z it D
  rw[n] at this
  simpa using this) k
 have B:puts μ its a0=puts (ad (ks++(List.range (bl.length-cs.length)).map (fun j=>μ (cs.length+j)))) its a0:=by
  have key:∀ it∈its,∀ d,it.dst=some d→it.out.at μ=it.out.at (ad (ks++(List.range (bl.length-cs.length)).map (fun j=>μ (cs.length+j)))):=fun it D d n=>by
   obtain ⟨i,E⟩:=List.getElem?_of_mem D
   have K:=(C.got i it d E (k i (List.getElem?_eq_some_iff.1 E).1) n).2
   refine SV.at_congr fun b m=>?_
   obtain ⟨e,l,-⟩:=K b m
   rw[g b (List.getElem?_eq_some_iff.1 l).1]
  clear C q u H z hd v G R k p J
  generalize a0=E
  induction its generalizing E with
  | nil=>rfl
  | cons it r ih =>
   rw[puts,puts]
   have t:E.put it.dst (it.out.at μ)=E.put it.dst (it.out.at (ad (ks++(List.range (bl.length-cs.length)).map (fun j=>μ (cs.length+j))))):=by
    cases n:it.dst with
    | none=>rfl
    | some d=>rw[key it List.mem_cons_self d n]
   rw[t]
   exact ih (fun x hx=>key x (List.mem_cons_of_mem _ hx)) _
 rw[q,B]
 refine J _ w (by simp) ⟨A.bel,A.le,?_,fun b c p=>?_,fun b c m p E=>?_⟩
 ·simp only[List.length_append,List.length_map,List.length_range]
  omega
 ·rw[List.getElem?_map] at p
  cases l:bl[b]? with
  | none=>rw[l] at p;cases p
  | some e =>
   rw[l] at p
   obtain rfl:e.fin=c:=Option.some.inj p
   have t:=A.has b e l (f b e l)
   rw[y b e l] at t
   rw[g b (List.getElem?_eq_some_iff.1 l).1,s e (List.mem_of_getElem? l)]
   exact t
 ·rw[List.length_map] at m p
  rw[g b m,g c p]
  exact A.inj b c _ _ (List.getElem?_eq_getElem m) (List.getElem?_eq_getElem p) (f b _ (List.getElem?_eq_getElem m)) (f c _ (List.getElem?_eq_getElem p)) E
theorem region_draws' {id:Nat} {cs:List (List Value)} {ks:List Nat} (v:P.follows .mixedOrders=true) (q:St w0 k0 X cs ks w) (R:Reg P ops Q w0 k0 X its bl olds a0 (ad ks)) (s:startB bl cs.length=true) (r:(bl.map (·.before)).take cs.length=cs) (hE:(∀ e∈bl,∀ j,e.al=some j∨e.st=some j→j<its.length)∧∀ e∈bl,e.fin.length=e.before.length)
 (t:∀ (new:List Nat) (w':World),new.length=bl.length-cs.length→St w0 k0 X (bl.map Bl.fin) (ks++new) w'→Q .normal (puts (ad (ks++new)) its a0) w'):(Code.region id ops true).wp P Q a0 w:=by
 obtain ⟨m,c⟩:=hE
 have key:∀ (k:Nat) (L:Array Bool) (a:Act) (w:World),unl L=k→Inv ops its bl a0 w0 k0 X (ad ks) L a w→wpAny P .any ops Q k L a w:=by
  intro k
  induction k with
  | zero =>
   intro L a w u g
   have f:∀ i,i<its.length→on L i=true:=fun i n=>unl_zero u i (by rw[g.size];exact n)
   refine ⟨?_,g.done R q.len s f m c t⟩
   apply List.eq_nil_iff_forall_not_mem.2
   intro i n
   obtain ⟨d,o,ho,-⟩:=mem_ready.1 n
   have l:=f i (R.back ho).1
   unfold on at l
   rw[Array.getD_eq_getD_getElem?] at d l
   cases hh:L[i]? with
   | none=>rw[hh] at d;cases d
   | some b=>rw[hh] at d l;rw[show b=false from d] at l;cases l
  | succ k ih =>
   intro L a w u g
   refine ⟨fun x=>g.done R q.len s (R.full g x) m c t,fun i n=>?_⟩
   obtain ⟨d,o,ho,l⟩:=mem_ready.1 n
   have f:on L i=false:=by
    unfold on
    rw[Array.getD_eq_getD_getElem?] at d ⊢
    cases hh:L[i]? with
    | none=>rfl
    | some b=>rw[hh] at d;exact d
   exact wpOp_mono (fun y w' p=>ih _ y w' (by have:=unl_set d;omega) p) (R.step ho f l g)
 refine wp_region_any v (key _ _ a0 _ ?_ ?_)
 ·unfold unl
  rw[Array.toList_replicate,List.countP_replicate]
  simp
 ·rw[R.size]
  exact start_inv q.drew s r
theorem region_text' {id:Nat} {cs:List (List Value)} {ks:List Nat} (o:St w0 k0 X cs ks w) (R:Reg P ops Q w0 k0 X its bl olds a0 (ad ks)) (q:startB bl cs.length=true) (l:(bl.map (·.before)).take cs.length=cs) (hE:(∀ e∈bl,∀ j,e.al=some j∨e.st=some j→j<its.length)∧∀ e∈bl,e.fin.length=e.before.length)
 (g:∀ (new:List Nat) (w':World),new.length=bl.length-cs.length→St w0 k0 X (bl.map Bl.fin) (ks++new) w'→Q .normal (puts (ad (ks++new)) its a0) w'):(Code.region id ops false).wp P Q a0 w:=by
 obtain ⟨f,k⟩:=hE
 have key:∀ (m i:Nat) (L:Array Bool) (a:Act) (w:World),i+m=its.length→(∀ j,j<its.length→on L j=decide (j<i))→Inv ops its bl a0 w0 k0 X (ad ks) L a w→wpOps P ops Q (List.range' i m) a w:=by
  intro m
  induction m with
  | zero =>
   intro i L a w u c d
   exact d.done R o.len q (fun j b=>by rw[c j b];simp;omega) f k g
  | succ m ih =>
   intro i L a w u c d
   rw[List.range'_succ,wpOps_cons]
   have ho:ops[i]? = some (ops[i]'(by rw[R.size];omega)):=Array.getElem?_eq_getElem _
   refine wpOp_mono (fun t w' g=>ih (i+1) _ t w' oM (fun j b=>?_) g) (R.step ho (by rw[c i oM];simp) (fun e r s=>?_) d)
   ·rw[on_set (by rw[d.size];omega),c j b]
    by_cases p:j<i
    ·simp[p];omega
    ·by_cases n:i=j
     ·subst n;simp
     ·have:¬ j<i+1:=oM
      simp[p,n,this]
   ·have n:=(R.back ho).2 e r s
    rw[c e.on oM]
    simpa using n
 refine wp_region ?_
 rw[List.range_eq_range',R.size]
 refine key its.length 0 (Array.replicate its.length false) a0 w oM (fun j b=>?_) (start_inv o q l)
 unfold on
 rw[Array.getD_eq_getD_getElem?,Array.getElem?_replicate,if_pos b]
 simp
end RG
namespace RG
open Go Go.RowKit
variable {P:Program} {Q:Exit→Act→World→Prop} {its:List It} {bl:List Bl} {olds:List (Tmp × SV)} {ops:Array Oper} {i:Nat} {o:Oper} {it:It} {w0:World} {k0:Nat} {X:List Nat}
theorem cert_stay (d:it.kind=.stay) (b:∀ (μ:Nat→Nat) (a:Act) (w:World),Known ops i its olds it.need μ a→BelX k0 X w0 w→(execOp a.eval o).run P w=.ok (.value (it.out.at μ)) w):Cert P Q w0 k0 X ops i its bl olds o it:=by
 intro μ a w K c _ k
 rw[d]
 intro h
 unfold Oper.wp
 rw[b μ a w c k]
 exact h
theorem cert_load (s:it.kind=.stay) (b off:Nat) (e:Bl) (u:bl[b]? = some e) (n:e.al=none) (g:readB ops i e=true) (T:TypeId) (t:Tmp) (ho:o.op=.load T (.tmp t)) (cs:List Value) (c:it.out=.v (.agg cs.toArray))
 (hx:∀ (μ:Nat→Nat) (a:Act),Known ops i its olds it.need μ a→a.eval (.tmp t)=(SV.p b off).at μ) (k:(e.before.drop off).take cs.length=cs)
 (m:(P.underlying T).map (·.isRow)=some true) (x:(P.info? T).map (·.size)=some cs.length):Cert P Q w0 k0 X ops i its bl olds o it:=by
 intro μ a w K r hR _
 rw[s]
 intro h
 rw[c] at h
 obtain ⟨d,m,hd⟩:=Option.map_eq_some_iff.1 m
 refine wp_load_mid T (.tmp t) ho (μ b) off (hx μ a r) cs d (fun j v f=>?_) m hd x h
 have q:=hR b e u (Or.inl n) g (off+j) v ?_
 ·rw[Nat.zero_add] at q;exact q
 ·rw[← k] at f
  have l:j<cs.length:=by
   have p:=(List.getElem?_eq_some_iff.1 f).1
   rw[k] at p
   exact p
  rw[List.getElem?_take,if_pos l,List.getElem?_drop] at f
  exact f
theorem cert_call (g:it.kind=.call) (f:FuncId) (args:Array Value) (v:Value) (b:it.out=.v v) (c:∀ (μ:Nat→Nat) (a:Act) (w:World),Known ops i its olds it.need μ a→BelX k0 X w0 w→(execOp a.eval o).run P w=.ok (.enter f args) w)
 (l:∀ w,BelX k0 X w0 w→Calls P f args w (Ret fun e w'=>Below w.heap.size w w'∧e=v)):Cert P Q w0 k0 X ops i its bl olds o it:=by
 intro μ a w K d _ k
 rw[g]
 intro h
 rw[b] at h
 unfold Oper.wp
 rw[c μ a w d k,Oper.upon_enter]
 refine (l w k).mono ?_
 rintro e w' ⟨m,rfl,j,rfl⟩
 exact h w' j
theorem cert_make (b:Nat) (j:it.kind=.make b) (e:Bl) (f:bl[b]? = some e) (t:TypeId) (d:∀ (μ:Nat→Nat) (a:Act) (w:World),Known ops i its olds it.need μ a→BelX k0 X w0 w→(execOp a.eval o).run P w=.ok (.value (it.out.at (upd μ b w.heap.size))) (w.alloc (.cells e.before.toArray t))):Cert P Q w0 k0 X ops i its bl olds o it:=by
 intro μ a w K g _ k
 rw[j]
 intro e' c h
 rw[f] at c
 obtain rfl:e=e':=Option.some.inj c
 unfold Oper.wp
 rw[d μ a w g k]
 exact h _ _ (Made.alloc w e.before t)
theorem cert_put (b:Nat) (l:it.kind=.put b) (e:Bl) (n:bl[b]? = some e) (T:TypeId) (x y:Operand) (ho:o.op=.store T x y) (f:o.dst=none) (k:e.after.length=e.before.length)
 (hx:∀ (μ:Nat→Nat) (a:Act),Known ops i its olds it.need μ a→a.eval x=(SV.p b 0).at μ) (q:∀ (μ:Nat→Nat) (a:Act),Known ops i its olds it.need μ a→a.eval y=.agg e.after.toArray)
 (r:(P.info? T).map (·.size)=some e.after.length) (m:e.after.all (·.oneCell')=true):Cert P Q w0 k0 X ops i its bl olds o it:=by
 intro μ a w K g _ _
 rw[l]
 intro e' c j p h
 rw[n] at c
 obtain rfl:e=e':=Option.some.inj c
 have d:=PutTo.whole j p k
 refine wp_store_mid T x y ho (μ b) 0 e.after.toArray (hx μ a g) (q μ a g) ?_ ?_ ?_ ?_
 ·rw[List.size_toArray,k];exact j
 ·rw[List.size_toArray];exact r
 ·exact all_oneCell_toArray (fun v hv=>List.all_eq_true.1 m v hv)
 ·have:=h _ d
  rw[f] at this ⊢
  exact this
theorem Known.op {k:List (Tmp × Nat)} {μ:Nat→Nat} {a:Act} (h:Known ops i its olds k μ a) (t:Tmp) (j:Nat) (d:(t,j)∈k) {b:It} (c:its[j]? = some b):a.eval (.tmp t)=b.out.at μ:=h.1 t j b d c
theorem Known.old {k:List (Tmp × Nat)} {μ:Nat→Nat} {a:Act} (h:Known ops i its olds k μ a) (t:Tmp) (s:SV) (b:(t,s)∈olds) (hf:freeB ops its i t=true):a.eval (.tmp t)=s.at μ:=h.2 t s b hf
theorem len1 {l:List Nat} (h:l.length=1):∃ k,l=[k]:=List.length_eq_one_iff.1 h
theorem len2 {l:List Nat} (h:l.length=2):∃ k j,l=[k,j]:=by
 match l,h with
 | [k,j],_=>exact ⟨k,j,rfl⟩
end RG
namespace RG
open Go Go.RowKit
variable {P:Program} {ops:Array Oper} {Q:Exit→Act→World→Prop} {w0 w:World} {k0:Nat} {X:List Nat} {its:List It} {bl:List Bl} {olds:List (Tmp × SV)} {a0:Act} {L:Array Bool} {μ μ0:Nat→Nat} {i:Nat} {o:Oper} {it:It}
def Certs (P:Program) (Q:Exit→Act→World→Prop) (d:World) (e:Nat) (X:List Nat) (k:Array Oper) (b:List It) (c:List Bl) (olds:List (Tmp × SV)):Nat→List Oper→List It→Prop
 | _,[],_=>True
 | _,_ :: _,[]=>False
 | i,o :: os,it :: is=>Cert P Q d e X k i b c olds o it∧Certs P Q d e X k b c olds (i+1) os is
theorem Certs.get:∀ {k:List Oper} {b:List It} {n:Nat},Certs P Q w0 k0 X ops its bl olds n k b→∀ (i:Nat) (o:Oper) (it:It),k[i]? = some o→b[i]? = some it→Cert P Q w0 k0 X ops (n+i) its bl olds o it
 | [],_,_,_,i,_,_,h,_=>by simp at h
 | _ :: _,[],_,h,_,_,_,_,_=>h.elim
 | o :: k,it :: b,_,h,0,o',it',ho,hi=>by
  obtain rfl:o=o':=by simpa using ho
  obtain rfl:it=it':=by simpa using hi
  exact h.1
 | o :: k,it :: b,n,h,i+1,o',it',ho,hi=>by
  have:=Certs.get h.2 i o' it' (by simpa using ho) (by simpa using hi)
  rw[show n+(i+1)=n+1+i by omega]
  exact this
def Olds (a0:Act) (k:Nat→Nat):List (Tmp × SV)→Prop
 | []=>True
 | x :: r=>a0.tmps[x.1]? = some (x.2.at k)∧Olds a0 k r
theorem Olds.get:∀ {l:List (Tmp × SV)},Olds a0 μ0 l→∀ (t:Tmp) (s:SV),(t,s)∈l→a0.tmps[t]? = some (s.at μ0)
 | [],_,_,_,h=>by cases h
 | x :: r,h,t,s,hm=>by
  rcases List.mem_cons.1 hm with e|e
  ·subst e;exact h.1
  ·exact Olds.get h.2 t s e
theorem Reg.mk' (chk:allB ops its bl olds a0.tmps.size=true) (old:Olds a0 μ0 olds) (k:Certs P Q w0 k0 X ops its bl olds 0 ops.toList its):Reg P ops Q w0 k0 X its bl olds a0 μ0:=
 ⟨chk,fun t s c=>old.get t s c,fun i o it ho b=>by have:=k.get i o it (by rw[Array.getElem?_toList];exact ho) b;rwa[Nat.zero_add] at this⟩
theorem cert_call1 (g:it.kind=.call) (f:FuncId) (t1:Tmp) (v1 v:Value) (k:it.out=.v v) (b:∀ (a:Act) (w:World),(execOp a.eval o).run P w=.ok (.enter f #[a.eval (.tmp t1)]) w)
 (j:∀ (μ:Nat→Nat) (a:Act),Known ops i its olds it.need μ a→a.eval (.tmp t1)=v1) (d:∀ w,Calls P f #[v1] w (Ret fun e w'=>Below w.heap.size w w'∧e=v)):Cert P Q w0 k0 X ops i its bl olds o it:=
 cert_call g f #[v1] v k (fun μ a w c _=>by rw[b,j μ a c]) (fun w _=>d w)
theorem at_made {b k:Nat} (c:it.out=.p b 0):it.out.at (upd μ b k)=.pointer (some ⟨k,0,none⟩):=by
 rw[c]
 show Value.pointer (some ⟨upd μ b k b,0,none⟩)=_
 unfold upd
 rw[if_pos rfl]
theorem cert_alloc (b:Nat) (f:it.kind=.make b) (k:it.out=.p b 0) (e:Bl) (c:bl[b]? = some e) (T:TypeId) (ho:o.op=.alloc T) (d:∀ w:World,(Instr.alloc T true (.tuple #[])).run P w=.ok (.pointer (some ⟨w.heap.size,0,none⟩)) (w.alloc (.cells e.before.toArray T))):Cert P Q w0 k0 X ops i its bl olds o it:=by
 refine cert_make b f e c T fun μ a w g _=>?_
 unfold execOp
 rw[ho]
 rw[at_made k]
 show ((Instr.alloc T true (.tuple #[])) >>= fun v=>pure (Next.value v)).run P w=_
 rw[Sem.run_bind,d]
 rfl
theorem results_row {e:Func} {a:Act} {cs:List (List Value)} {ks:List Nat} (l:St w0 k0 X cs ks w) (t:Tmp) (T:TypeId) (f:e.results=#[.cell t T]) (b:Nat) (c:List Value) (i:cs[b]? = some c) (n:a.tmps[t]? = some (.pointer (some ⟨ad ks b,0,none⟩)))
 (k:(P.underlying T).map (·.isRow)=some true) (j:(P.info? T).map (·.size)=some c.length):(results e a.tmps).run P w=.ok (.agg c.toArray) w:=by
 obtain ⟨d,k,hd⟩:=Option.map_eq_some_iff.1 k
 have m:=run_loadVar_mid (P:=P) w (ad ks b) 0 T c d (l.has b c i).1 k hd j
 have g:a.tmps.getD t undef=.pointer (some ⟨ad ks b,0,none⟩):=by rw[Array.getD_eq_getD_getElem?,n];rfl
 unfold results
 rw[f]
 simp only[Array.mapM_eq_mapM_toList,List.mapM_cons,List.mapM_nil,g,asAddr]
 simp[Sem.run_bind,m]
theorem St.begin (w:World):St w w.heap.size [] [] [] w:=⟨BelX.refl _ _ _,Nat.le_refl _,rfl,fun b c h=>by simp at h,fun b c h=>by simp at h⟩
end RG
namespace RG
open Go Go.RowKit
variable {P:Program} {ops:Array Oper} {Q:Exit→Act→World→Prop} {w0 w:World} {k0:Nat} {X:List Nat} {its:List It} {bl:List Bl} {olds:List (Tmp × SV)} {a0:Act} {i:Nat} {o:Oper} {it:It}
theorem cert_pass (k:it.kind=.pass) (h:it.out=.v undef):Cert P Q w0 k0 X ops i its bl olds o it:=by
 intro μ a w K _ _ _
 rw[k]
 exact h
theorem cert_bin (e:it.kind=.stay) (op:BinOp) (T d:TypeId) (t1 t2:Tmp) (v1 v2 v:Value) (ho:o.op=.binOp op T (.tmp t1) (.tmp t2) d) (k:it.out=.v v)
 (g:∀ (μ:Nat→Nat) (a:Act),Known ops i its olds it.need μ a→a.eval (.tmp t1)=v1) (c:∀ (μ:Nat→Nat) (a:Act),Known ops i its olds it.need μ a→a.eval (.tmp t2)=v2)
 (f:∀ w,(eqGuard op T (.tmp t1) (.tmp t2) v1 v2).run P w=.ok () w) (j:∀ w,(binOp op T v1 v2).run P w=.ok v w):Cert P Q w0 k0 X ops i its bl olds o it:=by
 refine cert_stay e fun μ a w b _=>?_
 unfold execOp
 rw[ho,k]
 dsimp only
 rw[g μ a b,c μ a b,Sem.run_bind,Sem.run_bind,f]
 dsimp only[Result.andThen]
 rw[j]
 rfl
theorem results_t {k:Func} {a:Act} (t:Tmp) (b:k.results=#[.tmp t]) (v:Value) (d:a.tmps[t]? = some v):(results k a.tmps).run P w=.ok v w:=by
 have c:a.tmps.getD t undef=v:=by rw[Array.getD_eq_getD_getElem?,d];rfl
 unfold results
 rw[b]
 simp only[Array.mapM_eq_mapM_toList,List.mapM_cons,List.mapM_nil,c]
 simp[Sem.run_bind]
theorem results_rt {f:Func} {a:Act} {cs:List (List Value)} {ks:List Nat} (i:St w0 k0 X cs ks w) (t u:Tmp) (T:TypeId) (m:f.results=#[.cell t T,.tmp u]) (b:Nat) (c:List Value) (o:cs[b]? = some c) (p:a.tmps[t]? = some (.pointer (some ⟨ad ks b,0,none⟩))) (v:Value) (k:a.tmps[u]? = some v)
 (e:(P.underlying T).map (·.isRow)=some true) (n:(P.info? T).map (·.size)=some c.length):(results f a.tmps).run P w=.ok (.tuple #[.agg c.toArray,v]) w:=by
 obtain ⟨d,e,hd⟩:=Option.map_eq_some_iff.1 e
 have l:=run_loadVar_mid (P:=P) w (ad ks b) 0 T c d (i.has b c o).1 e hd n
 have g:a.tmps.getD t undef=.pointer (some ⟨ad ks b,0,none⟩):=by rw[Array.getD_eq_getD_getElem?,p];rfl
 have j:a.tmps.getD u undef=v:=by rw[Array.getD_eq_getD_getElem?,k];rfl
 unfold results
 rw[m]
 simp only[Array.mapM_eq_mapM_toList,List.mapM_cons,List.mapM_nil,g,j,asAddr]
 simp[Sem.run_bind,l]
end RG
namespace RG
open Go Go.RowKit
variable {P:Program} {ops:Array Oper} {Q:Exit→Act→World→Prop} {w0 w:World} {k0:Nat} {X:List Nat} {its:List It} {bl:List Bl} {olds:List (Tmp × SV)} {a0 a:Act} {i:Nat} {o:Oper} {it:It} {μ:Nat→Nat}
structure Sl (a:Act) (n:Nat):Prop where
 size:a.tmps.size=n
 defers:a.defers=[]
theorem Sl.puts {n:Nat} (h:Sl a n):Sl (puts μ its a) n:=⟨by rw[puts_size];exact h.size,by rw[puts_defers];exact h.defers⟩
theorem eval_of {t:Tmp} {v:Value} (h:a.tmps[t]? = some v):a.eval (.tmp t)=v:=by
 show a.tmps.getD t undef=v
 rw[Array.getD_eq_getD_getElem?,h]
 rfl
theorem results_none {k:Func} {tmps:Array Value} (b:k.results=#[]):(results k tmps).run P w=.ok (.tuple #[]) w:=by
 unfold results
 rw[b]
 simp
theorem var1 {c:Code} {v0:Value} {n:Nat} (b:a.tmps[0]? = some v0) (k:a.tmps.size=n) (hd:a.defers=[]) (h:∀ a,Sl a n→a.tmps[0]? = some v0→c.wp P Q a w):c.wp P Q a w:=h a ⟨k,hd⟩ b
theorem var2 {c:Code} {v0 v1:Value} {n:Nat} (b:a.tmps[0]? = some v0) (d:a.tmps[1]? = some v1) (k:a.tmps.size=n) (hd:a.defers=[]) (h:∀ a,Sl a n→a.tmps[0]? = some v0→a.tmps[1]? = some v1→c.wp P Q a w):c.wp P Q a w:=h a ⟨k,hd⟩ b d
theorem var3 {c:Code} {v0 v1 v2:Value} {n:Nat} (d:a.tmps[0]? = some v0) (e:a.tmps[1]? = some v1) (k:a.tmps[2]? = some v2) (b:a.tmps.size=n) (hd:a.defers=[]) (h:∀ a,Sl a n→a.tmps[0]? = some v0→a.tmps[1]? = some v1→a.tmps[2]? = some v2→c.wp P Q a w):c.wp P Q a w:=h a ⟨b,hd⟩ d e k
theorem cert_makes (b:Nat) (f:it.kind=.make b) (e:Bl) (l:bl[b]? = some e) (T E:TypeId) (t1 t2:Tmp) (n:Nat) (k:it.out=.s b n n) (ho:o.op=.makeSlice T (.tmp t1) (.tmp t2))
 (j:∀ (μ:Nat→Nat) (a:Act),Known ops i its olds it.need μ a→a.eval (.tmp t1)=.int .i64 n) (d:∀ (μ:Nat→Nat) (a:Act),Known ops i its olds it.need μ a→a.eval (.tmp t2)=.int .i64 n)
 (m:∀ w:World,(Instr.makeSlice T (.int .i64 n) (.int .i64 n)).run P w=.ok (.slice (some ⟨w.heap.size,0,none⟩) n n) (w.alloc (.cells e.before.toArray E))):Cert P Q w0 k0 X ops i its bl olds o it:=by
 refine cert_make b f e l E fun μ a w c _=>?_
 have g:it.out.at (upd μ b w.heap.size)=.slice (some ⟨w.heap.size,0,none⟩) n n:=by
  rw[k]
  show Value.slice (some ⟨upd μ b w.heap.size b,0,none⟩) n n=_
  unfold upd
  rw[if_pos rfl]
 unfold execOp
 rw[ho]
 dsimp only
 rw[j μ a c,d μ a c,g,Sem.run_bind,m]
 rfl
theorem cert_one (d:it.kind=.stay) (t:Tmp) (s:SV) (v:Value) (k:it.out=.v v) (hx:∀ (μ:Nat→Nat) (a:Act),Known ops i its olds it.need μ a→a.eval (.tmp t)=s.at μ)
 (hE:∀ (a:Act) (w:World),(execOp a.eval o).run P w=(execOp (fun _=>a.eval (.tmp t)) o).run P w) (c:∀ (μ:Nat→Nat) (w:World),(execOp (fun _=>s.at μ) o).run P w=.ok (.value v) w):Cert P Q w0 k0 X ops i its bl olds o it:=by
 refine cert_stay d fun μ a w b _=>?_
 rw[hE,hx μ a b,c,k]
 rfl
theorem cert_callM (q:it.kind=.call) (b:Nat) (e:Bl) (u:bl[b]? = some e) (l:e.al=none) (g:readB ops i e=true) (s:e.before≠[]) (f:FuncId) (args:(Nat→Nat)→Array Value) (v:Value) (c:it.out=.v v) (d:∀ (μ:Nat→Nat) (a:Act) (w:World),Known ops i its olds it.need μ a→(execOp a.eval o).run P w=.ok (.enter f (args μ)) w)
 (y:∀ (μ:Nat→Nat) (w:World),μ b<w.heap.size→w.rangeAt (μ b) 0 e.before→Calls P f (args μ) w (Ret fun r w'=>Below w.heap.size w w'∧r=v)):Cert P Q w0 k0 X ops i its bl olds o it:=by
 intro μ a w K n hR _
 rw[q]
 intro h
 rw[c] at h
 have m:=hR b e u (Or.inl l) g
 have j:μ b<w.heap.size:=by
  cases k:e.before with
  | nil=>exact absurd k s
  | cons x r =>
   have t:=m 0 x (by rw[k];rfl)
   exact Classical.byContradiction fun z=>by
    have p:w.heap[μ b]? = none:=Array.getElem?_eq_none oM
    simp[World.cell?,p] at t
 unfold Oper.wp
 rw[d μ a w n,Oper.upon_enter]
 refine (y μ w j m).mono ?_
 rintro r w' ⟨p,rfl,k,rfl⟩
 exact h w' k
theorem range_sub {k o:Nat} {C cs:List Value} (h:w.rangeAt k 0 C) (b:∀ j,j<cs.length→C[o+j]? = cs[j]?):w.rangeAt k o cs:=fun j v hv=>by
 have c:=(List.getElem?_eq_some_iff.1 hv).1
 have:=h (o+j) v (by rw[b j c];exact hv)
 rwa[Nat.zero_add] at this
theorem cert_idx (c:it.kind=.stay) (T:TypeId) (t u:Tmp) (ho:o.op=.indexAddr T (.tmp t) (.tmp u)) (s:SV) (iv:Value) (hx:∀ (μ:Nat→Nat) (a:Act),Known ops i its olds it.need μ a→a.eval (.tmp t)=s.at μ) (b:∀ (μ:Nat→Nat) (a:Act),Known ops i its olds it.need μ a→a.eval (.tmp u)=iv)
 (hf:∀ (μ:Nat→Nat) (w:World),(Instr.indexAt T (s.at μ) iv).run P w=.ok (it.out.at μ) w):Cert P Q w0 k0 X ops i its bl olds o it:=by
 refine cert_stay c fun μ a w k _=>?_
 unfold execOp
 rw[ho]
 dsimp only
 rw[hx μ a k,b μ a k,Sem.run_bind,hf]
 rfl
theorem cert_idxc (b:it.kind=.stay) (T:TypeId) (t:Tmp) (iv:Value) (ho:o.op=.indexAddr T (.tmp t) (.const iv)) (s:SV) (hx:∀ (μ:Nat→Nat) (a:Act),Known ops i its olds it.need μ a→a.eval (.tmp t)=s.at μ)
 (hf:∀ (μ:Nat→Nat) (w:World),(Instr.indexAt T (s.at μ) iv).run P w=.ok (it.out.at μ) w):Cert P Q w0 k0 X ops i its bl olds o it:=by
 refine cert_stay b fun μ a w k _=>?_
 unfold execOp
 rw[ho]
 dsimp only
 rw[hx μ a k]
 show ((Instr.indexAt T (s.at μ) iv) >>= fun v=>pure (Next.value v)).run P w=_
 rw[Sem.run_bind,hf]
 rfl
theorem cert_binc (f:it.kind=.stay) (op:BinOp) (T e:TypeId) (t1:Tmp) (v1 v2 v:Value) (ho:o.op=.binOp op T (.tmp t1) (.const v2) e) (k:it.out=.v v)
 (g:∀ (μ:Nat→Nat) (a:Act),Known ops i its olds it.need μ a→a.eval (.tmp t1)=v1)
 (d:∀ w,(eqGuard op T (.tmp t1) (.const v2) v1 v2).run P w=.ok () w) (b:∀ w,(binOp op T v1 v2).run P w=.ok v w):Cert P Q w0 k0 X ops i its bl olds o it:=by
 refine cert_stay f fun μ a w c _=>?_
 unfold execOp
 rw[ho,k]
 dsimp only
 rw[g μ a c]
 show (((eqGuard op T (.tmp t1) (.const v2) v1 v2) >>= fun _=>binOp op T v1 v2) >>= fun v=>pure (Next.value v)).run P w=_
 rw[Sem.run_bind,Sem.run_bind,d]
 dsimp only[Result.andThen]
 rw[b]
 rfl
theorem cert_conv (e:it.kind=.stay) (S T:TypeId) (t:Tmp) (v b:Value) (ho:o.op=.convert S T (.tmp t)) (k:it.out=.v b) (hx:∀ (μ:Nat→Nat) (a:Act),Known ops i its olds it.need μ a→a.eval (.tmp t)=v) (d:∀ w,(convert S T v).run P w=.ok b w):Cert P Q w0 k0 X ops i its bl olds o it:=by
 refine cert_stay e fun μ a w c _=>?_
 unfold execOp
 rw[ho,k]
 dsimp only
 rw[hx μ a c,Sem.run_bind,d]
 rfl
theorem cert_un (e:it.kind=.stay) (op:UnOp) (T:TypeId) (t:Tmp) (v b:Value) (ho:o.op=.unOp op T (.tmp t)) (k:it.out=.v b) (hx:∀ (μ:Nat→Nat) (a:Act),Known ops i its olds it.need μ a→a.eval (.tmp t)=v) (d:∀ w,(Op.unary op v).run P w=.ok b w):Cert P Q w0 k0 X ops i its bl olds o it:=by
 refine cert_stay e fun μ a w c _=>?_
 unfold execOp
 rw[ho,k]
 dsimp only
 rw[hx μ a c,Sem.run_bind,d]
 rfl
theorem cert_loadB (g:it.kind=.stay) (k off:Nat) (c:k<k0) (l:k ∉ X) (T:TypeId) (t:Tmp) (ho:o.op=.load T (.tmp t)) (cs:List Value) (b:it.out=.v (.agg cs.toArray))
 (hx:∀ (μ:Nat→Nat) (a:Act),Known ops i its olds it.need μ a→a.eval (.tmp t)=.pointer (some ⟨k,off,none⟩)) (n:w0.rangeAt k off cs)
 (e:(P.underlying T).map (·.isRow)=some true) (p:(P.info? T).map (·.size)=some cs.length):Cert P Q w0 k0 X ops i its bl olds o it:=by
 intro μ a w K f _ m
 rw[g]
 intro h
 rw[b] at h
 obtain ⟨d,e,hd⟩:=Option.map_eq_some_iff.1 e
 refine wp_load_mid T (.tmp t) ho k off (hx μ a f) cs d (fun j v q=>?_) e hd p h
 rw[World.cell?_of_block (w:=w0) (a:=⟨k,off+j,none⟩) (m.block k c l)]
 exact n j v q
theorem run_load1 {T:TypeId} {k off:Nat} {v:Value} (e:w.cell? ⟨k,off,none⟩=some v) (c:(P.underlying T).map (·.isRow)=some false):(Instr.loadAt T (.pointer (some ⟨k,off,none⟩))).run P w=.ok v w:=by
 obtain ⟨d,c,hd⟩:=Option.map_eq_some_iff.1 c
 have b:(isAgg T).run P w=.ok false w:=by
  unfold isAgg
  rw[Sem.run_bind,run_underlying c w]
  cases d<;>simp_all
 simp[Instr.loadAt,Instr.sureAddr,loadVar,Sem.run_bind,b,e]
theorem cert_load1 (l:it.kind=.stay) (b off:Nat) (e:Bl) (m:bl[b]? = some e) (f:e.al=none) (d:readB ops i e=true) (T:TypeId) (t:Tmp) (ho:o.op=.load T (.tmp t)) (v:Value) (c:it.out=.v v)
 (hx:∀ (μ:Nat→Nat) (a:Act),Known ops i its olds it.need μ a→a.eval (.tmp t)=(SV.p b off).at μ) (k:e.before[off]? = some v)
 (n:(P.underlying T).map (·.isRow)=some false):Cert P Q w0 k0 X ops i its bl olds o it:=by
 intro μ a w K j hR _
 rw[l]
 intro h
 rw[c] at h
 have g:=hR b e m (Or.inl f) d off v k
 rw[Nat.zero_add] at g
 unfold Oper.wp execOp
 rw[ho]
 dsimp only
 rw[hx μ a j]
 show o.upon P a K Q (((Instr.loadAt T (.pointer (some ⟨μ b,off,none⟩))) >>= fun v=>pure (Next.value v)).run P w)
 rw[Sem.run_bind,run_load1 g n]
 exact h
theorem run_store1 {T:TypeId} {k off:Nat} {v u:Value} (f:w.cell? ⟨k,off,none⟩=some u) (hf:w.frozen? ⟨k,off,none⟩=false) (g:v.oneCell'=true) (hv:v.cells=#[v]) (d:(P.info? T).map (·.size)=some 1):(Instr.storeAt T (.pointer (some ⟨k,off,none⟩)) v).run P w=.ok () (w.setCells k off [v]):=by
 have:=run_storeCells_cells (P:=P) k off [v] 0 w (fun j b=>by
  obtain rfl:j=0:=by simpa using b
  simp[f]) (fun j b=>by
  obtain rfl:j=0:=by simpa using b
  simpa using hf) (fun x hx=>by
  obtain rfl:x=v:=by simpa using hx
  exact g)
 cases c:P.info? T with
 | none=>simp[c] at d
 | some inf =>
  have e:inf.size=1:=by simp[c] at d;omega
  simp only[Nat.add_zero] at this
  simp[Instr.storeAt,Instr.sureAddr,storeVar,sizeOf,typeInfo,c,hv,e,this]
theorem cert_put1 (b off:Nat) (p:it.kind=.put b) (e:Bl) (r:bl[b]? = some e) (T:TypeId) (x y:Operand) (v:Value) (ho:o.op=.store T x y) (f:o.dst=none)
 (hx:∀ (μ:Nat→Nat) (a:Act),Known ops i its olds it.need μ a→a.eval x=(SV.p b off).at μ) (t:∀ (μ:Nat→Nat) (a:Act),Known ops i its olds it.need μ a→a.eval y=v) (k:off<e.before.length) (c:e.after=e.before.set off v)
 (z:(P.info? T).map (·.size)=some 1) (q:v.oneCell'=true) (hv:v.cells=#[v]):Cert P Q w0 k0 X ops i its bl olds o it:=by
 intro μ a w K l _ _
 rw[p]
 intro e' d n s h
 rw[r] at d
 obtain rfl:e=e':=Option.some.inj d
 have g:PutTo (μ b) e.before.length e.after w (w.setCells (μ b) off [v]):=PutTo.store n s (by simp only[List.length_cons,List.length_nil];omega) (fun j=>by
  rw[c,List.getElem?_set]
  by_cases m:off=j
  ·subst m
   rw[if_pos rfl,if_pos k,if_pos (by simp)]
   simp
  ·rw[if_neg m,if_neg (by simp only[List.length_cons,List.length_nil];omega)])
 have c:=n off k
 rw[Nat.zero_add] at c
 obtain ⟨u,m⟩:=Option.isSome_iff_exists.1 c.1
 unfold Oper.wp execOp
 rw[ho]
 dsimp only
 rw[hx μ a l,t μ a l]
 show o.upon P a K Q (((Instr.storeAt T (.pointer (some ⟨μ b,off,none⟩)) v) >>= fun _=>pure Next.skip).run P w)
 rw[Sem.run_bind,run_store1 m c.2 q hv z]
 have:=h _ g
 rw[f] at this
 show K (a.put o.dst undef) _
 rw[f]
 exact this
theorem cert_putAt (b off:Nat) (n:it.kind=.put b) (e:Bl) (q:bl[b]? = some e) (T:TypeId) (x y:Operand) (vs:List Value) (ho:o.op=.store T x y) (g:o.dst=none)
 (hx:∀ (μ:Nat→Nat) (a:Act),Known ops i its olds it.need μ a→a.eval x=(SV.p b off).at μ) (s:∀ (μ:Nat→Nat) (a:Act),Known ops i its olds it.need μ a→a.eval y=.agg vs.toArray) (k:off+vs.length≤e.before.length)
 (d:∀ j,e.after[j]? = if off≤j∧j<off+vs.length then vs[j-off]? else e.before[j]?)
 (t:(P.info? T).map (·.size)=some vs.length) (p:vs.all (·.oneCell')=true):Cert P Q w0 k0 X ops i its bl olds o it:=by
 intro μ a w K l _ _
 rw[n]
 intro e' c m r h
 rw[q] at c
 obtain rfl:e=e':=Option.some.inj c
 have f:=PutTo.store m r k d
 refine wp_store_mid T x y ho (μ b) off vs.toArray (hx μ a l) (s μ a l) ?_ ?_ ?_ ?_
 ·intro j u
  have:=m (off+j) (by rw[List.size_toArray] at u;omega)
  rwa[Nat.zero_add] at this
 ·rw[List.size_toArray];exact t
 ·exact all_oneCell_toArray (fun v hv=>List.all_eq_true.1 p v hv)
 ·have:=h _ f
  rw[g] at this ⊢
  exact this
theorem cert_callput (b:Nat) (l:it.kind=.put b) (e:Bl) (n:bl[b]? = some e) (f:FuncId) (args:(Nat→Nat)→Array Value) (v:Value) (d:it.out=.v v) (g:∀ (μ:Nat→Nat) (a:Act) (w:World),Known ops i its olds it.need μ a→BelX k0 X w0 w→(execOp a.eval o).run P w=.ok (.enter f (args μ)) w)
 (q:∀ (μ:Nat→Nat) (w:World),BelX k0 X w0 w→w.there (μ b) 0 e.before.length→w.rangeAt (μ b) 0 e.before→Calls P f (args μ) w (Ret fun r w'=>PutTo (μ b) e.before.length e.after w w'∧r=v)):Cert P Q w0 k0 X ops i its bl olds o it:=by
 intro μ a w K j _ k
 rw[l]
 intro e' c s p h
 rw[n] at c
 obtain rfl:e=e':=Option.some.inj c
 rw[d] at h
 unfold Oper.wp
 rw[g μ a w j k,Oper.upon_enter]
 refine (q μ w k s p).mono ?_
 rintro r w' ⟨t,rfl,m,rfl⟩
 exact h w' m
theorem St.lent {k:Nat} {C:List Value} (j:k<w.heap.size) (e:w.rangeAt k 0 C) (i:w.there k 0 C.length):St w w.heap.size [k] [C] [k] w:=by
 refine ⟨BelX.refl _ _ _,Nat.le_refl _,rfl,fun b c h=>?_,fun b c d g f=>?_⟩
 ·cases b with
  | zero =>
   obtain rfl:C=c:=by simpa using h
   exact ⟨e,i,j,Or.inr List.mem_cons_self⟩
  | succ b=>simp at h
 ·simp only[List.length_cons,List.length_nil] at d g
  omega
theorem St.putTo {k:Nat} {C:List Value} {cs:List (List Value)} {ks:List Nat} {n:Nat} (h:St w0 w0.heap.size [k] (C :: cs) (k :: ks) w) (d:C.length=n):PutTo k n C w0 w:=by
 obtain ⟨f,c,-,-⟩:=h.has 0 C rfl
 refine ⟨h.bel.os,h.bel.tape,h.bel.output,h.bel.size,fun j e b=>h.bel.block j e (by simpa using b),f,?_⟩
 rw[← d]
 exact c
def rep (C:List Value) (o:Nat) (vs:List Value):List Value:=C.take o++(vs++C.drop (o+vs.length))
theorem rep_length {C vs:List Value} {o:Nat} (h:o+vs.length≤C.length):(rep C o vs).length=C.length:=by
 unfold rep
 rw[List.length_append,List.length_append,List.length_take,List.length_drop]
 omega
theorem rep_at {C vs:List Value} {o:Nat} (h:o+vs.length≤C.length) (j:Nat):(rep C o vs)[j]? = if o≤j∧j<o+vs.length then vs[j-o]? else C[j]?:=by
 unfold rep
 have k:(C.take o).length=o:=by rw[List.length_take];omega
 by_cases b:j<o
 ·rw[List.getElem?_append_left (by rw[k];exact b),List.getElem?_take,if_pos b,if_neg oM]
 ·rw[List.getElem?_append_right (by rw[k];omega),k]
  by_cases c:j<o+vs.length
  ·rw[List.getElem?_append_left oM,if_pos ⟨oM,c⟩]
  ·rw[List.getElem?_append_right oM,if_neg oM,List.getElem?_drop]
   congr 1
   omega
theorem sub_of {C cs:List Value} {o:Nat} (h:∀ j,j<cs.length→C[o+j]? = cs[j]?) (b:o+cs.length≤C.length):(C.drop o).take cs.length=cs:=by
 apply List.ext_getElem?
 intro j
 by_cases k:j<cs.length
 ·rw[List.getElem?_take,if_pos k,List.getElem?_drop,h j k]
 ·rw[List.getElem?_eq_none (by rw[List.length_take,List.length_drop];omega),List.getElem?_eq_none oM]
theorem cert_callput3 (b:Nat) (m:it.kind=.put b) (e:Bl) (q:bl[b]? = some e) (f:FuncId) (t1 t2 j:Tmp) (s1:SV) (v2 g v:Value) (k:it.out=.v v) (c:∀ (a:Act) (w:World),(execOp a.eval o).run P w=.ok (.enter f #[a.eval (.tmp t1),a.eval (.tmp t2),a.eval (.tmp j)]) w)
 (p:∀ (μ:Nat→Nat) (a:Act),Known ops i its olds it.need μ a→a.eval (.tmp t1)=s1.at μ) (l:∀ (μ:Nat→Nat) (a:Act),Known ops i its olds it.need μ a→a.eval (.tmp t2)=v2) (n:∀ (μ:Nat→Nat) (a:Act),Known ops i its olds it.need μ a→a.eval (.tmp j)=g)
 (t:∀ (μ:Nat→Nat) (w:World),w.there (μ b) 0 e.before.length→w.rangeAt (μ b) 0 e.before→Calls P f #[s1.at μ,v2,g] w (Ret fun r w'=>PutTo (μ b) e.before.length e.after w w'∧r=v)):Cert P Q w0 k0 X ops i its bl olds o it:=
 cert_callput b m e q f (fun μ=>#[s1.at μ,v2,g]) v k (fun μ a w d _=>by rw[c,p μ a d,l μ a d,n μ a d]) (fun μ w _ u s=>t μ w u s)
theorem cert_callM2 (m:it.kind=.call) (b:Nat) (e:Bl) (q:bl[b]? = some e) (g:e.al=none) (d:readB ops i e=true) (n:e.before≠[]) (f:FuncId) (t1 t2:Tmp) (s1:SV) (v2 v:Value) (k:it.out=.v v) (c:∀ (a:Act) (w:World),(execOp a.eval o).run P w=.ok (.enter f #[a.eval (.tmp t1),a.eval (.tmp t2)]) w)
 (p:∀ (μ:Nat→Nat) (a:Act),Known ops i its olds it.need μ a→a.eval (.tmp t1)=s1.at μ) (l:∀ (μ:Nat→Nat) (a:Act),Known ops i its olds it.need μ a→a.eval (.tmp t2)=v2)
 (s:∀ (μ:Nat→Nat) (w:World),μ b<w.heap.size→w.rangeAt (μ b) 0 e.before→Calls P f #[s1.at μ,v2] w (Ret fun r w'=>Below w.heap.size w w'∧r=v)):Cert P Q w0 k0 X ops i its bl olds o it:=
 cert_callM m b e q g d n f (fun μ=>#[s1.at μ,v2]) v k (fun μ a w j=>by rw[c,p μ a j,l μ a j]) s
end RG
namespace RG
open Go Go.RowKit
variable {P:Program} {ops:Array Oper} {Q:Exit→Act→World→Prop} {w0 w:World} {k0:Nat} {X:List Nat} {its:List It} {bl:List Bl} {olds:List (Tmp × SV)} {a:Act} {i:Nat} {o:Oper} {it:It}
theorem cert_slice1 (e:it.kind=.stay) (T:TypeId) (t:Tmp) (b v c:Value) (ho:o.op=.slice T (.tmp t) (some (.const b)) none none) (k:it.out=.v c) (hx:∀ (μ:Nat→Nat) (a:Act),Known ops i its olds it.need μ a→a.eval (.tmp t)=v)
 (hf:∀ w:World,(Instr.sliceAt T v (some b) none none).run P w=.ok c w):Cert P Q w0 k0 X ops i its bl olds o it:=by
 refine cert_stay e fun μ a w d _=>?_
 unfold execOp
 rw[ho,k]
 dsimp only
 rw[hx μ a d]
 show ((Instr.sliceAt T v (some b) none none) >>= fun v=>pure (Next.value v)).run P w=_
 rw[Sem.run_bind,hf]
 rfl
theorem cert_s2a (d:it.kind=.stay) (T:TypeId) (t:Tmp) (v b:Value) (ho:o.op=.sliceToArrayPointer T (.tmp t)) (k:it.out=.v b) (hx:∀ (μ:Nat→Nat) (a:Act),Known ops i its olds it.need μ a→a.eval (.tmp t)=v)
 (hf:∀ w:World,(Instr.arrayAt T v).run P w=.ok b w):Cert P Q w0 k0 X ops i its bl olds o it:=by
 refine cert_stay d fun μ a w c _=>?_
 unfold execOp
 rw[ho,k]
 dsimp only
 rw[hx μ a c,Sem.run_bind,hf]
 rfl
theorem cert_load1B (e:it.kind=.stay) (k off:Nat) (c:k<k0) (f:k ∉ X) (T:TypeId) (t:Tmp) (ho:o.op=.load T (.tmp t)) (v:Value) (b:it.out=.v v)
 (hx:∀ (μ:Nat→Nat) (a:Act),Known ops i its olds it.need μ a→a.eval (.tmp t)=.pointer (some ⟨k,off,none⟩)) (l:w0.cell? ⟨k,off,none⟩=some v)
 (m:(P.underlying T).map (·.isRow)=some false):Cert P Q w0 k0 X ops i its bl olds o it:=by
 refine cert_stay e fun μ a w d j=>?_
 have g:w.cell? ⟨k,off,none⟩=some v:=by
  rw[World.cell?_of_block (w:=w0) (a:=⟨k,off,none⟩) (j.block k c f)]
  exact l
 unfold execOp
 rw[ho,b]
 dsimp only
 rw[hx μ a d,Sem.run_bind,run_load1 g m]
 rfl
theorem cert_callB2 (g:it.kind=.call) (f:FuncId) (t1 t2:Tmp) (v1 v2 v:Value) (k:it.out=.v v) (b:∀ (a:Act) (w:World),(execOp a.eval o).run P w=.ok (.enter f #[a.eval (.tmp t1),a.eval (.tmp t2)]) w)
 (j:∀ (μ:Nat→Nat) (a:Act),Known ops i its olds it.need μ a→a.eval (.tmp t1)=v1) (d:∀ (μ:Nat→Nat) (a:Act),Known ops i its olds it.need μ a→a.eval (.tmp t2)=v2)
 (l:∀ w,BelX k0 X w0 w→Calls P f #[v1,v2] w (Ret fun e w'=>Below w.heap.size w w'∧e=v)):Cert P Q w0 k0 X ops i its bl olds o it:=
 cert_call g f #[v1,v2] v k (fun μ a w c _=>by rw[b,j μ a c,d μ a c]) l
theorem cert_callB1 (g:it.kind=.call) (f:FuncId) (t1:Tmp) (v1 v:Value) (k:it.out=.v v) (b:∀ (a:Act) (w:World),(execOp a.eval o).run P w=.ok (.enter f #[a.eval (.tmp t1)]) w)
 (j:∀ (μ:Nat→Nat) (a:Act),Known ops i its olds it.need μ a→a.eval (.tmp t1)=v1)
 (d:∀ w,BelX k0 X w0 w→Calls P f #[v1] w (Ret fun e w'=>Below w.heap.size w w'∧e=v)):Cert P Q w0 k0 X ops i its bl olds o it:=
 cert_call g f #[v1] v k (fun μ a w c _=>by rw[b,j μ a c]) d
theorem St.init {cs:List (List Value)} {c:List Value} {ks:List Nat} {k:Nat} (h:St w0 k0 X (cs++[c]) (ks++[k]) w):St w0 k0 X cs ks w:=by
 have j:ks.length=cs.length:=by have:=h.len;simp only[List.length_append,List.length_cons,List.length_nil] at this;omega
 have d:∀ b,b<cs.length→ad (ks++[k]) b=ad ks b:=fun b e=>by
  unfold ad
  rw[List.getD_eq_getElem?_getD,List.getD_eq_getElem?_getD,List.getElem?_append_left oM]
 refine ⟨h.bel,h.le,j,fun b g e=>?_,fun b g e l i=>?_⟩
 ·have f:=(List.getElem?_eq_some_iff.1 e).1
  have:=h.has b g (by rw[List.getElem?_append_left f];exact e)
  rwa[d b f] at this
 ·have:=h.inj b g (by rw[List.length_append];omega) (by rw[List.length_append];omega) i
  rwa[d b e,d g l] at this
theorem results_tt {b:Func} {a:Act} (t u:Tmp) (c:b.results=#[.tmp t,.tmp u]) (v k:Value) (f:a.tmps[t]? = some v) (e:a.tmps[u]? = some k):(results b a.tmps).run P w=.ok (.tuple #[v,k]) w:=by
 have d:a.tmps.getD t undef=v:=by rw[Array.getD_eq_getD_getElem?,f];rfl
 have g:a.tmps.getD u undef=k:=by rw[Array.getD_eq_getD_getElem?,e];rfl
 unfold results
 rw[c]
 simp only[Array.mapM_eq_mapM_toList,List.mapM_cons,List.mapM_nil,d,g]
 simp[Sem.run_bind]
end RG
namespace RG
open Go Go.RowKit
variable {P:Program} {ops:Array Oper} {Q:Exit→Act→World→Prop} {w0 w:World} {k0:Nat} {X:List Nat} {its:List It} {bl:List Bl} {olds:List (Tmp × SV)} {a:Act} {i:Nat} {o:Oper} {it:It}
end RG
namespace RG
open Go Go.RowKit
variable {P:Program} {ops:Array Oper} {Q:Exit→Act→World→Prop} {w0 w:World} {k0 n:Nat} {X:List Nat} {its:List It} {bl:List Bl} {os:List (Tmp × SV)} {a:Act} {i:Nat} {o:Oper} {it:It} {μ:Nat→Nat} {need:List (Tmp × Nat)}
def src (c:Array Oper) (b:List It) (d:List (Tmp × SV)) (k:List (Tmp × Nat)) (i:Nat) (t:Tmp):Option SV:=
 match k.find? (fun x=>x.1 == t) with
 | some x=>(b[x.2]?).map (·.out)
 | none=>match d.find? (fun x=>x.1 == t) with
  | some x=>bif freeB c b i t then some x.2 else none
  | none=>none
theorem src_eval {t:Tmp} {s:SV} (h:src ops its os need i t=some s) (K:Known ops i its os need μ a):a.eval (.tmp t)=s.at μ:=by
 unfold src at h
 cases k:need.find? (fun x=>x.1 == t) with
 | some x =>
  rw[k] at h
  dsimp only at h
  have c:=List.mem_of_find?_eq_some k
  have b:x.1=t:=by simpa using List.find?_some k
  obtain ⟨e,d,rfl⟩:=Option.map_eq_some_iff.1 h
  exact K.op t x.2 (by rw[← b];exact c) d
 | none =>
  rw[k] at h
  dsimp only at h
  cases ho:os.find? (fun x=>x.1 == t) with
  | none=>rw[ho] at h;cases h
  | some x =>
   rw[ho] at h
   dsimp only at h
   have c:=List.mem_of_find?_eq_some ho
   have b:x.1=t:=by simpa using List.find?_some ho
   cases hf:freeB ops its i t with
   | false=>rw[hf] at h;cases h
   | true =>
    rw[hf] at h
    obtain rfl:x.2=s:=Option.some.inj h
    exact K.old t x.2 (by rw[← b];exact c) hf
theorem sx {t:Tmp} {f:(Nat→Nat)→Value} (h:∀ μ:Nat→Nat,(src ops its os need i t).map (fun s=>s.at μ)=some (f μ):=by intro _;kernel_rfl):∀ (μ:Nat→Nat) (a:Act),Known ops i its os need μ a→a.eval (.tmp t)=f μ:=fun μ _ K=>by
 obtain ⟨s,b,k⟩:=Option.map_eq_some_iff.1 (h μ)
 rw[src_eval b K]
 exact k
def ro (b:Array Oper) (c:List It) (d:List (Tmp × SV)) (k:List (Tmp × Nat)) (i:Nat) (μ:Nat→Nat):Operand→Value
 | .tmp t=>match src b c d k i t with|some s=>s.at μ|none=>undef
 | .const v=>v
 | .global g=>.pointer (some ⟨g,0,none⟩)
 | .func f=>.func (.func f) #[] #[]
def seen (b:Array Oper) (c:List It) (d:List (Tmp × SV)) (k:List (Tmp × Nat)) (i:Nat) (o:Oper):Bool:=
 (match o.op with | .select _ _=>false|_=>true) && o.op.operands.all (fun x=>match x with | .tmp t=>(src b c d k i t).isSome|_=>true)
theorem exec_ro (h:seen ops its os need i o=true) (K:Known ops i its os need μ a):execOp a.eval o=execOp (ro ops its os need i μ) o:=by
 simp only[seen,Bool.and_eq_true] at h
 refine execOp_congr o (fun cs b d=>?_) (fun x hx=>?_)
 ·rw[d] at h;exact absurd h.1 (by simp)
 ·have c:=Array.all_eq_true'.1 h.2 x hx
  cases x with
  | tmp t =>
   dsimp only at c
   obtain ⟨s,k⟩:=Option.isSome_iff_exists.1 c
   rw[src_eval k K]
   show _=(match src ops its os need i t with|some s=>s.at μ|none=>undef)
   rw[k]
  | const v=>rfl
  | global g=>rfl
  | func f=>rfl
theorem st (h:∀ (μ:Nat→Nat) (w:World),((seen ops its os it.need i o,it.kind),(execOp (ro ops its os it.need i μ) o).run P w)=((true,Kind.stay),.ok (.value (it.out.at μ)) w):=by intro _ _;kernel_rfl):Cert P Q w0 k0 X ops i its bl os o it:=by
 intro μ a w K d _ c
 have k:=h μ w
 simp only[Prod.mk.injEq] at k
 rw[k.1.2]
 intro b
 unfold Oper.wp
 rw[exec_ro k.1.1 d,k.2]
 exact b
theorem se {v d:Value} (e:d=v) (h:∀ (μ:Nat→Nat) (w:World),((seen ops its os it.need i o,it.kind,it.out),(execOp (ro ops its os it.need i μ) o).run P w)=((true,Kind.stay,SV.v v),.ok (.value d) w):=by intro _ _;kernel_rfl):Cert P Q w0 k0 X ops i its bl os o it:=by
 intro μ a w K f _ c
 have b:=h μ w
 simp only[Prod.mk.injEq] at b
 rw[b.1.2.1]
 intro k
 rw[b.1.2.2] at k
 unfold Oper.wp
 rw[exec_ro b.1.1 f,b.2,e]
 exact k
theorem mk (b:Nat) (T:TypeId) (h:∀ (μ:Nat→Nat) (w:World),((seen ops its os it.need i o,it.kind),(execOp (ro ops its os it.need i μ) o).run P w)=((true,Kind.make b),.ok (.value (it.out.at (upd μ b w.heap.size))) (w.alloc (.cells (((bl[b]?).map (·.before)).getD []).toArray T))):=by intro _ _;kernel_rfl):Cert P Q w0 k0 X ops i its bl os o it:=by
 intro μ a w K f _ c
 have k:=h μ w
 simp only[Prod.mk.injEq] at k
 rw[k.1.2]
 intro e d g
 unfold Oper.wp
 rw[exec_ro k.1.1 f,k.2,d]
 exact g _ _ (Made.alloc w e.before T)
theorem clB {f:FuncId} {args:Array Value} {v:Value} (h:∀ (μ:Nat→Nat) (w:World),((seen ops its os it.need i o,it.kind,it.out),(execOp (ro ops its os it.need i μ) o).run P w)=((true,Kind.call,SV.v v),.ok (.enter f args) w))
 (j:∀ w,BelX k0 X w0 w→Calls P f args w (Ret fun e w'=>Below w.heap.size w w'∧e=v)):Cert P Q w0 k0 X ops i its bl os o it:=by
 intro μ a w K d _ b
 have k:=h μ w
 simp only[Prod.mk.injEq] at k
 rw[k.1.2.1]
 intro c
 rw[k.1.2.2] at c
 unfold Oper.wp
 rw[exec_ro k.1.1 d,k.2,Oper.upon_enter]
 refine (j w b).mono ?_
 rintro e w' ⟨l,rfl,g,rfl⟩
 exact c w' g
theorem cl {f:FuncId} {args:Array Value} {v:Value} (k:∀ w,Calls P f args w (Ret fun e w'=>Below w.heap.size w w'∧e=v)) (h:∀ (μ:Nat→Nat) (w:World),((seen ops its os it.need i o,it.kind,it.out),(execOp (ro ops its os it.need i μ) o).run P w)=((true,Kind.call,SV.v v),.ok (.enter f args) w):=by intro _ _;kernel_rfl):Cert P Q w0 k0 X ops i its bl os o it:=
 clB h (fun w _=>k w)
theorem cm (b:Nat) {f:FuncId} {args:Array Value} {c:List Value} (y:∀ w,BelX k0 X w0 w→Calls P f args w (Ret fun e w'=>∃ k,Made w k c w'∧e=it.out.at (fun _=>k)))
 (h:∀ (μ:Nat→Nat) (w:World),((seen ops its os it.need i o,it.kind,(bl[b]?).map (·.before),it.out.blk),(execOp (ro ops its os it.need i μ) o).run P w)=((true,Kind.make b,some c,some b),.ok (.enter f args) w)):Cert P Q w0 k0 X ops i its bl os o it:=by
 intro μ a w K m _ g
 have j:=h μ w
 simp only[Prod.mk.injEq] at j
 obtain ⟨⟨v,n,l,q⟩,t⟩:=j
 rw[n]
 intro e x p
 rw[x] at l
 obtain rfl:e.before=c:=Option.some.inj l
 unfold Oper.wp
 rw[exec_ro v m,t,Oper.upon_enter]
 refine (y w g).mono ?_
 rintro r w' ⟨B,rfl,k,u,rfl⟩
 have s:it.out.at (upd μ b k)=it.out.at (fun _=>k):=SV.at_congr fun z d=>by
  rw[q] at d
  obtain rfl:=Option.some.inj d
  unfold upd
  rw[if_pos rfl]
 have:=p k w' u
 rw[s] at this
 exact this
def canRead (k:Array Oper) (i:Nat) (o:Oper) (c:List Bl) (b:Nat):Bool:=match c[b]? with
 | some e=>(match e.al with|none=>true|some j=>depB o j) && readB k i e
 | none=>false
def Seen (k:List Bl) (c:List Nat) (μ:Nat→Nat) (w:World):Prop:=∀ b∈c,∀ e:Bl,k[b]? = some e→e.before≠[]→w.rangeAt (μ b) 0 e.before∧μ b<w.heap.size
theorem seen_of {l:List Nat} (ho:ops[i]? = some o) (h:l.all (canRead ops i o bl)=true) (hR:Reads ops i bl μ w):Seen bl l μ w:=fun b m e f d=>by
 have k:=List.all_eq_true.1 h b m
 unfold canRead at k
 rw[f] at k
 dsimp only at k
 rw[Bool.and_eq_true] at k
 have g:=hR b e f (by
  cases c:e.al with
  | none=>exact Or.inl rfl
  | some j=>rw[c] at k;exact Or.inr ⟨o,j,ho,rfl,k.1⟩) k.2
 refine ⟨g,?_⟩
 cases c:e.before with
 | nil=>exact absurd c d
 | cons x r =>
  have n:=g 0 x (by rw[c];rfl)
  exact Classical.byContradiction fun q=>by
   have p:w.heap[μ b]? = none:=Array.getElem?_eq_none oM
   simp[World.cell?,p] at n
theorem cr (d:List Nat) {f:FuncId} {args:(Nat→Nat)→Array Value} {v:Value} (s:∀ (μ:Nat→Nat) (w:World),BelX k0 X w0 w→Seen bl d μ w→Calls P f (args μ) w (Ret fun e w'=>Below w.heap.size w w'∧e=v))
 (h:∀ (μ:Nat→Nat) (w:World),((seen ops its os it.need i o,it.kind,it.out,d.all (canRead ops i o bl),ops[i]?),(execOp (ro ops its os it.need i μ) o).run P w)=((true,Kind.call,SV.v v,true,some o),.ok (.enter f (args μ)) w)):Cert P Q w0 k0 X ops i its bl os o it:=by
 intro μ a w K g hR k
 have c:=h μ w
 simp only[Prod.mk.injEq] at c
 obtain ⟨⟨q,j,p,m,l⟩,n⟩:=c
 rw[j]
 intro b
 rw[p] at b
 unfold Oper.wp
 rw[exec_ro q g,n,Oper.upon_enter]
 refine (s μ w k (seen_of l m hR)).mono ?_
 rintro e w' ⟨t,rfl,r,rfl⟩
 exact b w' r
def ldv (k:Array Oper) (c:List It) (f:List Bl) (d:List (Tmp × SV)) (i:Nat) (o:Oper) (it:It) (T:TypeId) (n:Nat):Option SV:=
 match it.kind,o.op with
 | .stay,.load T' (.tmp t)=>match src k c d it.need i t with
  | some (.p b off)=>match f[b]? with
   | some e=>bif T' == T && e.al.isNone && readB k i e && (off+n).ble e.before.length then some (.v (.agg ((e.before.drop off).take n).toArray)) else none
   | none=>none
  | _=>none
 | _,_=>none
theorem ld {T:TypeId} {n:Nat} (j:(P.underlying T).map (·.isRow)=some true) (l:(P.info? T).map (·.size)=some n) (h:ldv ops its bl os i o it T n=some it.out:=by kernel_rfl):Cert P Q w0 k0 X ops i its bl os o it:=by
 unfold ldv at h
 split at h
 ·rename_i T' t hk ho
  split at h
  ·rename_i b off hs
   split at h
   ·rename_i e hb
    cases c:(T' == T && e.al.isNone && readB ops i e && (off+n).ble e.before.length) with
    | false=>rw[c] at h;cases h
    | true =>
     rw[c] at h
     have g:=h
     simp only[Bool.and_eq_true,beq_iff_eq,Option.isNone_iff_eq_none,Nat.ble_eq] at c
     obtain ⟨⟨⟨rfl,d⟩,f⟩,m⟩:=c
     have k:((e.before.drop off).take n).length=n:=by rw[List.length_take,List.length_drop];omega
     refine cert_load hk b off e hb d f T' t ho ((e.before.drop off).take n) (Option.some.inj g).symm (fun _ _ K=>src_eval hs K) ?_ j (by rw[k];exact l)
     rw[k]
   ·cases h
  ·cases h
 ·cases h
def ptv (k:Array Oper) (c:List It) (f:List Bl) (d:List (Tmp × SV)) (i:Nat) (o:Oper) (it:It) (T:TypeId) (n:Nat):Option (List Value):=
 match it.kind,o.op,o.dst with
 | .put b,.store T' (.tmp x) (.tmp y),none=>match src k c d it.need i x,src k c d it.need i y with
  | some (.p b' off),some (.v (.agg vs))=>match f[b]? with
   | some e=>bif T' == T && b' == b && vs.size == n && (off+n).ble e.before.length && vs.toList.all (·.oneCell') then some (rep e.before off vs.toList) else none
   | none=>none
  | _,_=>none
 | _,_,_=>none
theorem pt {T:TypeId} {n:Nat} (p:(P.info? T).map (·.size)=some n) (h:((ptv ops its bl os i o it T n).isSome,ptv ops its bl os i o it T n)=(true,match it.kind with | .put b=>(bl[b]?).map (·.after)|_=>none):=by kernel_rfl):Cert P Q w0 k0 X ops i its bl os o it:=by
 simp only[Prod.mk.injEq] at h
 obtain ⟨k,h⟩:=h
 rw[h] at k
 unfold ptv at h
 split at h
 ·rename_i b T' x y hk ho hdn
  rw[hk] at h k
  dsimp only at h k
  cases g:bl[b]? with
  | none=>rw[g] at k;cases k
  | some e =>
   rw[g] at h
   split at h
   ·rename_i b' off vs hx hy
    dsimp only at h
    cases f:(T' == T && b' == b && vs.size == n && (off+n).ble e.before.length && vs.toList.all (·.oneCell')) with
    | false=>rw[f] at h;cases h
    | true =>
     rw[f] at h
     have m:some (rep e.before off vs.toList)=some e.after:=h
     simp only[Bool.and_eq_true,beq_iff_eq,Nat.ble_eq] at f
     obtain ⟨⟨⟨⟨rfl,rfl⟩,l⟩,d⟩,q⟩:=f
     have c:vs.toList.length=n:=by rw[Array.length_toList];exact l
     refine cert_putAt b' off hk e g T' (.tmp x) (.tmp y) vs.toList ho hdn (fun _ _ K=>src_eval hx K) (fun _ _ K=>?_) (by rw[c];exact d) (fun j=>?_) (by rw[c];exact p) q
     ·rw[Array.toArray_toList];exact src_eval hy K
     ·rw[← Option.some.inj m,rep_at (by rw[c];exact d)]
   ·cases h
 ·rw[← h] at k;cases k
def aft (pu:List (Nat × Nat × List Value)) (b:Nat) (c:List Value):List Value:=match pu.find? (fun x=>x.1 == b) with|some x=>x.2.2|none=>c
def sto (pu:List (Nat × Nat × List Value)) (b:Nat):Option Nat:=(pu.find? (fun x=>x.1 == b)).map (·.2.1)
def olB (pu:List (Nat × Nat × List Value)):Nat→List (List Value)→List Bl
 | _,[]=>[]
 | b,c :: r=>⟨c,aft pu b c,none,sto pu b⟩ :: olB pu (b+1) r
def mkB (pu:List (Nat × Nat × List Value)):Nat→List (Nat × List Value)→List Bl
 | _,[]=>[]
 | b,c :: r=>⟨c.2,aft pu b c.2,some c.1,sto pu b⟩ :: mkB pu (b+1) r
def bls (cs:List (List Value)) (mk:List (Nat × List Value)) (pu:List (Nat × Nat × List Value)):List Bl:=olB pu 0 cs++mkB pu cs.length mk
theorem olB_len (pu:List (Nat × Nat × List Value)):∀ (cs:List (List Value)) (b:Nat),(olB pu b cs).length=cs.length
 | [],_=>rfl
 | c :: r,b=>by rw[olB,List.length_cons,olB_len pu r,List.length_cons]
theorem mkB_len (pu:List (Nat × Nat × List Value)):∀ (cs:List (Nat × List Value)) (b:Nat),(mkB pu b cs).length=cs.length
 | [],_=>rfl
 | c :: r,b=>by rw[mkB,List.length_cons,mkB_len pu r,List.length_cons]
theorem olB_before (pu:List (Nat × Nat × List Value)):∀ (cs:List (List Value)) (b:Nat),(olB pu b cs).map (·.before)=cs
 | [],_=>rfl
 | c :: r,b=>by rw[olB,List.map_cons,olB_before pu r]
theorem mkB_before (pu:List (Nat × Nat × List Value)):∀ (cs:List (Nat × List Value)) (b:Nat),(mkB pu b cs).map (·.before)=cs.map (·.2)
 | [],_=>rfl
 | c :: r,b=>by rw[mkB,List.map_cons,mkB_before pu r,List.map_cons]
theorem olB_get (pu:List (Nat × Nat × List Value)):∀ (cs:List (List Value)) (b j:Nat) (e:Bl),(olB pu b cs)[j]? = some e→e.al=none∧e.after=aft pu (b+j) e.before∧e.st=sto pu (b+j)
 | [],_,_,_,h=>by simp[olB] at h
 | c :: r,b,0,e,h=>by
  rw[olB,List.getElem?_cons_zero] at h
  obtain rfl:=Option.some.inj h
  exact ⟨rfl,rfl,rfl⟩
 | c :: r,b,j+1,e,h=>by
  rw[olB,List.getElem?_cons_succ] at h
  have:=olB_get pu r (b+1) j e h
  rwa[show b+1+j=b+(j+1) by omega] at this
theorem mkB_get (pu:List (Nat × Nat × List Value)):∀ (cs:List (Nat × List Value)) (b j:Nat) (e:Bl),(mkB pu b cs)[j]? = some e→(∃ x∈cs,e.al=some x.1)∧e.after=aft pu (b+j) e.before∧e.st=sto pu (b+j)
 | [],_,_,_,h=>by simp[mkB] at h
 | c :: r,b,0,e,h=>by
  rw[mkB,List.getElem?_cons_zero] at h
  obtain rfl:=Option.some.inj h
  exact ⟨⟨c,List.mem_cons_self,rfl⟩,rfl,rfl⟩
 | c :: r,b,j+1,e,h=>by
  rw[mkB,List.getElem?_cons_succ] at h
  obtain ⟨⟨x,hx,d⟩,k⟩:=mkB_get pu r (b+1) j e h
  refine ⟨⟨x,List.mem_cons_of_mem _ hx,d⟩,?_⟩
  rwa[show b+1+j=b+(j+1) by omega] at k
variable {cs cs':List (List Value)} {mk:List (Nat × List Value)} {pu:List (Nat × Nat × List Value)} {ks:List Nat}
theorem bls_len:(bls cs mk pu).length=cs.length+mk.length:=by rw[bls,List.length_append,olB_len,mkB_len]
theorem bls_before:(bls cs mk pu).map (·.before)=cs++mk.map (·.2):=by rw[bls,List.map_append,olB_before,mkB_before]
theorem bls_get {b:Nat} {e:Bl} (h:(bls cs mk pu)[b]? = some e):e.after=aft pu b e.before∧e.st=sto pu b∧((b<cs.length∧e.al=none)∨(cs.length≤b∧∃ x∈mk,e.al=some x.1)):=by
 unfold bls at h
 by_cases k:b<cs.length
 ·rw[List.getElem?_append_left (by rw[olB_len];exact k)] at h
  have:=olB_get pu cs 0 b e h
  rw[Nat.zero_add] at this
  exact ⟨this.2.1,this.2.2,Or.inl ⟨k,this.1⟩⟩
 ·rw[List.getElem?_append_right (by rw[olB_len];omega),olB_len] at h
  have:=mkB_get pu mk cs.length (b-cs.length) e h
  rw[show cs.length+(b-cs.length)=b by omega] at this
  exact ⟨this.2.1,this.2.2,Or.inr ⟨oM,this.1⟩⟩
theorem bls_start:startB (bls cs mk pu) cs.length=true:=by
 simp only[startB,Bool.and_eq_true,decide_eq_true_eq]
 refine ⟨List.all_eq_true.2 fun x hx=>?_,by rw[bls_len];omega⟩
 rw[List.mem_zipIdx_iff_getElem?] at hx
 rcases (bls_get hx).2.2 with ⟨b,k⟩|⟨b,y,-,k⟩
 ·rw[k];simp[b]
 ·rw[k];simp;omega
def inB (m:Nat) (mk:List (Nat × List Value)) (pu:List (Nat × Nat × List Value)):Bool:=mk.all (fun x=>x.1.blt m) && pu.all (fun x=>x.2.1.blt m)
theorem bls_end (h:inB its.length mk pu=true) (l:pu.map (fun x=>x.2.2.length)=pu.map (fun x=>(((cs++mk.map (·.2))[x.1]?).getD []).length)) :
 (∀ e∈bls cs mk pu,∀ j,e.al=some j∨e.st=some j→j<its.length)∧∀ e∈bls cs mk pu,e.fin.length=e.before.length:=by
 simp only[inB,Bool.and_eq_true] at h
 refine ⟨fun e d j k=>?_,fun e d=>?_⟩
 ·obtain ⟨b,c⟩:=List.getElem?_of_mem d
  obtain ⟨i,f,m⟩:=bls_get c
  rcases k with k|k
  ·rcases m with ⟨-,g⟩|⟨-,x,hx,g⟩
   ·rw[g] at k;cases k
   ·rw[g] at k
    obtain rfl:=Option.some.inj k
    have:=List.all_eq_true.1 h.1 x hx
    exact Nat.lt_of_succ_le (Nat.le_of_ble_eq_true this)
  ·rw[f] at k
   unfold sto at k
   obtain ⟨x,hx,rfl⟩:=Option.map_eq_some_iff.1 k
   have:=List.all_eq_true.1 h.2 x (List.mem_of_find?_eq_some hx)
   exact Nat.lt_of_succ_le (Nat.le_of_ble_eq_true this)
 ·obtain ⟨b,c⟩:=List.getElem?_of_mem d
  obtain ⟨i,f,-⟩:=bls_get c
  unfold Bl.fin
  rw[f,i]
  unfold sto aft
  cases g:pu.find? (fun x=>x.1 == b) with
  | none=>rfl
  | some x =>
   show x.2.2.length=_
   have n:=List.mem_of_find?_eq_some g
   have hx:x.1=b:=by simpa using List.find?_some g
   have m:=List.map_inj_left.1 l x n
   rw[m,← bls_before (pu:=pu),hx,List.getElem?_map,c]
   rfl
def lk (k:List It) (b:List (Tmp × SV)) (t:Tmp):Option SV:=
 match k.find? (fun it=>it.dst == some t) with
 | some it=>some it.out
 | none=>(b.find? (fun x=>x.1 == t)).map (·.2)
structure M (w0:World) (k0:Nat) (X:List Nat) (n:Nat) (cs:List (List Value)) (ks:List Nat) (os:List (Tmp × SV)) (a:Act) (w:World):Prop where
 st:St w0 k0 X cs ks w
 sl:Sl a n
 os:Olds a (ad ks) os
def All:Nat→(List Nat→Prop)→Prop
 | 0,f=>f []
 | n+1,f=>∀ k:Nat,All n fun l=>f (k :: l)
theorem All.get:∀ {n:Nat} {f:List Nat→Prop},All n f→∀ l:List Nat,l.length=n→f l
 | 0,f,h,l,hl=>by rw[List.length_eq_zero_iff.1 hl];exact h
 | n+1,f,h,[],hl=>by simp at hl
 | n+1,f,h,k :: l,hl=>All.get (h k) l (by simpa using hl)
theorem at_more {s:SV} {new:List Nat} (h:∀ b,s.blk=some b→b<ks.length):s.at (ad (ks++new))=s.at (ad ks):=SV.at_congr fun b k=>by
 unfold ad
 rw[List.getD_eq_getElem?_getD,List.getD_eq_getElem?_getD,List.getElem?_append_left (h b k)]
theorem Olds.mk' {μ:Nat→Nat}:∀ {l:List (Tmp × SV)},(∀ x∈l,a.tmps[x.1]? = some (x.2.at μ))→Olds a μ l
 | [],_=>trivial
 | x :: r,h=>⟨h x List.mem_cons_self,Olds.mk' fun y k=>h y (List.mem_cons_of_mem _ k)⟩
theorem M.next {d:List (Tmp × SV)} {new:List Nat} {w':World} (h:M w0 k0 X n cs ks os a w) (k:allB ops its (bls cs mk pu) os n=true) (o:(d.map fun x=>lk its os x.1)=d.map fun x=>some x.2)
 (B:St w0 k0 X cs' (ks++new) w'):M w0 k0 X n cs' (ks++new) d (puts (ad (ks++new)) its a) w':=by
 refine ⟨B,h.sl.puts,Olds.mk' fun x hx=>?_⟩
 have i:=List.map_inj_left.1 o x hx
 simp only[allB,Bool.and_eq_true,beq_iff_eq] at k
 obtain ⟨⟨⟨⟨D,hd⟩,f⟩,q⟩,E⟩:=k
 unfold lk at i
 cases hf:its.find? (fun it=>it.dst == some x.1) with
 | some it =>
  rw[hf] at i
  have g:=List.mem_of_find?_eq_some hf
  have c:it.dst=some x.1:=by simpa using List.find?_some hf
  obtain ⟨j,m⟩:=List.getElem?_of_mem g
  have l:=List.all_eq_true.1 q it g
  rw[c] at l
  have:=puts_same (ad (ks++new)) its a j it x.1 hd m c (by rw[h.sl.size];simpa using l)
  rw[this,← Option.some.inj i]
 | none =>
  rw[hf] at i
  obtain ⟨y,t,s⟩:=Option.map_eq_some_iff.1 i
  have g:=List.mem_of_find?_eq_some t
  have r:y.1=x.1:=by simpa using List.find?_some t
  have u:=h.os.get y.1 y.2 g
  rw[puts_other _ its a x.1 (fun it p l=>by
   have:=List.find?_eq_none.1 hf it p
   rw[l] at this
   simp at this),← r,u,← s]
  congr 1
  refine (at_more fun b C=>?_).symm
  have c:=List.all_eq_true.1 f y g
  rw[C] at c
  dsimp only at c
  cases m:(bls cs mk pu)[b]? with
  | none=>rw[m] at c;cases c
  | some e =>
   rw[m] at c
   rcases (bls_get m).2.2 with ⟨v,-⟩|⟨-,z,-,A⟩
   ·rw[h.st.len];exact v
   ·dsimp only at c;rw[A] at c;simp at c
theorem M.reg (h:M w0 k0 X n cs ks os a w) (k:allB ops its (bls cs mk pu) os n=true) (b:Certs P Q w0 k0 X ops its (bls cs mk pu) os 0 ops.toList its):Reg P ops Q w0 k0 X its (bls cs mk pu) os a (ad ks):=
 Reg.mk' (by rw[h.sl.size];exact k) h.os b
theorem bls_take:((bls cs mk pu).map (·.before)).take cs.length=cs:=by rw[bls_before,List.take_left'];rfl
theorem M.tx {id:Nat} (h:M w0 k0 X n cs ks os a w) (k:List It) (mk:List (Nat × List Value)) (pu:List (Nat × Nat × List Value)) (c:List (List Value)) (b:List (Tmp × SV))
 (d:(allB ops k (bls cs mk pu) os n && inB k.length mk pu,(bls cs mk pu).map Bl.fin,b.map fun x=>lk k os x.1)=(true,c,b.map fun x=>some x.2))
 (l:pu.map (fun x=>x.2.2.length)=pu.map (fun x=>(((cs++mk.map (·.2))[x.1]?).getD []).length))
 (p:Certs P Q w0 k0 X ops k (bls cs mk pu) os 0 ops.toList k)
 (j:All mk.length fun new=>∀ e w',M w0 k0 X n c (ks++new) b e w'→Q .normal e w'):(Code.region id ops false).wp P Q a w:=by
 simp only[Prod.mk.injEq,Bool.and_eq_true] at d
 obtain ⟨⟨e,g⟩,o,i⟩:=d
 refine region_text' h.st (h.reg e p) bls_start bls_take (bls_end g l) fun new w' f m=>?_
 rw[bls_len,Nat.add_sub_cancel_left] at f
 exact j.get new f _ _ (h.next e i (o ▸ m))
theorem M.dr {id:Nat} (h:M w0 k0 X n cs ks os a w) (m:P.follows .mixedOrders=true) (k:List It) (mk:List (Nat × List Value)) (pu:List (Nat × Nat × List Value)) (c:List (List Value)) (b:List (Tmp × SV))
 (d:(allB ops k (bls cs mk pu) os n && inB k.length mk pu,(bls cs mk pu).map Bl.fin,b.map fun x=>lk k os x.1)=(true,c,b.map fun x=>some x.2))
 (l:pu.map (fun x=>x.2.2.length)=pu.map (fun x=>(((cs++mk.map (·.2))[x.1]?).getD []).length))
 (q:Certs P Q w0 k0 X ops k (bls cs mk pu) os 0 ops.toList k)
 (j:All mk.length fun new=>∀ e w',M w0 k0 X n c (ks++new) b e w'→Q .normal e w'):(Code.region id ops true).wp P Q a w:=by
 simp only[Prod.mk.injEq,Bool.and_eq_true] at d
 obtain ⟨⟨e,g⟩,p,i⟩:=d
 refine region_draws' m h.st (h.reg e q) bls_start bls_take (bls_end g l) fun new w' f o=>?_
 rw[bls_len,Nat.add_sub_cancel_left] at f
 exact j.get new f _ _ (h.next e i (p ▸ o))
theorem bls_nil:(bls cs [] []).map Bl.fin=cs:=by
 have h:∀ (cs:List (List Value)) (b:Nat),(olB [] b cs).map Bl.fin=cs:=fun cs=>by
  induction cs with
  | nil=>intro _;rfl
  | cons c r ih=>intro b;rw[olB,List.map_cons,ih];rfl
 rw[bls,List.map_append,h]
 exact List.append_nil _
theorem M.tx0 {id:Nat} (h:M w0 k0 X n cs ks os a w) (k:List It) (b:List (Tmp × SV)) (d:(allB ops k (bls cs [] []) os n,b.map fun x=>lk k os x.1)=(true,b.map fun x=>some x.2))
 (f:Certs P Q w0 k0 X ops k (bls cs [] []) os 0 ops.toList k) (e:∀ c w',M w0 k0 X n cs ks b c w'→Q .normal c w'):(Code.region id ops false).wp P Q a w:=by
 simp only[Prod.mk.injEq] at d
 refine h.tx k [] [] cs b (by simp only[d.1,d.2,bls_nil];rfl) rfl f (fun c w' g=>e c w' ?_)
 rwa[List.append_nil] at g
theorem M.t {id:Nat} (h:M w0 k0 X n cs ks os a w) (k:List It) (mk:List (Nat × List Value)) (pu:List (Nat × Nat × List Value)) (c:List (List Value)) (b:List (Tmp × SV)) (g:Certs P Q w0 k0 X ops k (bls cs mk pu) os 0 ops.toList k) (e:All mk.length fun new=>∀ d w',M w0 k0 X n c (ks++new) b d w'→Q .normal d w') (i:(allB ops k (bls cs mk pu) os n && inB k.length mk pu,(bls cs mk pu).map Bl.fin,b.map fun x=>lk k os x.1)=(true,c,b.map fun x=>some x.2):=by kernel_rfl) (f:pu.map (fun x=>x.2.2.length)=pu.map (fun x=>(((cs++mk.map (·.2))[x.1]?).getD []).length):=by kernel_rfl):(Code.region id ops false).wp P Q a w:=h.tx k mk pu c b i f g e
theorem M.d {id:Nat} (h:M w0 k0 X n cs ks os a w) (k:List It) (mk:List (Nat × List Value)) (pu:List (Nat × Nat × List Value)) (c:List (List Value)) (b:List (Tmp × SV)) (g:Certs P Q w0 k0 X ops k (bls cs mk pu) os 0 ops.toList k) (e:All mk.length fun new=>∀ d w',M w0 k0 X n c (ks++new) b d w'→Q .normal d w') (j:(allB ops k (bls cs mk pu) os n && inB k.length mk pu,(bls cs mk pu).map Bl.fin,b.map fun x=>lk k os x.1)=(true,c,b.map fun x=>some x.2):=by kernel_rfl) (f:pu.map (fun x=>x.2.2.length)=pu.map (fun x=>(((cs++mk.map (·.2))[x.1]?).getD []).length):=by kernel_rfl) (i:P.follows .mixedOrders=true:=by kernel_rfl):(Code.region id ops true).wp P Q a w:=h.dr i k mk pu c b j f g e
theorem M.u {id:Nat} (h:M w0 k0 X n cs ks os a w) (k:List It) (b:List (Tmp × SV)) (e:Certs P Q w0 k0 X ops k (bls cs [] []) os 0 ops.toList k) (d:∀ c w',M w0 k0 X n cs ks b c w'→Q .normal c w') (f:(allB ops k (bls cs [] []) os n,b.map fun x=>lk k os x.1)=(true,b.map fun x=>some x.2):=by kernel_rfl):(Code.region id ops false).wp P Q a w:=h.tx0 k b f e d
theorem M.at (h:M w0 k0 X n cs ks os a w) {t:Tmp} {s:SV} (c:(os.find? (fun x=>x.1 == t)).map (·.2)=some s:=by kernel_rfl):a.tmps[t]? = some (s.at (ad ks)):=by
 obtain ⟨y,b,rfl⟩:=Option.map_eq_some_iff.1 c
 have k:y.1=t:=by simpa using List.find?_some b
 rw[← k]
 exact h.os.get y.1 y.2 (List.mem_of_find?_eq_some b)
theorem St.made {w w':World} {cs:List (List Value)} {ks:List Nat} (h:St w w.heap.size [] cs ks w') {b:Nat} {c:List Value} (k:cs[b]? = some c):Made w (ad ks b) c w':=by
 obtain ⟨f,d,g,e⟩:=h.has b c k
 exact ⟨h.bel.below,e.elim id (fun h=>absurd h List.not_mem_nil),g,f,d⟩
theorem M.av (h:M w0 k0 X n cs ks os a w) {t:Tmp} {v:Value} (k:(os.find? (fun x=>x.1 == t)).map (·.2)=some (.v v):=by kernel_rfl):a.tmps[t]? = some v:=h.at k
theorem M.ev (h:M w0 k0 X n cs ks os a w) {t:Tmp} {v:Value} (k:(os.find? (fun x=>x.1 == t)).map (·.2)=some (.v v):=by kernel_rfl):a.eval (.tmp t)=v:=eval_of (h.at k)
theorem M.enter {c:Code} (k:List (Tmp × SV)) (n:Nat) (h:(k.map fun x=>a.tmps[x.1]?,a.tmps.size,a.defers)=(k.map fun x=>some (x.2.at (ad [])),n,[])) (b:∀ a,M w w.heap.size [] n [] [] k a w→c.wp P Q a w):c.wp P Q a w:=by
 simp only[Prod.mk.injEq] at h
 exact b a ⟨St.begin w,⟨h.2.1,h.2.2⟩,Olds.mk' fun x hx=>List.map_inj_left.1 h.1 x hx⟩
theorem M.drop {i w:World} {j n:Nat} {X:List Nat} {cs cs2:List (List Value)} {ks ks2:List Nat} {f:List (Tmp × SV)} {a:Act} (h:M i j X n (cs++cs2) (ks++ks2) f a w) (l:ks.length=cs.length)
 (ho:f.all (fun x=>match x.2.blk with|none=>true|some b=>b.blt cs.length)=true):M i j X n cs ks f a w:=by
 have k:∀ b,b<cs.length→ad (ks++ks2) b=ad ks b:=fun b d=>by
  unfold ad
  rw[List.getD_eq_getElem?_getD,List.getD_eq_getElem?_getD,List.getElem?_append_left oM]
 refine ⟨⟨h.st.bel,h.st.le,l,fun b c d=>?_,fun b c d m g=>?_⟩,h.sl,Olds.mk' fun x hx=>?_⟩
 ·have e:=(List.getElem?_eq_some_iff.1 d).1
  have:=h.st.has b c (by rw[List.getElem?_append_left e];exact d)
  rwa[k b e] at this
 ·have:=h.st.inj b c (by rw[List.length_append];omega) (by rw[List.length_append];omega) g
  rwa[k b d,k c m] at this
 ·rw[h.os.get x.1 x.2 hx]
  congr 1
  refine SV.at_congr fun b d=>?_
  have e:=List.all_eq_true.1 ho x hx
  rw[d] at e
  exact k b (Nat.lt_of_succ_le (Nat.le_of_ble_eq_true e))
abbrev z (n:Nat):List Value:=List.replicate n (.int .u64 0)
def It.s (d:Tmp) (k:List (Tmp × Nat)) (b:SV):It:=⟨some d,k,b,.stay⟩
def It.x (d:Tmp) (k:List (Tmp × Nat)) (v:Value):It:=⟨some d,k,.v v,.stay⟩
def It.c (d:Tmp) (k:List (Tmp × Nat)) (v:Value):It:=⟨some d,k,.v v,.call⟩
def It.u (k:List (Tmp × Nat)) (b:Nat):It:=⟨none,k,.v undef,.put b⟩
end RG
namespace RG
open Go Go.RowKit
variable {P:Program} {ops:Array Oper} {Q:Exit→Act→World→Prop} {w0 w:World} {k0 n:Nat} {X ks:List Nat} {cs:List (List Value)} {os:List (Tmp × SV)} {a:Act}
inductive Hh where
 | x (v:Value)
 | c (v:Value)
 | s (v:SV)
 | m (b:Nat)
 | u (b:Nat)
def nd (k:Array Oper) (i:Nat):List (Tmp × Nat):=
 match k[i]? with
 | none=>[]
 | some o=>o.op.operands.toList.filterMap fun x=>match x with
  | .tmp t=>((List.range i).find? fun j=>match k[j]? with|some p=>p.dst == some t && depB o j|none=>false).map fun j=>(t,j)
  | _=>none
def dt (k:Array Oper) (i:Nat):Option Tmp:=(k[i]?).bind (·.dst)
def Hh.it (k:Array Oper) (i:Nat):Hh→It
 | .x v=>⟨dt k i,nd k i,.v v,.stay⟩
 | .c v=>⟨dt k i,nd k i,.v v,.call⟩
 | .s v=>⟨dt k i,nd k i,v,.stay⟩
 | .m b=>⟨dt k i,nd k i,.p b 0,.make b⟩
 | .u b=>⟨none,nd k i,.v undef,.put b⟩
def mkL (k:Array Oper):Nat→List Hh→List It
 | _,[]=>[]
 | i,h :: r=>h.it k i :: mkL k (i+1) r
def kps (k:List It) (b:List (Tmp × SV)) (l:List Tmp):List (Tmp × SV):=l.filterMap fun t=>(lk k b t).map fun s=>(t,s)
theorem M.U {id:Nat} (h:M w0 k0 X n cs ks os a w) (k:List Hh) (b:List Tmp) (e:Certs P Q w0 k0 X ops (mkL ops 0 k) (bls cs [] []) os 0 ops.toList (mkL ops 0 k)) (d:∀ c w',M w0 k0 X n cs ks (kps (mkL ops 0 k) os b) c w'→Q .normal c w') (f:(allB ops (mkL ops 0 k) (bls cs [] []) os n,(kps (mkL ops 0 k) os b).map fun x=>lk (mkL ops 0 k) os x.1)=(true,(kps (mkL ops 0 k) os b).map fun x=>some x.2):=by kernel_rfl):(Code.region id ops false).wp P Q a w:=h.u _ _ e d f
theorem M.T {id:Nat} (h:M w0 k0 X n cs ks os a w) (k:List Hh) (mk:List (Nat × List Value)) (pu:List (Nat × Nat × List Value)) (b:List (List Value)) (c:List Tmp) (g:Certs P Q w0 k0 X ops (mkL ops 0 k) (bls cs mk pu) os 0 ops.toList (mkL ops 0 k)) (e:All mk.length fun new=>∀ d w',M w0 k0 X n b (ks++new) (kps (mkL ops 0 k) os c) d w'→Q .normal d w') (i:(allB ops (mkL ops 0 k) (bls cs mk pu) os n && inB (mkL ops 0 k).length mk pu,(bls cs mk pu).map Bl.fin,(kps (mkL ops 0 k) os c).map fun x=>lk (mkL ops 0 k) os x.1)=(true,b,(kps (mkL ops 0 k) os c).map fun x=>some x.2):=by kernel_rfl) (f:pu.map (fun x=>x.2.2.length)=pu.map (fun x=>(((cs++mk.map (·.2))[x.1]?).getD []).length):=by kernel_rfl):(Code.region id ops false).wp P Q a w:=h.t _ mk pu b _ g e i f
theorem M.D {id:Nat} (h:M w0 k0 X n cs ks os a w) (k:List Hh) (mk:List (Nat × List Value)) (pu:List (Nat × Nat × List Value)) (b:List (List Value)) (c:List Tmp) (g:Certs P Q w0 k0 X ops (mkL ops 0 k) (bls cs mk pu) os 0 ops.toList (mkL ops 0 k)) (e:All mk.length fun new=>∀ d w',M w0 k0 X n b (ks++new) (kps (mkL ops 0 k) os c) d w'→Q .normal d w') (j:(allB ops (mkL ops 0 k) (bls cs mk pu) os n && inB (mkL ops 0 k).length mk pu,(bls cs mk pu).map Bl.fin,(kps (mkL ops 0 k) os c).map fun x=>lk (mkL ops 0 k) os x.1)=(true,b,(kps (mkL ops 0 k) os c).map fun x=>some x.2):=by kernel_rfl) (f:pu.map (fun x=>x.2.2.length)=pu.map (fun x=>(((cs++mk.map (·.2))[x.1]?).getD []).length):=by kernel_rfl) (i:P.follows .mixedOrders=true:=by kernel_rfl):(Code.region id ops true).wp P Q a w:=h.d _ mk pu b _ g e j f i
end RG
namespace NT
def IsP (n:Nat):Prop:=2≤n∧∀ m,m ∣ n→m=1∨m=n
theorem IsP.cop {p k:Nat} (h:IsP p) (b:0<k) (c:k<p):Nat.Coprime p k:=by
 unfold Nat.Coprime
 rcases h.2 _ (Nat.gcd_dvd_left p k) with e|e
 ·exact e
 ·have:=Nat.le_of_dvd b (Nat.gcd_dvd_right p k)
  omega
theorem IsP.cop_of {p k:Nat} (h:IsP p) (b:¬ p ∣ k):Nat.Coprime p k:=by
 unfold Nat.Coprime
 rcases h.2 _ (Nat.gcd_dvd_left p k) with e|e
 ·exact e
 ·exact absurd (e ▸ Nat.gcd_dvd_right p k) b
theorem IsP.euclid {p a b:Nat} (h:IsP p) (hd:p ∣ a*b):p ∣ a∨p ∣ b:=by
 by_cases k:p ∣ a
 ·exact Or.inl k
 ·exact Or.inr ((h.cop_of k).dvd_of_dvd_mul_left hd)
/-! the binomials -/
def ch : Nat → Nat → Nat
  | _, 0 => 1
  | 0, _ + 1 => 0
  | n + 1, k + 1 => ch n k + ch n (k + 1)
theorem ch_zero (n:Nat):ch n 0=1:=by cases n<;>rfl
theorem ch_above:∀ (n k:Nat),n<k→ch n k=0
 | 0,k+1,_=>rfl
 | n+1,k+1,h=>by
  rw[ch,ch_above n k oM,ch_above n (k+1) oM]
theorem ch_self:∀ (n:Nat),ch n n=1
 | 0=>rfl
 | n+1=>by rw[ch,ch_self n,ch_above n (n+1) oM]
theorem ch_step:∀ (n k:Nat),(k+1)*ch (n+1) (k+1)=(n+1)*ch n k
 | 0,0=>rfl
 | 0,k+1=>by simp[ch]
 | n+1,0=>by
  have h:=ch_step n 0
  have e:ch (n+1+1) (0+1)=ch (n+1) 0+ch (n+1) (0+1):=rfl
  rw[ch_zero] at h
  rw[e,ch_zero]
  omega
 | n+1,k+1=>by
  have c:=ch_step n k
  have b:=ch_step n (k+1)
  have e:ch (n+1+1) (k+1+1)=ch (n+1) (k+1)+ch (n+1) (k+1+1):=rfl
  have e3:ch (n+1) (k+1)=ch n k+ch n (k+1):=rfl
  rw[e,Nat.mul_add,b]
  have:(k+1+1)*ch (n+1) (k+1)=(n+1)*ch n k+ch (n+1) (k+1):=by
   rw[← c,Nat.add_mul (k+1) 1,Nat.one_mul]
  rw[this,e3,Nat.add_mul (n+1) 1,Nat.one_mul,Nat.mul_add]
  omega
def sumTo:Nat→(Nat→Nat)→Nat
 | 0,_=>0
 | n+1,f=>sumTo n f+f n
theorem sumTo_congr (f g:Nat→Nat):∀ n,(∀ k,k<n→f k=g k)→sumTo n f=sumTo n g
 | 0,_=>rfl
 | n+1,h=>by
  rw[sumTo,sumTo,sumTo_congr f g n (fun k b=>h k oM),h n oM]
theorem sumTo_add (f g:Nat→Nat):∀ n,sumTo n (fun k=>f k+g k)=sumTo n f+sumTo n g
 | 0=>rfl
 | n+1=>by simp only[sumTo];rw[sumTo_add f g n];omega
theorem sumTo_mul (a:Nat) (f:Nat→Nat):∀ n,sumTo n (fun k=>a*f k)=a*sumTo n f
 | 0=>rfl
 | n+1=>by simp only[sumTo];rw[sumTo_mul a f n,Nat.mul_add]
theorem sumTo_front (f:Nat→Nat):∀ n,sumTo (n+1) f=f 0+sumTo n (fun k=>f (k+1))
 | 0=>by simp[sumTo]
 | n+1=>by rw[sumTo,sumTo_front f n];simp only[sumTo];omega
theorem sumTo_dvd (p:Nat) (f:Nat→Nat):∀ n,(∀ k,k<n→p ∣ f k)→p ∣ sumTo n f
 | 0,_=>Nat.dvd_zero p
 | n+1,h=>Nat.dvd_add (sumTo_dvd p f n (fun k b=>h k oM)) (h n oM)
theorem binom (a:Nat):∀ n,(a+1)^n=sumTo (n+1) (fun k=>ch n k*a^k)
 | 0=>by simp[sumTo,ch]
 | n+1=>by
  rw[Nat.pow_succ,binom a n,Nat.mul_add,Nat.mul_one]
  rw[sumTo_front (fun k=>ch (n+1) k*a^k) (n+1)]
  have e:sumTo (n+1) (fun k=>ch (n+1) (k+1)*a^(k+1))
   = sumTo (n+1) (fun k=>a*(ch n k*a^k))+sumTo (n+1) (fun k=>ch n (k+1)*a^(k+1)):=by
   rw[← sumTo_add]
   refine sumTo_congr _ _ _ ?_
   intro k _
   show (ch n k+ch n (k+1))*a^(k+1)=_
   rw[Nat.add_mul,Nat.pow_succ]
   have:ch n k*(a^k*a)=a*(ch n k*a^k):=by
    rw[Nat.mul_comm a,Nat.mul_assoc]
   rw[this]
  rw[e,sumTo_mul]
  have c:sumTo (n+1) (fun k=>ch n k*a^k)
   = ch n 0*a^0+sumTo n (fun k=>ch n (k+1)*a^(k+1)):=sumTo_front (fun k=>ch n k*a^k) n
  have e3:sumTo (n+1) (fun k=>ch n (k+1)*a^(k+1))=sumTo n (fun k=>ch n (k+1)*a^(k+1)):=by
   rw[sumTo,ch_above n (n+1) oM,Nat.zero_mul,Nat.add_zero]
  have b:ch (n+1) 0*a^0=ch n 0*a^0:=by rw[ch_zero,ch_zero]
  rw[e3,b,Nat.mul_comm _ a]
  omega
theorem IsP.ch_dvd {p k:Nat} (h:IsP p) (b:k+1<p):p ∣ ch p (k+1):=by
 obtain ⟨n,rfl⟩:∃ n,p=n+1:=⟨p-1,by have:=h.1;omega⟩
 have e:=ch_step n k
 have hd:(n+1) ∣ (k+1)*ch (n+1) (k+1):=e ▸ Nat.dvd_mul_right _ _
 exact (h.cop oM b).dvd_of_dvd_mul_left hd
theorem IsP.frob {p:Nat} (h:IsP p) (a:Nat):(a+1)^p%p=(a^p+1)%p:=by
 obtain ⟨n,rfl⟩:∃ n,p=n+1:=⟨p-1,by have:=h.1;omega⟩
 rw[binom,sumTo,sumTo_front,ch_self,ch_zero]
 obtain ⟨c,b⟩:(n+1) ∣ sumTo n (fun k=>ch (n+1) (k+1)*a^(k+1)):=
  sumTo_dvd _ _ _ (fun k d=>Nat.dvd_mul_right_of_dvd (h.ch_dvd oM) _)
 rw[b]
 have:1*a^0+(n+1)*c+1*a^(n+1)=(a^(n+1)+1)+(n+1)*c:=by
  rw[Nat.pow_zero];omega
 rw[this,Nat.add_mul_mod_self_left]
theorem IsP.fermat {p:Nat} (h:IsP p):∀ a,a^p%p=a%p
 | 0=>by
  rw[Nat.zero_pow (by have:=h.1;omega)]
 | a+1=>by
  rw[h.frob,Nat.add_mod,h.fermat a,← Nat.add_mod]
theorem IsP.cancel {p a x y:Nat} (h:IsP p) (d:¬ p ∣ a) (e:a*x%p=a*y%p):x%p=y%p:=by
 have key:∀ x y,y≤x→a*x%p=a*y%p→x%p=y%p:=by
  intro x y k e
  have b:=Nat.dvd_of_mod_eq_zero (Nat.sub_mod_eq_zero_of_mod_eq e)
  rw[← Nat.mul_sub] at b
  obtain ⟨c,f⟩:=(h.cop_of d).dvd_of_dvd_mul_left b
  have:x=y+p*c:=oM
  rw[this,Nat.add_mul_mod_self_left]
 rcases Nat.le_total y x with k|k
 ·exact key x y k e
 ·exact (key y x k e.symm).symm
theorem IsP.fermat1 {p:Nat} (h:IsP p) (a:Nat) (k:¬ p ∣ a):a^(p-1)%p=1:=by
 obtain ⟨n,rfl⟩:∃ n,p=n+1:=⟨p-1,by have:=h.1;omega⟩
 have e:=h.fermat a
 rw[Nat.pow_succ,Nat.mul_comm] at e
 have:=h.cancel k (x:=a^n) (y:=1) (by rw[e,Nat.mul_one])
 rw[Nat.add_sub_cancel,this,Nat.mod_eq_of_lt h.1]
/-! powers that are 1 -/
theorem pow_gcd (b r : Nat) (hr : 1<r) (x y : Nat) : b^x%r=1 → b^y%r=1 → b^(Nat.gcd x y)%r=1:=by
  induction x, y using Nat.gcd.induction with
  | H0 n => intro _ h; rw[Nat.gcd_zero_left]; exact h
  | H1 m n hm ih =>
    intro h1 h2
    rw[Nat.gcd_rec]
    refine ih ?_ h1
    have e : b^n=(b^m)^(n/m) * b^(n%m):=by
      rw[← Nat.pow_mul, ← Nat.pow_add, Nat.div_add_mod]
    rw[e, Nat.mul_mod, Nat.pow_mod, h1, Nat.one_pow, Nat.mod_eq_of_lt hr, Nat.one_mul, Nat.mod_mod] at h2
    exact h2
theorem exists_prime:∀ n,2≤n→∃ r,IsP r∧r ∣ n∧(IsP n∨r*r≤n):=by
 intro n
 induction n using Nat.strongRecOn with
 | _ n ih =>
  intro q
  by_cases g:IsP n
  ·exact ⟨n,g,Nat.dvd_refl n,Or.inl g⟩
  ·have:∃ m,m ∣ n∧m≠1∧m≠n:=by
    refine Classical.byContradiction fun d=>g ⟨q,fun m c=>?_⟩
    refine Classical.byContradiction fun b=>d ⟨m,c,fun e=>b (Or.inl e),fun e=>b (Or.inr e)⟩
   obtain ⟨m,⟨k,d⟩,u,t⟩:=this
   have s:m≠0:=by intro e;rw[e,Nat.zero_mul] at d;omega
   have p:k≠0:=by intro e;rw[e,Nat.mul_zero] at d;omega
   have o:k≠1:=by intro e;rw[e,Nat.mul_one] at d;omega
   have i:m<n:=by
    have:=Nat.le_of_dvd oM (⟨k,d⟩:m ∣ n);omega
   have l:k<n:=by
    have:=Nat.mul_le_mul_right k (show 2≤m by omega);omega
   rcases Nat.le_total m k with f|f
   ·obtain ⟨r,j,b,_⟩:=ih m i oM
    have c:=Nat.le_of_dvd oM b
    refine ⟨r,j,Nat.dvd_trans b ⟨k,d⟩,Or.inr ?_⟩
    rw[d];exact Nat.mul_le_mul c (Nat.le_trans c f)
   ·obtain ⟨r,j,b,_⟩:=ih k l oM
    have c:=Nat.le_of_dvd oM b
    refine ⟨r,j,Nat.dvd_trans b ⟨m,by rw[d,Nat.mul_comm]⟩,Or.inr ?_⟩
    rw[d];exact Nat.mul_le_mul (Nat.le_trans c f) c
/-! what of a prime of n - 1 goes into the primes of n -/
theorem part {n q a r : Nat} (hq : IsP q) (hr : IsP r) (hrn : r ∣ n) (hn : 1<n)
    (h1 : a^(n-1)%n=1) (hd : q ∣ n-1) (h2 : Nat.gcd (a^((n-1)/q)%n + (n-1)) n=1) : q ∣ r-1:=by
  have hr2:=hr.1
  have toR : ∀ x y, x%n=y%n → x%r=y%r:=by
    intro x y e
    rw[← Nat.mod_mod_of_dvd x hrn, e, Nat.mod_mod_of_dvd y hrn]
  have hm : a^(n-1)%r=1:=by
    have:=toR (a^(n-1)) 1 (by rw[h1, Nat.mod_eq_of_lt hn])
    rw[this, Nat.mod_eq_of_lt hr2]
  have hra : ¬ r ∣ a:=by
    intro hc
    have hz : a^(n-1)%r=0:=Nat.mod_eq_zero_of_dvd (Nat.dvd_trans hc (by
      have : a^1 ∣ a^(n-1):=Nat.pow_dvd_pow a oM
      rwa[Nat.pow_one] at this))
    omega
  have hb : (a^((n-1)/q))^q%r=1:=by
    rw[← Nat.pow_mul, Nat.div_mul_cancel hd]; exact hm
  have hbr : ¬ r ∣ a^((n-1)/q):=by
    intro hc
    have : r ∣ (a^((n-1)/q))^q:=Nat.dvd_trans hc (by
      have : (a^((n-1)/q))^1 ∣ (a^((n-1)/q))^q:=Nat.pow_dvd_pow _ (by have:=hq.1; omega)
      rwa[Nat.pow_one] at this)
    have:=Nat.mod_eq_zero_of_dvd this
    omega
  have hg:=pow_gcd _ r hr2 q (r-1) hb (hr.fermat1 _ hbr)
  rcases hq.2 _ (Nat.gcd_dvd_left q (r-1)) with e|e
  · rw[e, Nat.pow_one] at hg
    exfalso
    have hx : r ∣ a^((n-1)/q)%n + (n-1):=by
      refine Nat.dvd_of_mod_eq_zero ?_
      have e1 : (a^((n-1)/q)%n)%r=1:=by rw[Nat.mod_mod_of_dvd _ hrn]; exact hg
      have e2 : (n-1 + 1)%r=0:=by
        rw[Nat.sub_add_cancel oM]; exact Nat.mod_eq_zero_of_dvd hrn
      have : (a^((n-1)/q)%n + (n-1))%r=(1 + (n-1))%r:=by
        rw[Nat.add_mod, e1, Nat.add_mod 1 (n-1), Nat.mod_eq_of_lt hr2]
      rw[this, Nat.add_comm, e2]
    have:=Nat.dvd_gcd hx hrn
    rw[h2] at this
    have:=Nat.le_of_dvd oM this
    omega
  · rw[← e]; exact Nat.gcd_dvd_right _ _
theorem pock {n f:Nat} (e:1<n) (hf:n<(f+1)*(f+1))
 (k:∀ r,IsP r→r ∣ n→f ∣ r-1):IsP n:=by
 obtain ⟨r,b,c,h|h⟩:=exists_prime n e
 ·exact h
 ·have:=Nat.le_of_dvd (by have:=b.1;omega) (k r b c)
  have d:f+1≤r:=by have:=b.1;omega
  have:=Nat.mul_le_mul d d
  omega
/-! trial -/
def trial (n : Nat) : Nat → Nat → Bool
  | 0, _ => true
  | k + 1, d => (n%d != 0) && trial n k (d + 1)
theorem trial_no (n:Nat):∀ k d,trial n k d=true→∀ m,d≤m→m<d+k→¬ m ∣ n
 | 0,_,_,m,_,_=>oM
 | k+1,d,h,m,h1,h2=>by
  simp only[trial,Bool.and_eq_true,bne_iff_ne,ne_eq] at h
  rcases Nat.lt_or_ge d m with b|c
  ·exact trial_no n k (d+1) h.2 m b oM
  ·have:m=d:=oM
   subst this
   intro hd
   exact h.1 (Nat.mod_eq_zero_of_dvd hd)
theorem small {n k:Nat} (f:2≤n) (g:trial n k 2=true) (j:n<(k+2)*(k+2)):IsP n:=by
 obtain ⟨r,d,b,h|h⟩:=exists_prime n f
 ·exact h
 ·have e:=d.1
  have c:r<2+k:=by
   refine Classical.byContradiction fun i=>?_
   have:=Nat.mul_le_mul (show k+2≤r by omega) (show k+2≤r by omega)
   omega
  exact absurd b (trial_no n k 2 g r e c)
/-! powers, reckoned -/
def pm (n : Nat) : Nat → Nat → Nat → Nat → Nat
  | 0, _, _, acc => acc
  | k + 1, a, e, acc => pm n k (a * a%n) (e/2) (if e%2=1 then acc * a%n else acc)
theorem pm_eq (n:Nat):∀ k a e b,e<2^k→b<n→pm n k a e b=b*a^e%n
 | 0,a,e,b,h,ha=>by
  have:e=0:=by simpa using h
  subst this
  rw[pm,Nat.pow_zero,Nat.mul_one,Nat.mod_eq_of_lt ha]
 | k+1,a,e,b,h,ha=>by
  have g:0<n:=oM
  have c:(if e%2=1 then b*a%n else b)<n:=by
   split
   ·exact Nat.mod_lt _ g
   ·exact ha
  rw[pm,pm_eq n k _ _ _ (by rw[Nat.pow_succ] at h;omega) c]
  have d:∀ y,y*(a*a%n)^(e/2)%n=y*(a*a)^(e/2)%n:=by
   intro y
   rw[Nat.mul_mod,← Nat.pow_mod,← Nat.mul_mod]
  rw[d]
  have f:a^e=a^(e%2)*(a*a)^(e/2):=by
   have:(a*a)=a^2:=by rw[Nat.pow_succ,Nat.pow_one]
   rw[this,← Nat.pow_mul,← Nat.pow_add,Nat.mod_add_div]
  rw[f]
  split
  ·rename_i h1
   rw[h1,Nat.pow_one,Nat.mul_mod,Nat.mod_mod,← Nat.mul_mod,Nat.mul_assoc]
  ·rename_i h1
   have:e%2=0:=oM
   rw[this,Nat.pow_zero,Nat.one_mul]
theorem part' {n q a r k:Nat} (g:IsP q) (f:IsP r) (c:r ∣ n) (b:1<n) (i:n<2^k)
 (e:pm n k a (n-1) 1=1) (hd:(n-1)%q=0) (d:Nat.gcd (pm n k a ((n-1)/q) 1+(n-1)) n=1):q ∣ r-1:=by
 rw[pm_eq n k a (n-1) 1 oM b,Nat.one_mul] at e
 rw[pm_eq n k a _ 1 (Nat.lt_of_le_of_lt (Nat.div_le_self _ _) oM) b,Nat.one_mul] at d
 exact part g f c b e (Nat.dvd_of_mod_eq_zero hd) d
/-! the two primes -/
theorem x21 : IsP 1627771:=small (k:=1275) dC dK dC
theorem x30:IsP 545358713:=small (k:=23352) dC dK dC
theorem x26:IsP 44706919:=small (k:=6686) dC dK dC
theorem x17:IsP 120233:=small (k:=346) dC dK dC
theorem x27:IsP 107590001:=small (k:=10372) dC dK dC
theorem x23:IsP 7240687:=small (k:=2690) dC dK dC
theorem x16:IsP 96557:=small (k:=310) dC dK dC
theorem x39:IsP 297159362677:=
 pock (f:=1627771) dC dK (fun r b hd=>part' (k:=39) (a:=2) x21 b hd dC dK dK dK dK)
theorem c95:IsP 29047611873442575647497758179:=
 pock (f:=(545358713*297159362677)) dC dK (fun r b hd=>Nat.Coprime.mul_dvd_of_dvd_of_dvd dK (part' (k:=95) (a:=2) x30 b hd dC dK dK dK dK) (part' (k:=95) (a:=2) x39 b hd dC dK dK dK dK))
theorem b68:IsP 174723607534414371449:=
 pock (f:=(44706919*120233)) dC dK (fun r b hd=>Nat.Coprime.mul_dvd_of_dvd_of_dvd dK (part' (k:=68) (a:=2) x26 b hd dC dK dK dK dK) (part' (k:=68) (a:=2) x17 b hd dC dK dK dK dK))
theorem c109:IsP 341948486974166000522343609283189:=
 pock (f:=29047611873442575647497758179) dC dK (fun r b hd=>part' (k:=109) (a:=2) c95 b hd dC dK dK dK dK)
theorem pN:IsP 115792089237316195423570985008687907852837564279074904382605163141518161494337:=
 pock (f:=(174723607534414371449*341948486974166000522343609283189)) dC dK (fun r b hd=>Nat.Coprime.mul_dvd_of_dvd_of_dvd dK (part' (k:=256) (a:=2) b68 b hd dC dK dK dK dK) (part' (k:=256) (a:=2) c109 b hd dC dK dK dK dK))
theorem e128:IsP 255515944373312847190720520512484175977:=
 pock (f:=(107590001*7240687*96557)) dC dK (fun r b hd=>Nat.Coprime.mul_dvd_of_dvd_of_dvd dK (Nat.Coprime.mul_dvd_of_dvd_of_dvd dK (part' (k:=128) (a:=2) x27 b hd dC dK dK dK dK) (part' (k:=128) (a:=2) x23 b hd dC dK dK dK dK)) (part' (k:=128) (a:=2) x16 b hd dC dK dK dK dK))
theorem q237:IsP 205115282021455665897114700593932402728804164701536103180137503955397371:=
 pock (f:=255515944373312847190720520512484175977) dC dK (fun r b hd=>part' (k:=237) (a:=2) e128 b hd dC dK dK dK dK)
theorem pP:IsP 115792089237316195423570985008687907853269984665640564039457584007908834671663:=
 pock (f:=205115282021455665897114700593932402728804164701536103180137503955397371) dC dK (fun r b hd=>part' (k:=256) (a:=2) q237 b hd dC dK dK dK dK)
end NT
namespace EC
structure Line {P:Nat} [NeZero P] (x1 y1 x2 y2 l:Fin P):Prop where
 go:y2=y1+l*(x2-x1)
 on:l*(y1+y2)=x1^2+x1*x2+x2^2
variable {P:Nat} [NeZero P]
theorem on_curve (k d c f l b g:Fin P) (n:d^2=k^3+7) (m:f^2=c^3+7) (i:Line k d c f l) (hx:b=l^2-k-c) (j:g=l*(k-b)-d):g^2=b^3+7:=by
 obtain ⟨e,h⟩:=i
 subst j hx e
 grobner
theorem assoc_x (k f b d i g j n c l e m:Fin P) (s:Line k f b j i) (p:Line b j d n g)
 (t:c=i^2-k-b) (r:l=i*(k-c)-f) (q:e=g^2-b-d) (u:m=g*(b-e)-j) :
 ((l-n)^2-(c+d)*(c-d)^2)*(e-k)^2=((m-f)^2-(k+e)*(e-k)^2)*(c-d)^2:=by
 obtain ⟨o,v⟩:=s
 obtain ⟨e3,w⟩:=p
 subst r u t q e3 o
 grobner
theorem assoc_y (c e d k m l n f b i g j:Fin P) (s:Line c e d n m) (p:Line d n k f l)
 (t:b=m^2-c-d) (r:i=m*(c-b)-e) (q:g=l^2-d-k) (u:j=l*(d-g)-n) :
 ((i-f)^2-(k+b)*(b-k)^2)*((j-e)*(b-k)-(i-f)*(g-c))+(b-k)^2*(((i-f)*k-f*(b-k))*(g-c)-((j-e)*c-e*(g-c))*(b-k))=0:=by
 obtain ⟨o,v⟩:=s
 obtain ⟨e3,w⟩:=p
 subst r u t q e3 o
 grobner (ringSteps:=100000000)
theorem assoc_x2 (b f c k i g j e d l:Fin P) (q:Line b f c j i) (n:Line c j k e g)
 (r:k=i^2-b-c) (p:e=i*(b-k)-f) (o:d=g^2-c-k) (s:l=g*(c-d)-j) :
 (9*k^4-8*k*e^2)*(d-b)^2=((l-f)^2-(b+d)*(d-b)^2)*(4*e^2):=by
 obtain ⟨m,t⟩:=q
 obtain ⟨e3,u⟩:=n
 subst s o p r m
 grobner (ringSteps:=100000000)
theorem assoc_y2 (c e d k i g j b f l:Fin P) (q:Line c e d j i) (n:Line d j k b g)
 (r:k=i^2-c-d) (p:b=i*(c-k)-e) (o:f=g^2-d-k) (s:l=g*(d-f)-j) :
 (3*k^2*(k*(4*b^2)-(9*k^4-8*k*b^2))-2*b^2*(4*b^2))*(f-c)=((l-e)*(c*(4*b^2)-(9*k^4-8*k*b^2))-e*(f-c)*(4*b^2))*(2*b):=by
 obtain ⟨m,t⟩:=q
 obtain ⟨e3,u⟩:=n
 subst s o p r m
 grobner (ringSteps:=100000000)
end EC
namespace EC
variable {P:Nat} [NeZero P]
theorem val_zero:(0:Fin P).val=0:=by simp
theorem val_one (h:NT.IsP P):(1:Fin P).val=1:=by
 have k:=h.1
 show 1%P=1
 exact Nat.mod_eq_of_lt oM
theorem nzd (h:NT.IsP P) {a b:Fin P} (e:a*b=0):a=0∨b=0:=by
 have c:a.val*b.val%P=0:=by
  have:=congrArg Fin.val e
  rw[Fin.val_mul,val_zero] at this
  exact this
 rcases h.euclid (Nat.dvd_of_mod_eq_zero c) with k|k
 ·exact Or.inl (Fin.ext (by rw[val_zero];exact Nat.eq_zero_of_dvd_of_lt k a.isLt))
 ·exact Or.inr (Fin.ext (by rw[val_zero];exact Nat.eq_zero_of_dvd_of_lt k b.isLt))
theorem mul_ne (h:NT.IsP P) {a b:Fin P} (c:a≠0) (k:b≠0):a*b≠0:=fun e=>(nzd h e).elim c k
theorem cancel (h:NT.IsP P) {a b c:Fin P} (d:a≠0) (e:b*a=c*a):b=c:=by
 have f:(b-c)*a=0:=by grobner
 rcases nzd h f with k|k
 ·grobner
 ·exact absurd k d
def inv (a:Fin P):Fin P:=Fin.ofNat P (a.val^(P-2))
theorem inv_mul (h:NT.IsP P) {a:Fin P} (b:a≠0):inv a*a=1:=by
 apply Fin.ext
 have c:=h.1
 have k:¬ P ∣ a.val:=fun hd=>b (Fin.ext (by rw[val_zero];exact Nat.eq_zero_of_dvd_of_lt hd a.isLt))
 rw[Fin.val_mul,val_one h]
 show a.val^(P-2)%P*a.val%P=1
 rw[Nat.mod_mul_mod,← Nat.pow_succ,show (P-2).succ=P-1 by omega]
 exact h.fermat1 _ k
end EC
namespace EC
variable {P:Nat} [NeZero P]
abbrev Pt (P:Nat):=Option (Fin P × Fin P)
def On:Pt P→Prop
 | none=>True
 | some (x,y)=>y^2=x^3+7
def neg:Pt P→Pt P
 | none=>none
 | some (x,y)=>some (x,-y)
def slope (k b c d:Fin P):Fin P:=if k=c then 3*k^2*inv (2*b) else (d-b)*inv (c-k)
def third (k c b l:Fin P):Pt P:=some (l^2-k-b,l*(k-(l^2-k-b))-c)
def add:Pt P→Pt P→Pt P
 | none,b=>b
 | a,none=>a
 | some (x1,y1),some (x2,y2)=>if x1=x2∧y2 = -y1 then none else third x1 y1 x2 (slope x1 y1 x2 y2)
theorem same_y (h:NT.IsP P) {x b k:Fin P} (d:b^2=x^3+7) (c:k^2=x^3+7) (ho:¬ k = -b):k=b:=by
 have e:(k-b)*(k+b)=0:=by grobner
 rcases nzd h e with e|e
 ·grobner
 ·exact absurd (by grobner) ho
theorem twice_ne {x k:Fin P} (h:NT.IsP P) (b:(2:Fin P)≠0) (ho:¬ (x=x∧k = -k)):2*k≠0:=fun e=>by
 rcases nzd h e with e|e
 ·exact b e
 ·exact ho ⟨rfl,by rw[e];grobner⟩
theorem slope_line (h:NT.IsP P) (g:(2:Fin P)≠0) {b d k c:Fin P} (f:d^2=b^3+7) (i:c^2=k^3+7) (ho:¬ (b=k∧c = -d)):Line b d k c (slope b d k c):=by
 unfold slope
 by_cases hx:b=k
 ·subst hx
  rw[if_pos rfl]
  have j:=same_y h f i (fun e=>ho ⟨rfl,e⟩)
  subst j
  have l:=inv_mul h (twice_ne h g ho)
  exact ⟨by grobner,by grobner⟩
 ·rw[if_neg hx]
  have hd:k-b≠0:=fun e=>hx (by grobner)
  have l:=inv_mul h hd
  refine ⟨by grobner,cancel h hd (by grobner)⟩
theorem line_unique (h:NT.IsP P) (f:(2:Fin P)≠0) {b c k d l m:Fin P} (g:c^2=b^3+7) (i:d^2=k^3+7) (ho:¬ (b=k∧d = -c)) (L:Line b c k d l) (M:Line b c k d m):l=m:=by
 obtain ⟨o,b1⟩:=L
 obtain ⟨a2,n⟩:=M
 by_cases hx:b=k
 ·subst hx
  have j:=same_y h g i (fun e=>ho ⟨rfl,e⟩)
  subst j
  exact cancel h (twice_ne h f ho) (by grobner)
 ·have hd:k-b≠0:=fun e=>hx (by grobner)
  exact cancel h hd (by grobner)
theorem add_line (h:NT.IsP P) (f:(2:Fin P)≠0) {c b k d l:Fin P} (e:b^2=c^3+7) (g:d^2=k^3+7) (ho:¬ (c=k∧d = -b)) (L:Line c b k d l):add (some (c,b)) (some (k,d))=third c b k l:=by
 show (if c=k∧d = -b then none else third c b k (slope c b k d))=_
 rw[if_neg ho,line_unique h f e g ho (slope_line h f e g ho) L]
theorem add_opp {c b k d:Fin P} (ho:c=k∧d = -b):add (some (c,b)) (some (k,d))=none:=by
 show (if c=k∧d = -b then none else third c b k (slope c b k d))=_
 rw[if_pos ho]
theorem add_none (a:Pt P):add a none=a:=by cases a<;>rfl
theorem Line.swap {e d k c l:Fin P} (L:Line e d k c l):Line k c e d l:=by
 obtain ⟨a,b⟩:=L
 exact ⟨by grobner,by grobner⟩
theorem third_swap {c e k d l:Fin P} (L:Line c e k d l):third c e k l=third k d c l:=by
 obtain ⟨a,b⟩:=L
 unfold third
 have g:l^2-c-k=l^2-k-c:=by grobner
 have f:l*(c-(l^2-c-k))-e=l*(k-(l^2-k-c))-d:=by grobner
 rw[f,g]
theorem add_comm (h:NT.IsP P) (c:(2:Fin P)≠0) (a b:Pt P) (d:On a) (k:On b):add a b=add b a:=by
 rcases a with _|⟨l,j⟩
 ·rw[add_none];rfl
 ·rcases b with _|⟨g,i⟩
  ·rfl
  ·by_cases ho:l=g∧i = -j
   ·rw[add_opp ho,add_opp ⟨ho.1.symm,by rw[ho.2];grobner⟩]
   ·have f:¬ (g=l∧j = -i):=fun e=>ho ⟨e.1.symm,by rw[e.2];grobner⟩
    have L:=slope_line h c d k ho
    rw[add_line h c d k ho L,add_line h c k d f L.swap,third_swap L]
theorem add_on (h:NT.IsP P) (d:(2:Fin P)≠0) (a b:Pt P) (c:On a) (k:On b):On (add a b):=by
 rcases a with _|⟨i,g⟩
 ·exact k
 ·rcases b with _|⟨e,f⟩
  ·exact c
  ·by_cases ho:i=e∧f = -g
   ·rw[add_opp ho];trivial
   ·have L:=slope_line h d c k ho
    rw[add_line h d c k ho L]
    exact on_curve i g e f _ _ _ c k L rfl rfl
end EC
namespace EC
variable {P:Nat} [NeZero P]
theorem neg_on {a:Pt P} (h:On a):On (neg a):=by
 rcases a with _|⟨x,y⟩
 ·trivial
 ·have k:y^2=x^3+7:=h
  show (-y)^2=x^3+7
  grobner
theorem neg_neg' (a:Pt P):neg (neg a)=a:=by
 rcases a with _|⟨x,y⟩
 ·rfl
 ·show some (x,- -y)=some (x,y)
  have:- -y=y:=by grobner
  rw[this]
theorem add_neg (a:Pt P):add a (neg a)=none:=by
 rcases a with _|⟨x,y⟩
 ·rfl
 ·exact add_opp ⟨rfl,rfl⟩
theorem Line.neg {e d k c l:Fin P} (L:Line e d k c l):Line e (-d) k (-c) (-l):=by
 obtain ⟨a,b⟩:=L
 exact ⟨by grobner,by grobner⟩
theorem neg_add (h:NT.IsP P) (i:(2:Fin P)≠0) {a b:Pt P} (j:On a) (g:On b):neg (add a b)=add (neg a) (neg b):=by
 rcases a with _|⟨k,d⟩
 ·rfl
 ·rcases b with _|⟨c,f⟩
  ·rfl
  ·by_cases ho:k=c∧f = -d
   ·rw[add_opp ho]
    exact (add_opp ⟨ho.1,by rw[ho.2]⟩).symm
   ·have L:=slope_line h i j g ho
    have m:¬ (k=c∧-f = - -d):=fun e=>ho ⟨e.1,by have:=e.2;grobner⟩
    rw[add_line h i j g ho L]
    refine Eq.trans ?_ (add_line h i (neg_on (a:=some (k,d)) j) (neg_on (a:=some (c,f)) g) m L.neg).symm
    generalize slope k d c f=l
    unfold third
    show some (l^2-k-c,-(l*(k-(l^2-k-c))-d))=some ((-l)^2-k-c,-l*(k-((-l)^2-k-c)) - -d)
    have o:(-l)^2=l^2:=by grobner
    rw[o]
    have n:-(l*(k-(l^2-k-c))-d) = -l*(k-(l^2-k-c)) - -d:=by grobner
    rw[n]
theorem Line.back {k c f i l d e:Fin P} (L:Line k c f i l) (g:d=l^2-k-f) (j:e=l*(k-d)-c):Line k (-c) d e (-l):=by
 obtain ⟨a,b⟩:=L
 subst j g a
 exact ⟨by grobner,by grobner (ringSteps:=10000000)⟩
theorem back_x {k b c l:Fin P} (d:c=l^2-k-b):(-l)^2-k-c=b:=by
 subst d
 grobner
theorem back_y {k b c d l:Fin P} (a:d=c+l*(b-k)):-l*(k-b) - -c=d:=by
 subst a
 grobner
theorem no_y {x y:Fin P} (z:y=0) (k:y^2=x^3+7):x^3+7=0:=by
 grobner
theorem neg_add_add (h:NT.IsP P) (i:(2:Fin P)≠0) (y:∀ x:Fin P,x^3+7≠0) {b c:Pt P} (g:On b) (n:On c):add (neg b) (add b c)=c:=by
 rcases b with _|⟨d,f⟩
 ·rfl
 ·rcases c with _|⟨j,s⟩
  ·rw[add_none]
   exact add_opp ⟨rfl,by grobner⟩
  ·have q:=g
   have w:=n
   by_cases ho:d=j∧s = -f
   ·rw[add_opp ho,add_none,ho.1,ho.2]
    rfl
   ·have L:=slope_line h i g n ho
    have k:=on_curve d f j s _ _ _ g n L rfl rfl
    rw[add_line h i g n ho L]
    generalize slope d f j s=l at L k
    obtain ⟨m,p⟩:∃ m,m=l^2-d-j:=⟨_,rfl⟩
    unfold third
    rw[← p] at k ⊢
    obtain ⟨o,t⟩:∃ o,o=l*(d-m)-f:=⟨_,rfl⟩
    rw[← t] at k ⊢
    have M:=L.back p t
    have a:=L.go
    have r:¬ (d=m∧o = - -f):=fun e=>by
     obtain ⟨u,v⟩:=e
     have z:2*f=0:=by
      grobner
     rcases nzd h z with z|z
     ·exact i z
     ·exact y d (no_y z q)
    refine (add_line h i (neg_on (a:=some (d,f)) g) k r M).trans ?_
    unfold third
    rw[back_x p,back_y a]
end EC
namespace EC
variable {P:Nat} [NeZero P]
theorem gen_x (h:NT.IsP P) {c b k d l m n e f i:Fin P} (g:k-b≠0) (o:d-c≠0) (j:n-m=f*(k-b)) (p:e-l=i*(d-c))
 (hx:((n-m)^2-(k+b)*(k-b)^2)*(d-c)^2=((e-l)^2-(c+d)*(d-c)^2)*(k-b)^2):f^2-k-b=i^2-c-d:=by
 rw[j,p] at hx
 clear j p
 refine cancel h (mul_ne h (mul_ne h g g) (mul_ne h o o)) ?_
 grobner
theorem gen_y (h:NT.IsP P) {d k c m l g j p i o X:Fin P} (n:c-k≠0) (s:m-d≠0) (v:j-g=i*(c-k)) (w:p-l=o*(m-d)) (q:i^2-c-k=X)
 (f:((j-g)^2-(k+c)*(c-k)^2)*((p-l)*(c-k)-(j-g)*(m-d))+(c-k)^2*(((j-g)*k-g*(c-k))*(m-d)-((p-l)*d-l*(m-d))*(c-k))=0):i*(c-X)-j=o*(d-X)-l:=by
 rw[v,w] at f
 have t:j=g+i*(c-k):=by clear f q;grobner
 have r:c+k=i^2-X:=by clear f;grobner
 rw[t]
 obtain ⟨a,y⟩:∃ a,c-k=a:=⟨_,rfl⟩
 rw[y] at n f ⊢
 generalize m-d=b at s f
 have u:(o*(d-X)-l-(i*(k-X)-g))*(a*a*a*b)=0:=by
  have x:k+c=i^2-X:=by rw[← r];clear f;grobner
  rw[x] at f
  grobner
 rcases nzd h u with e|e
 ·have x:c=k+a:=by clear f u e r t q v w;grobner
  rw[x]
  grobner
 ·exact absurd e (mul_ne h (mul_ne h (mul_ne h n n) n) s)
theorem dbl_x (h:NT.IsP P) {c k d m b g f j:Fin P} (i:2*b≠0) (n:d-c≠0) (l:f*(2*b)=3*k^2) (o:g-m=j*(d-c))
 (hx:(9*k^4-8*k*b^2)*(d-c)^2=((g-m)^2-(c+d)*(d-c)^2)*(4*b^2)):f^2-k-k=j^2-c-d:=by
 rw[o] at hx
 refine cancel h (mul_ne h (mul_ne h i i) (mul_ne h n n)) ?_
 have e:9*k^4=(f*(2*b))*(f*(2*b)):=by rw[l];clear hx l;grobner
 rw[e] at hx
 grobner
theorem dbl_y (h:NT.IsP P) {c b i g k n d o X:Fin P} (j:2*k≠0) (p:i-c≠0) (f:d*(2*k)=3*b^2) (q:n-g=o*(i-c)) (m:d^2-b-b=X)
 (l:(3*b^2*(b*(4*k^2)-(9*b^4-8*b*k^2))-2*k^2*(4*k^2))*(i-c)=((n-g)*(c*(4*k^2)-(9*b^4-8*b*k^2))-g*(i-c)*(4*k^2))*(2*k)):d*(b-X)-k=o*(c-X)-g:=by
 rw[q] at l
 have e:9*b^4-8*b*k^2=X*(4*k^2):=by
  have r:9*b^4=(d*(2*k))*(d*(2*k)):=by rw[f];clear l f;grobner
  rw[r,← m]
  grobner
 rw[e,← f] at l
 clear e f m
 refine cancel h (mul_ne h (mul_ne h (mul_ne h j j) j) p) ?_
 grobner
end EC
namespace EC
variable {P:Nat} [NeZero P]
theorem sub_ne {a b:Fin P} (h:¬ a=b):a-b≠0:=fun e=>h (by grobner)
theorem Line.run {d c k b l:Fin P} (L:Line d c k b l):b-c=l*(k-d)∧c-b=l*(d-k):=by
 obtain ⟨a,-⟩:=L
 exact ⟨by grobner,by grobner⟩
theorem Line.at {x y l:Fin P} (L:Line x y x y l):l*(2*y)=3*x^2:=by
 obtain ⟨-,b⟩:=L
 grobner
theorem sq_mul {m l d:Fin P} (s:m^2=l^2):(m*d)^2=(l*d)^2:=by grobner
theorem four_of {b k:Fin P} (s:(b - -k)^2=(b-k)^2):4*(b*k)=0:=by grobner
theorem m_sq {m l c k b:Fin P} (r:m^2-k-c=b) (e:b=l^2-c-k):m^2=l^2:=by grobner
theorem sw_e {x l a b:Fin P} (e:x=l^2-a-b):x=l^2-b-a:=by grobner
theorem sw_f {b d c e g k l:Fin P} (L:Line b d c e l) (f:k=l*(b-g)-d):k=l*(c-g)-e:=by
 obtain ⟨a,-⟩:=L
 grobner
theorem four_ne (h:NT.IsP P) (k:(2:Fin P)≠0):(4:Fin P)≠0:=fun e=>by
 have:(2:Fin P)*2=0:=by grobner
 rcases nzd h this with e|e<;>exact k e
theorem opp_swap {y z:Fin P} (e:y = -z):z = -y:=by grobner
theorem assoc_far (h:NT.IsP P) (p:(2:Fin P)≠0) {b f d n i j m l k o c g:Fin P} (F:j^2=i^3+7) (I:f^2=b^3+7)
 (y:Line b f d n m) (s:Line d n i j l) (z:k=m^2-b-d) (w:o=m*(b-k)-f) (u:c=l^2-d-i) (a:g=l*(d-c)-n)
 (G:o^2=k^3+7) (J:g^2=c^3+7) (v:¬ (k=i∧j = -o)) (H:¬ (b=c∧g = -f)) (hx:¬ c=b) :
 add (some (k,o)) (some (i,j))=add (some (b,f)) (some (c,g)):=by
 have r:=slope_line h p G F v
 have q:=slope_line h p I J H
 rw[add_line h p G F v r,add_line h p I J H q]
 unfold third
 by_cases hd:k=i
 ·have K:=same_y h G (hd ▸ F) (fun e=>v ⟨hd,e⟩)
  subst hd K
  have t:=twice_ne (x:=k) h p v
  have D:=dbl_x h t (sub_ne hx) r.at q.run.1 (assoc_x2 b f d k m l n j c g y s z w u a)
  have E:=dbl_y h t (sub_ne hx) r.at q.run.1 rfl (assoc_y2 b f d k m l n j c g y s z w u a)
  rw[E,D]
 ·have D:=gen_x h (sub_ne hd) (sub_ne hx) r.run.2 q.run.1 (assoc_x b f d i m l n j k o c g y s z w u a)
  have E:=gen_y h (sub_ne hd) (sub_ne hx) r.run.2 q.run.1 rfl (assoc_y b f d i m l n j k o c g y s z w u a)
  rw[E,D]
theorem add_assoc (h:NT.IsP P) (l:(2:Fin P)≠0) (Y:∀ x:Fin P,x^3+7≠0) (a b c:Pt P) (g:On a) (k:On b) (n:On c):add (add a b) c=add a (add b c):=by
 have comm:=fun (a b:Pt P) (g:On a) (k:On b)=>add_comm h l a b g k
 have f:=add_on h l a b g k
 have i:=add_on h l b c k n
 have D:∀ {u v:Pt P},On u→On v→add (neg u) (add u v)=v:=fun hu hv=>neg_add_add h l Y hu hv
 by_cases z1:b=neg a
 ·subst z1
  rw[add_neg]
  have:=D k n
  rw[neg_neg'] at this
  exact this.symm
 by_cases Z:c=neg b
 ·subst Z
  rw[add_neg,add_none,comm _ _ f n,comm a b g k]
  exact D k g
 by_cases z3:c=neg (add a b)
 ·subst z3
  rw[add_neg]
  have e:add b (neg (add a b))=neg a:=by
   rw[comm a b g k,neg_add h l k g]
   have:=D (neg_on k) (neg_on g)
   rw[neg_neg'] at this
   exact this
  rw[e,add_neg]
 by_cases r:add b c=neg a
 ·rw[r,add_neg]
  have e:a=neg (add b c):=by rw[r,neg_neg']
  have j:add a b=neg c:=by
   rw[comm a b g k,e,neg_add h l k n]
   have:=D (neg_on k) (neg_on n)
   rw[neg_neg'] at this
   exact this
  rw[j,comm _ _ (neg_on n) n,add_neg]
 rcases a with _|⟨p,t⟩
 ·rfl
 rcases b with _|⟨j,q⟩
 ·rfl
 rcases c with _|⟨w,I⟩
 ·rw[add_none,add_none]
 have Q:¬ (p=j∧q = -t):=fun e=>z1 (by rw[e.1,e.2];rfl)
 have X:¬ (j=w∧I = -q):=fun e=>Z (by rw[e.1,e.2];rfl)
 have C:=slope_line h l g k Q
 have E:=slope_line h l k n X
 have B:=add_line h l g k Q C
 have A:=add_line h l k n X E
 rw[B] at f z3 ⊢
 rw[A] at i r ⊢
 generalize slope p t j q=l1 at C B f z3 ⊢
 generalize slope j q w I=l2 at E A i r ⊢
 unfold third at f i z3 r B A ⊢
 obtain ⟨G,H⟩:∃ G,G=l1^2-p-j:=⟨_,rfl⟩
 obtain ⟨J,R⟩:∃ J,J=l2^2-j-w:=⟨_,rfl⟩
 rw[← H] at f z3 B ⊢
 rw[← R] at i r A ⊢
 obtain ⟨K,T⟩:∃ K,K=l1*(p-G)-t:=⟨_,rfl⟩
 obtain ⟨L,V⟩:∃ L,L=l2*(j-J)-q:=⟨_,rfl⟩
 rw[← T] at f z3 B ⊢
 rw[← V] at i r A ⊢
 have O:¬ (G=w∧I = -K):=fun e=>z3 (by rw[e.2,← e.1];rfl)
 have U:¬ (p=J∧L = -t):=fun e=>r (by rw[e.2,← e.1];rfl)
 by_cases hx:J=p
 ·have hy:L=t:=by
   have s:=i
   rw[hx] at s
   exact same_y h g s (fun e=>U ⟨hx.symm,e⟩)
  by_cases hd:G=w
  ·exfalso
   have W:I=K:=by
    have s:=f
    exact same_y h s (hd ▸ n) (fun e=>O ⟨hd,e⟩)
   have N:=D k n
   rw[A,hx,hy] at N
   rw[hd,← W] at B
   have S:¬ p=j:=fun e=>by
    subst e
    have s:=same_y h g k (fun e=>Q ⟨rfl,e⟩)
    subst s
    rw[comm _ _ (neg_on k) g,add_neg] at N
    cases N
   have u1:¬ (j=p∧t = - -q):=fun e=>S e.1.symm
   have M:=slope_line h l (neg_on (a:=some (j,q)) k) g u1
   have r2:=add_line h l (neg_on (a:=some (j,q)) k) g u1 M
   have F:third j (-q) p (slope j (-q) p t)=some (w,I):=r2.symm.trans N
   generalize slope j (-q) p t=m at M F
   unfold third at F
   have r4:m^2-j-p=w:=by injection F with F;injection F
   have k1:=M.run.1
   have k2:=C.run.2
   rw[hd] at H
   have s2:=sq_mul (d:=p-j) (m_sq r4 H)
   rw[← k1,← k2] at s2
   have k3:=four_of s2
   have s:∀ {x y:Fin P},y^2=x^3+7→y≠0:=fun o z=>Y _ (no_y z o)
   rcases nzd h k3 with e|e
   ·exact four_ne h l e
   ·rcases nzd h e with e|e
    ·exact s g e
    ·exact s k e
  ·-- the same,from the other side
   have s:=assoc_far h l g n E.swap C.swap (sw_e R) (sw_f E V) (sw_e H) (sw_f C T) i f (fun e=>U ⟨e.1.symm,opp_swap e.2⟩) (fun e=>O ⟨e.1.symm,opp_swap e.2⟩) hd
   rw[comm _ _ f n,comm _ _ g i]
   exact s.symm
 ·exact assoc_far h l n g C E H T R V f i O U hx
end EC
namespace EC
variable {P:Nat} [NeZero P]
structure Cur (P:Nat) [NeZero P]:Prop where
 pr:NT.IsP P
 two:(2:Fin P)≠0
 sev:∀ x:Fin P,x^3+7≠0
theorem Cur.y_ne (C:Cur P) {a b:Fin P} (h:On (some (a,b))):b≠0:=fun e=>C.sev a (no_y e h)
theorem Cur.opp_ne (C:Cur P) {a b:Fin P} (h:On (some (a,b))):¬ (a=a∧b = -b):=fun e=>by
 have k:2*b=0:=by
  have:=e.2
  grobner
 exact mul_ne C.pr C.two (C.y_ne h) k
def Jac (x y z:Fin P):Pt P→Prop
 | none=>z=0
 | some (a,b)=>z≠0∧x=a*z^2∧y=b*z^3
def Pair (x y:Fin P):Pt P→Prop
 | none=>x=0∧y=0
 | some (a,b)=>x=a∧y=b
def dbl (n:Fin P):Fin P:=n+n
def twB (x y:Fin P):Fin P:=dbl (dbl (x*(y*y)))
def twS (x:Fin P):Fin P:=dbl (x*x)+x*x
def twX (x y:Fin P):Fin P:=twS x*twS x-dbl (twB x y)
def twY (x y:Fin P):Fin P:=twS x*(twB x y-twX x y)-dbl (dbl (dbl (y*y*(y*y))))
def twZ (y z:Fin P):Fin P:=dbl (y*z)
theorem tw_x {a b l x y z:Fin P} (g:l*(2*b)=3*a^2) (ex:x=a*z^2) (k:y=b*z^3):twX x y=(l^2-a-a)*twZ y z^2:=by
 subst ex k
 unfold twX twS twB twZ dbl
 grobner (ringSteps:=100000000)
theorem tw_y {a b l x y z X:Fin P} (g:l*(2*b)=3*a^2) (ex:x=a*z^2) (c:y=b*z^3) (k:twX x y=X*twZ y z^2):twY x y=(l*(a-X)-b)*twZ y z^3:=by
 subst ex c
 unfold twY
 rw[k]
 unfold twS twB twZ dbl
 grobner (ringSteps:=100000000)
theorem tw_z (C:Cur P) {b y z:Fin P} (c:b≠0) (k:z≠0) (f:y=b*z^3):twZ y z≠0:=fun e=>by
 have d:2*b*(z*z*(z*z))=0:=by
  unfold twZ dbl at e
  subst f
  grobner
 exact mul_ne C.pr (mul_ne C.pr C.two c) (mul_ne C.pr (mul_ne C.pr k k) (mul_ne C.pr k k)) d
theorem Jac.twice (C:Cur P) {x y z:Fin P} {p:Pt P} (h:Jac x y z p) (k:On p):Jac (twX x y) (twY x y) (twZ y z) (add p p):=by
 match p,h,k with
 | none,h,_ =>
  have c:=h
  show twZ y z=0
  subst c
  unfold twZ dbl
  grobner
 | some (a,b),h,k =>
  obtain ⟨d,ex,c⟩:=h
  have ho:=C.opp_ne k
  have L:=slope_line C.pr C.two k k ho
  rw[add_line C.pr C.two k k ho L]
  have hx:=tw_x L.at ex c
  exact ⟨tw_z C (C.y_ne k) d c,hx,tw_y L.at ex c hx⟩
def plAx (b k:Fin P):Fin P:=b*(k*k)
def plAy (b k:Fin P):Fin P:=b*(k*k)*k
def plX (k b bx c:Fin P):Fin P:=(c-b)*(c-b)-(bx-k)*(bx-k)*(bx-k)-dbl ((bx-k)*(bx-k)*k)
def plY (k b bx c:Fin P):Fin P:=(c-b)*((bx-k)*(bx-k)*k-plX k b bx c)-(bx-k)*(bx-k)*(bx-k)*b
def plZ (c b k bx:Fin P):Fin P:=c*b*(bx-k)
theorem pl_x {a b c d l t k f bx e Z:Fin P} (g:d-b=l*(c-a)) (o:k=a*t^2) (i:f=b*t^3) (e3:bx=c*t^2) (m:e=d*t^3) (j:Z=t*(bx-k)):plX k f bx e=(l^2-a-c)*Z^2:=by
 have n:d=b+l*(c-a):=by grobner
 subst n o i e3 m j
 unfold plX dbl
 grobner (ringSteps:=100000000)
theorem pl_y {a b c d l t k f bx e Z X:Fin P} (g:d-b=l*(c-a)) (i:k=a*t^2) (m:f=b*t^3) (e3:bx=c*t^2) (p:e=d*t^3) (o:Z=t*(bx-k)) (j:plX k f bx e=X*Z^2):plY k f bx e=(l*(a-X)-b)*Z^3:=by
 unfold plY
 rw[j]
 have n:d=b+l*(c-a):=by grobner
 subst n i m e3 p o
 grobner (ringSteps:=100000000)
theorem pl_same (C : Cur P) {a c t : Fin P} {k : Nat} (ht : t ≠ 0) (e : a * t ^ k = c * t ^ k) : a = c := by
  have hk : ∀ k : Nat, t ^ k ≠ 0 := fun k => by
    induction k with
    | zero => intro h; exact ht (by have h2 : (1 : Fin P) = 0 := by { rw [← h]; grind }; calc t = t * 1 := by grobner
                                    _ = 0 := by rw [h2]; grobner)
    | succ k ih => intro h; exact mul_ne C.pr ih ht (by rw [← h]; grind)
  exact cancel C.pr (hk k) e
theorem Jac.plus (C:Cur P) {m n f i o e:Fin P} {p q:Pt P} (h:Jac m n f p) (j:On p) (y:Jac i o e q) (l:On q) (E:f≠0) (F:e≠0) :
 (plAx m e=plAx i f∧plAy n e=plAy o f∧add p q=add p p) ∨
 (¬ (plAx m e=plAx i f∧plAy n e=plAy o f)∧Jac (plX (plAx m e) (plAy n e) (plAx i f) (plAy o f)) (plY (plAx m e) (plAy n e) (plAx i f) (plAy o f)) (plZ f e (plAx m e) (plAx i f)) (add p q)):=by
 match p,q,h,j,y,l with
 | none,_,h,_,_,_=>exact absurd h E
 | some (a,b),none,_,_,h,_=>exact absurd h F
 | some (a,b),some (c,d),h,j,y,l =>
  obtain ⟨-,z,B⟩:=h
  obtain ⟨-,A,w⟩:=y
  have v:=mul_ne C.pr E F
  have r:plAx m e=a*(f*e)^2:=by subst z;unfold plAx;clear j l;grobner
  have t:plAy n e=b*(f*e)^3:=by subst B;unfold plAy;clear j l;grobner
  have e3:plAx i f=c*(f*e)^2:=by subst A;unfold plAx;clear j l;grobner
  have u:plAy o f=d*(f*e)^3:=by subst w;unfold plAy;clear j l;grobner
  by_cases s:plAx m e=plAx i f∧plAy n e=plAy o f
  ·refine Or.inl ⟨s.1,s.2,?_⟩
   have D:a=c:=pl_same C v (by rw[← r,← e3];exact s.1)
   have g:b=d:=pl_same C v (by rw[← t,← u];exact s.2)
   rw[D,g]
  ·refine Or.inr ⟨s,?_⟩
   by_cases g:a=c
   ·have hd:d = -b:=Classical.byContradiction fun D=>s ⟨by rw[r,e3,g],by
     have:=same_y C.pr (x:=a) j (by rw[g];exact l) D
     rw[t,u,this]⟩
    rw[add_opp ⟨g,hd⟩]
    show plZ _ _ _ _=0
    rw[r,e3,g]
    unfold plZ
    grobner
   ·have ho:¬ (a=c∧d = -b):=fun h=>g h.1
    have L:=slope_line C.pr C.two j l ho
    rw[add_line C.pr C.two j l ho L]
    have D:plZ f e (plAx m e) (plAx i f)=f*e*(plAx i f-plAx m e):=rfl
    have hx:=pl_x L.run.1 r t e3 u D
    refine ⟨?_,hx,pl_y L.run.1 r t e3 u D hx⟩
    rw[D]
    refine mul_ne C.pr v (fun h=>g ?_)
    exact pl_same C (k:=2) v (by rw[← r,← e3];clear j l L hx;grobner)
theorem Jac.zero (C:Cur P) {x y z:Fin P} {p:Pt P} (h:Jac x y z p) (k:z=0):p=none:=by
 match p,h with
 | none,_=>rfl
 | some (a,b),h=>exact absurd k h.1
theorem Jac.neg {x y z:Fin P} {p:Pt P} (h:Jac x y z p):Jac x (0-y) z (neg p):=by
 match p,h with
 | none,h=>exact h
 | some (a,b),h=>exact ⟨h.1,h.2.1,by have:=h.2.2;show 0-y = -b*z^3;grobner⟩
theorem inv_zero (C:Cur P):inv (0:Fin P)=0:=by
 apply Fin.ext
 have k:=C.pr.1
 show (0:Fin P).val^(P-2)%P=_
 rw[val_zero]
 by_cases h:P=2
 ·exact absurd (Fin.ext (by rw[val_zero];show 2%P=0;rw[h])) C.two
 ·rw[Nat.zero_pow oM,Nat.zero_mod]
theorem Jac.pair (C:Cur P) {x y z:Fin P} {p:Pt P} (h:Jac x y z p):Pair (x*(inv z*inv z)) (y*(inv z*inv z)*inv z) p:=by
 match p,h with
 | none,h =>
  have k:=h
  subst k
  rw[inv_zero C]
  exact ⟨by grobner,by grobner⟩
 | some (a,b),h =>
  have c:=inv_mul C.pr h.1
  obtain ⟨-,ex,k⟩:=h
  subst ex k
  exact ⟨by grobner,by grobner⟩
theorem Pair.jac (C:Cur P) {x y:Fin P} {p:Pt P} (h:Pair x y p) (k:¬ (x=0∧y=0)):Jac x y 1 p:=by
 match p,h with
 | none,h=>exact absurd h k
 | some (a,b),h =>
  obtain ⟨ex,c⟩:=h
  subst ex c
  refine ⟨fun e=>?_,by grobner,by grobner⟩
  have:=congrArg Fin.val e
  rw[val_zero,val_one C.pr] at this
  omega
theorem Pair.nothing (C:Cur P) {x y:Fin P} {p:Pt P} (h:Pair x y p) (k:On p) (c:x=0∧y=0):p=none:=by
 match p,h,k with
 | none,_,_=>rfl
 | some (a,b),h,k =>
  obtain ⟨ex,d⟩:=h
  exact absurd (by rw[← d];exact c.2) (C.y_ne k)
end EC
namespace EC
variable {P:Nat} [NeZero P]
def mul:Nat→Pt P→Pt P
 | 0,_=>none
 | n+1,a=>add (mul n a) a
theorem none_on:On (none:Pt P):=trivial
theorem none_add (a:Pt P):add none a=a:=rfl
theorem Cur.on (C:Cur P) {a b:Pt P} (c:On a) (k:On b):On (add a b):=add_on C.pr C.two a b c k
theorem Cur.comm (C:Cur P) {a b:Pt P} (c:On a) (k:On b):add a b=add b a:=add_comm C.pr C.two a b c k
theorem Cur.assoc (C:Cur P) {a b c:Pt P} (d:On a) (k:On b) (e:On c):add (add a b) c=add a (add b c):=add_assoc C.pr C.two C.sev a b c d k e
theorem Cur.neg_l (C:Cur P) {a:Pt P} (k:On a):add (neg a) a=none:=by
 rw[C.comm (neg_on k) k,add_neg]
theorem Cur.swap (C:Cur P) {a b c d:Pt P} (f:On a) (k:On b) (e:On c) (hd:On d):add (add a b) (add c d)=add (add a c) (add b d):=by
 rw[C.assoc f k (C.on e hd),← C.assoc k e hd,C.comm k e,C.assoc e k hd,← C.assoc f e (C.on k hd)]
theorem mul_on (C:Cur P) {a:Pt P} (k:On a):∀ n,On (mul n a)
 | 0=>none_on
 | n+1=>C.on (mul_on C k n) k
theorem mul_add (C:Cur P) {a:Pt P} (k:On a) (m:Nat):∀ n,mul (m+n) a=add (mul m a) (mul n a)
 | 0=>(add_none _).symm
 | n+1=>by
  show add (mul (m+n) a) a=add (mul m a) (add (mul n a) a)
  rw[mul_add C k m n,C.assoc (mul_on C k m) (mul_on C k n) k]
def zmul:Int→Pt P→Pt P
 | .ofNat n,a=>mul n a
 | .negSucc n,a=>neg (mul (n+1) a)
theorem zmul_on (C:Cur P) {a:Pt P} (k:On a):∀ n,On (zmul n a)
 | .ofNat n=>mul_on C k n
 | .negSucc n=>neg_on (mul_on C k (n+1))
theorem zmul_succ (C:Cur P) {a:Pt P} (k:On a):∀ n,zmul (n+1) a=add (zmul n a) a
 | .ofNat n=>rfl
 | .negSucc 0=>by
  show (none:Pt P)=add (neg (add none a)) a
  rw[none_add,C.neg_l k]
 | .negSucc (n+1)=>by
  show neg (mul (n+1) a)=add (neg (add (mul (n+1) a) a)) a
  have b:=mul_on C k (n+1)
  rw[neg_add C.pr C.two b k,C.assoc (neg_on b) (neg_on k) k,C.neg_l k,add_none]
theorem zmul_pred (C:Cur P) {a:Pt P} (k:On a) (n:Int):zmul (n-1) a=add (zmul n a) (neg a):=by
 have h:=zmul_succ C k (n-1)
 rw[Int.sub_add_cancel] at h
 rw[h,C.assoc (zmul_on C k _) k (neg_on k),add_neg,add_none]
theorem zmul_nat (C:Cur P) {a:Pt P} (k:On a) (m:Int):∀ n:Nat,zmul (m+n) a=add (zmul m a) (zmul n a)
 | 0=>by rw[Int.natCast_zero,Int.add_zero];exact (add_none _).symm
 | n+1=>by
  rw[show m+((n+1:Nat):Int)=(m+n)+1 by omega,zmul_succ C k,zmul_nat C k m n,show ((n+1:Nat):Int)=(n:Int)+1 by omega,zmul_succ C k,
   C.assoc (zmul_on C k _) (zmul_on C k _) k]
theorem zmul_neg (C:Cur P) {a:Pt P} (k:On a):∀ n:Nat,zmul (-(n:Int)) a=neg (zmul n a)
 | 0=>rfl
 | n+1=>by
  have b:zmul (((n+1:Nat):Int)) a=add (zmul n a) a:=by rw[show ((n+1:Nat):Int)=(n:Int)+1 by omega,zmul_succ C k]
  rw[b,neg_add C.pr C.two (zmul_on C k _) k,← zmul_neg C k n,show -((n+1:Nat):Int) = -(n:Int)-1 by omega,zmul_pred C k]
theorem zmul_sub (C:Cur P) {a:Pt P} (k:On a) (m:Int):∀ n:Nat,zmul (m-n) a=add (zmul m a) (zmul (-(n:Int)) a)
 | 0=>by rw[Int.natCast_zero,Int.sub_zero];exact (add_none _).symm
 | n+1=>by
  rw[show m-((n+1:Nat):Int)=(m-n)-1 by omega,zmul_pred C k,zmul_sub C k m n,show -((n+1:Nat):Int) = -(n:Int)-1 by omega,zmul_pred C k,
   C.assoc (zmul_on C k _) (zmul_on C k _) (neg_on k)]
theorem zmul_add (C:Cur P) {a:Pt P} (b:On a) (m n:Int):zmul (m+n) a=add (zmul m a) (zmul n a):=by
 rcases Int.le_total 0 n with h|h
 ·obtain ⟨k,rfl⟩:=Int.eq_ofNat_of_zero_le h
  exact zmul_nat C b m k
 ·obtain ⟨k,c⟩:=Int.eq_ofNat_of_zero_le (show 0≤-n by omega)
  obtain rfl:n = -(k:Int):=oM
  rw[← zmul_sub C b m k,Int.sub_eq_add_neg]
theorem zmul_one (a:Pt P):zmul 1 a=a:=none_add a
theorem zmul_zero (a:Pt P):zmul 0 a=none:=rfl
def tot (a:Nat→Pt P):Nat→(Nat→Int)→Pt P
 | 0,_=>none
 | k+1,f=>add (tot a k f) (zmul (f k) (a k))
theorem tot_on (C:Cur P) {a:Nat→Pt P} (f:Nat→Int):∀ k,(∀ i,i<k→On (a i))→On (tot a k f)
 | 0,_=>none_on
 | k+1,h=>C.on (tot_on C f k fun i b=>h i oM) (zmul_on C (h k oM) _)
theorem tot_congr {a:Nat→Pt P} {f g:Nat→Int}:∀ k,(∀ i,i<k→f i=g i)→tot a k f=tot a k g
 | 0,_=>rfl
 | k+1,h=>by
  show add (tot a k f) _=add (tot a k g) _
  rw[tot_congr k (fun i b=>h i oM),h k oM]
theorem tot_zero (a:Nat→Pt P) {f:Nat→Int}:∀ k,(∀ i,i<k→f i=0)→tot a k f=none
 | 0,_=>rfl
 | k+1,h=>by
  show add (tot a k f) _=none
  rw[tot_zero a k (fun i b=>h i oM),h k oM]
  rfl
theorem tot_add (C:Cur P) {a:Nat→Pt P} (f g:Nat→Int):∀ k,(∀ i,i<k→On (a i))→tot a k (fun j=>f j+g j)=add (tot a k f) (tot a k g)
 | 0,_=>rfl
 | k+1,h=>by
  have c:∀ i,i<k→On (a i):=fun i d=>h i oM
  have b:=h k oM
  show add (tot a k _) (zmul (f k+g k) (a k))=add (add (tot a k f) (zmul (f k) (a k))) (add (tot a k g) (zmul (g k) (a k)))
  rw[tot_add C f g k c,zmul_add C b,C.swap (tot_on C f k c) (tot_on C g k c) (zmul_on C b _) (zmul_on C b _)]
theorem tot_one (C:Cur P) {a:Nat→Pt P} (i:Nat) (d:Int):∀ k,i<k→(∀ i,i<k→On (a i))→tot a k (fun j=>if j=i then d else 0)=zmul d (a i)
 | k+1,hi,h=>by
  show add (tot a k _) (zmul (if k=i then d else 0) (a k))=_
  by_cases b:k=i
  ·subst b
   rw[if_pos rfl,tot_zero a k (fun j c=>if_neg oM)]
   rfl
  ·rw[if_neg b,tot_one C i d k oM (fun j c=>h j oM)]
   exact add_none _
theorem tot_upd (C:Cur P) {a:Nat→Pt P} (f:Nat→Int) (i:Nat) (d:Int) (k:Nat) (c:i<k) (h:∀ i,i<k→On (a i)) :
 tot a k (fun j=>if j=i then f j+d else f j)=add (tot a k f) (zmul d (a i)):=by
 rw[← tot_one C i d k c h,← tot_add C f _ k h]
 refine tot_congr k fun j _=>?_
 by_cases b:j=i
 ·rw[if_pos b,if_pos b]
 ·rw[if_neg b,if_neg b,Int.add_zero]
theorem tot_twice (C:Cur P) {a:Nat→Pt P} (f:Nat→Int) (k:Nat) (h:∀ i,i<k→On (a i)):tot a k (fun j=>2*f j)=add (tot a k f) (tot a k f):=by
 rw[← tot_add C f f k h]
 exact tot_congr k fun j _=>oM
end EC
namespace EC
theorem sev_nat {P c:Nat} (i:NT.IsP P) (m:P=3*c+1) (l:7<P) (j:(P-7)^c%P≠1) (x:Nat):(x*x*x+7)%P≠0:=fun e=>by
 have hx:¬ P ∣ x:=fun hd=>by
  have b:P ∣ x*x*x:=Nat.dvd_mul_left_of_dvd hd _
  have k:P ∣ 7:=(Nat.dvd_add_right b).1 (Nat.dvd_of_mod_eq_zero e)
  have:=Nat.le_of_dvd dC k
  omega
 have b:=i.fermat1 x hx
 have k:x*x*x%P=P-7:=by
  have g:x*x*x%P<P:=Nat.mod_lt _ oM
  have d:(x*x*x%P+7)%P=0:=by rw[Nat.mod_add_mod];exact e
  by_cases f:x*x*x%P+7<P
  ·rw[Nat.mod_eq_of_lt f] at d;omega
  ·rw[Nat.mod_eq_sub_mod oM,Nat.mod_eq_of_lt oM] at d
   omega
 apply j
 rw[← k,← Nat.pow_mod]
 rw[← b]
 congr 1
 rw[show P-1=3*c by omega,Nat.pow_mul]
 congr 1
 rw[Nat.pow_succ,Nat.pow_succ,Nat.pow_one]
theorem cur_of {P c:Nat} [NeZero P] (b:NT.IsP P) (g:P=3*c+1) (f:7<P) (i:(P-7)^c%P≠1):Cur P:=by
 refine ⟨b,fun e=>?_,fun x e=>?_⟩
 ·have:=congrArg Fin.val e
  rw[val_zero] at this
  have k:(2:Fin P).val=2%P:=rfl
  rw[k,Nat.mod_eq_of_lt oM] at this
  omega
 ·have d:x*x*x+7=0:=by rw[← e];grobner
  have:=congrArg Fin.val d
  rw[val_zero,Fin.val_add,Fin.val_mul,Fin.val_mul] at this
  have k:(7:Fin P).val=7%P:=rfl
  rw[k,Nat.mod_mul_mod,Nat.mod_add_mod,Nat.add_mod_mod] at this
  exact sev_nat b g f i x.val this
theorem no_root:NT.pm 115792089237316195423570985008687907853269984665640564039457584007908834671663 256 (115792089237316195423570985008687907853269984665640564039457584007908834671663-7) 38597363079105398474523661669562635951089994888546854679819194669302944890554 1≠1:=dK
theorem pm_ne {P c k:Nat} (b:c<2^k) (d:1<P) (h:NT.pm P k (P-7) c 1≠1):(P-7)^c%P≠1:=fun e=>h (by rw[NT.pm_eq P k _ c 1 b d,Nat.one_mul];exact e)
theorem cur:∃ (P:Nat) (_:NeZero P),P=115792089237316195423570985008687907853269984665640564039457584007908834671663∧Cur P:=by
 have k:=NT.pP
 have g:=no_root
 have f:115792089237316195423570985008687907853269984665640564039457584007908834671663=3*38597363079105398474523661669562635951089994888546854679819194669302944890554+1:=dK
 have d:38597363079105398474523661669562635951089994888546854679819194669302944890554<2^256:=dK
 have e:7<115792089237316195423570985008687907853269984665640564039457584007908834671663:=dK
 generalize 38597363079105398474523661669562635951089994888546854679819194669302944890554=c at *
 generalize 115792089237316195423570985008687907853269984665640564039457584007908834671663=P at *
 have b:NeZero P:=⟨oM⟩
 exact ⟨P,b,rfl,cur_of k f e (pm_ne d oM g)⟩
end EC
section
open Go.RowKit Go.Sort
structure At4 (w:World) (k a b c d:Nat):Prop where
 c0:w.cell? ⟨k,0,none⟩=some (.int .u64 a)
 c1:w.cell? ⟨k,1,none⟩=some (.int .u64 b)
 c2:w.cell? ⟨k,2,none⟩=some (.int .u64 c)
 c3:w.cell? ⟨k,3,none⟩=some (.int .u64 d)
 f:∀ o,w.frozen? ⟨k,o,none⟩=false
variable {w w1:World} {k a b c d:Nat}
theorem At4.lt (h:At4 w k a b c d):k<w.heap.size:=World.block_lt_of_cell? _ _ h.c0
theorem At4.below {B:Nat} (h:At4 w k a b c d) (e:Below B w w1) (f:k<B):At4 w1 k a b c d:=
 ⟨by rw[e.cell (p:=⟨k,0,none⟩) f];exact h.c0,by rw[e.cell (p:=⟨k,1,none⟩) f];exact h.c1,by rw[e.cell (p:=⟨k,2,none⟩) f];exact h.c2,by rw[e.cell (p:=⟨k,3,none⟩) f];exact h.c3,
  fun o=>by rw[e.frozen (p:=⟨k,o,none⟩) f];exact h.f o⟩
theorem At4.call (h:At4 w k a b c d) (e:Below w.heap.size w w1):At4 w1 k a b c d:=h.below e h.lt
theorem At4.alloc (h:At4 w k a b c d) (o:Obj):At4 (w.alloc o) k a b c d:=h.call (below1 w o)
theorem At4.drewN (h:At4 w k a b c d) (q:Nat):At4 (w.drewN q) k a b c d:=⟨h.c0,h.c1,h.c2,h.c3,h.f⟩
theorem At4.new (w:World) (t:TypeId) (a b c d:Nat):At4 (w.alloc (.cells #[.int .u64 a,.int .u64 b,.int .u64 c,.int .u64 d] t)) w.heap.size a b c d:=
 ⟨by rw[World.cell?_alloc_new];rfl,by rw[World.cell?_alloc_new];rfl,by rw[World.cell?_alloc_new];rfl,by rw[World.cell?_alloc_new];rfl,fun o=>World.frozen?_alloc_new _ _ _ _⟩
theorem At4.made (w:World) (t:TypeId) (a b c d:Nat) {k:Nat} (e:w.heap.size=k):At4 (w.alloc (.cells #[.int .u64 a,.int .u64 b,.int .u64 c,.int .u64 d] t)) k a b c d:=
 e ▸ At4.new w t a b c d
theorem ne_addr {i j:Nat} {o k:Nat} (h:i≠j∨o≠k):(⟨i,o,none⟩:Addr)≠⟨j,k,none⟩:=by
 intro e
 simp only[Addr.mk.injEq,and_true] at e
 omega
theorem At4.other {j o : Nat} (h : At4 w k a b c d) (hj : j ≠ k) (v : Value) : At4 (w.setCell ⟨j, o, none⟩ v) k a b c d :=
  ⟨by rw [World.cell?_setCell_other _ _ _ _ (ne_addr (Or.inl hj))]; exact h.c0, by rw [World.cell?_setCell_other _ _ _ _ (ne_addr (Or.inl hj))]; exact h.c1,
   by rw [World.cell?_setCell_other _ _ _ _ (ne_addr (Or.inl hj))]; exact h.c2, by rw [World.cell?_setCell_other _ _ _ _ (ne_addr (Or.inl hj))]; exact h.c3, fun o => by rw [World.frozen?_setCell]; exact h.f o⟩
theorem At4.set0 (h : At4 w k a b c d) (x : Nat) : At4 (w.setCell ⟨k, 0, none⟩ (.int .u64 (x : Int))) k x b c d :=
  ⟨World.cell?_setCell_same _ _ _ h.c0, by rw [World.cell?_setCell_other _ _ _ _ (ne_addr (Or.inr dC))]; exact h.c1,
   by rw [World.cell?_setCell_other _ _ _ _ (ne_addr (Or.inr dC))]; exact h.c2, by rw [World.cell?_setCell_other _ _ _ _ (ne_addr (Or.inr dC))]; exact h.c3, fun o => by rw [World.frozen?_setCell]; exact h.f o⟩
theorem At4.set1 (h : At4 w k a b c d) (x : Nat) : At4 (w.setCell ⟨k, 1, none⟩ (.int .u64 (x : Int))) k a x c d :=
  ⟨by rw [World.cell?_setCell_other _ _ _ _ (ne_addr (Or.inr dC))]; exact h.c0, World.cell?_setCell_same _ _ _ h.c1,
   by rw [World.cell?_setCell_other _ _ _ _ (ne_addr (Or.inr dC))]; exact h.c2, by rw [World.cell?_setCell_other _ _ _ _ (ne_addr (Or.inr dC))]; exact h.c3, fun o => by rw [World.frozen?_setCell]; exact h.f o⟩
theorem At4.set2 (h : At4 w k a b c d) (x : Nat) : At4 (w.setCell ⟨k, 2, none⟩ (.int .u64 (x : Int))) k a b x d :=
  ⟨by rw [World.cell?_setCell_other _ _ _ _ (ne_addr (Or.inr dC))]; exact h.c0, by rw [World.cell?_setCell_other _ _ _ _ (ne_addr (Or.inr dC))]; exact h.c1,
   World.cell?_setCell_same _ _ _ h.c2, by rw [World.cell?_setCell_other _ _ _ _ (ne_addr (Or.inr dC))]; exact h.c3, fun o => by rw [World.frozen?_setCell]; exact h.f o⟩
theorem At4.set3 (h : At4 w k a b c d) (x : Nat) : At4 (w.setCell ⟨k, 3, none⟩ (.int .u64 (x : Int))) k a b c x :=
  ⟨by rw [World.cell?_setCell_other _ _ _ _ (ne_addr (Or.inr dC))]; exact h.c0, by rw [World.cell?_setCell_other _ _ _ _ (ne_addr (Or.inr dC))]; exact h.c1,
   by rw [World.cell?_setCell_other _ _ _ _ (ne_addr (Or.inr dC))]; exact h.c2, World.cell?_setCell_same _ _ _ h.c3, fun o => by rw [World.frozen?_setCell]; exact h.f o⟩
theorem At4.drew (h:At4 w k a b c d):At4 w.drew k a b c d:=⟨h.c0,h.c1,h.c2,h.c3,h.f⟩
def set4 (w:World) (k:Nat) (x y z t:Value):World:=(((w.setCell ⟨k,0,none⟩ x).setCell ⟨k,1,none⟩ y).setCell ⟨k,2,none⟩ z).setCell ⟨k,3,none⟩ t
theorem At4.self4 (h:At4 w k a b c d) (x y z t:Nat):At4 (set4 w k (.int .u64 x) (.int .u64 y) (.int .u64 z) (.int .u64 t)) k x y z t:=(((h.set0 x).set1 y).set2 z).set3 t
theorem At4.other4 {j:Nat} (h:At4 w k a b c d) (e:j≠k) (x y z t:Value):At4 (set4 w j x y z t) k a b c d:=(((h.other e x).other e y).other e z).other e t
theorem below_set4 {B j:Nat} {b:World} (h:Below B b w) (k:B≤j) (x y z t:Value):Below B b (set4 w j x y z t):=
 (((h.setCell (p:=⟨j,0,none⟩) k x).setCell (p:=⟨j,1,none⟩) k y).setCell (p:=⟨j,2,none⟩) k z).setCell (p:=⟨j,3,none⟩) k t
end
section
open Go.RowKit Go.Sort
variable {P:Nat} [NeZero P] {N:Nat}
structure FoldI (w wr:World) (g0 g1 g2 a b c d p q r s:Nat):Prop where
 bl:Below w.heap.size w wr
 pr:At4 wr w.heap.size g0 g1 g2 0
 lo:At4 wr (w.heap.size+1) a b c d
 hi:At4 wr (w.heap.size+1+1) p q r s
 re:At4 wr (w.heap.size+1+1+1) 0 0 0 0
 ha:a<18446744073709551616
 hb:b<18446744073709551616
 hc:c<18446744073709551616
 hd:d<18446744073709551616
 hp:p<18446744073709551616
 hq:q<18446744073709551616
 hr:r<18446744073709551616
 hs:s<18446744073709551616
theorem fold_end {a b c d p q r s i f g t k P gk:Nat} (v:P+val i f g 0=top) (l:top<2*P) (n:val a b c d<top) (m:gk=val a b c d+top*val 0 0 0 0)
 (o:t+top*k=val a b c d+val i f g 0) (e:k≤1) (j:t=val p q r s) (u:t<top):(k=0→val a b c d=gk%P)∧(k=1→val p q r s=gk%P):=by
 have e:gk=val a b c d:=by rw[m];rfl
 rw[e]
 refine ⟨fun h=>?_,fun h=>?_⟩
 ·subst h
  rw[Nat.mod_eq_of_lt oM]
 ·subst h
  rw[← j,Nat.mod_eq_sub_mod oM,Nat.mod_eq_of_lt oM]
  omega
theorem val_pos {p q r s:Nat} (h:¬ (p=0∧q=0∧r=0∧s=0)):0<val p q r s:=by unfold val;omega
theorem fold_less {x h g P gk:Nat} (k:0<h) (d:P+g=top) (b:top<2*P) (c:gk=x+top*h):x+g*h<gk∧(x+g*h)%P=gk%P:=by
 have e:gk=x+g*h+P*h:=by rw[c,← d,Nat.add_mul];omega
 rw[e,Nat.add_mul_mod_self_left]
 have:0<P*h:=Nat.mul_pos oM k
 exact ⟨oM,rfl⟩
theorem fold_one {l t a b c d g h x:Nat} (f:g*h+x=l+18446744073709551616*t) (k:t=val a b c d):val l a b c+top*val d 0 0 0=x+val g 0 0 0*h:=by
 have e:val g 0 0 0=g:=by unfold val;omega
 rw[e]
 unfold val at *
 unfold top
 omega
theorem val_mul (c b k h:Nat):val c b k 0*h=c*h+18446744073709551616*(b*h)+340282366920938463463374607431768211456*(k*h):=by
 unfold val
 rw[Nat.add_mul,Nat.add_mul,Nat.add_mul,Nat.mul_assoc,Nat.mul_assoc]
 omega
theorem fold_three {s q m l i j h x a b c d n o r p e f g k:Nat} (v:s+18446744073709551616*val a b c d=l*h+x)
 (t:q+18446744073709551616*val n o r p=i*h+val a b c d) (u:m+18446744073709551616*val e f g k=j*h+val n o r p) :
 val s q m e+top*val f g k 0=x+val l i j 0*h:=by
 rw[val_mul]
 unfold val at *
 unfold top
 omega
theorem fold_any (g0 g1 g2:Nat) (x y:Value) (m n P:Nat) (hm:g0<18446744073709551616) (kh:g1<18446744073709551616) (k6:g2<18446744073709551616)
 (hor:(g1=0∧g2=0)∨∃ o:Nat,bits .or .u64 (g1:Int) (g2:Int)=(o:Int)∧o≠0) (hP:P+val g0 g1 g2 0=top) (kb:top<2*P) (hx:Four x m) (hy:Four y n) (w:World) :
 Calls Tryz.prog 155 #[.agg #[.int .u64 g0,.int .u64 g1,.int .u64 g2,.int .u64 0],x,y] w (Ret fun e w'=>Below w.heap.size w w'∧Four e ((m+top*n)%P)):=by
 obtain ⟨a,b,c,d,rfl,ha,hb,hc,hd,em⟩:=hx
 obtain ⟨p,q,r,s,rfl,hp,hq,hr,hs,en⟩:=hy
 go_enter Tryz.func155,Tryz.ntmps155
 go_wp2
 go_loopg [] (val a b c d+top*val p q r s) (fun g wr=>∃ (a b c d p q r s:Nat),FoldI w wr g0 g1 g2 a b c d p q r s∧g=val a b c d+top*val p q r s∧Hid (g%P=(m+top*n)%P))
 case atStart =>
  have f:=below4 w (.cells #[.int .u64 g0,.int .u64 g1,.int .u64 g2,.int .u64 0] 78) (.cells #[.int .u64 a,.int .u64 b,.int .u64 c,.int .u64 d] 76) (.cells #[.int .u64 p,.int .u64 q,.int .u64 r,.int .u64 s] 76) (.cells #[.int .u64 0,.int .u64 0,.int .u64 0,.int .u64 0] 76)
  refine ⟨a,b,c,d,p,q,r,s,⟨f,?_,?_,?_,?_,ha,hb,hc,hd,hp,hq,hr,hs⟩,rfl,?_⟩
  ·exact (((At4.new w 78 g0 g1 g2 0).alloc _).alloc _).alloc _
  ·exact ((At4.made (w.alloc _) 76 a b c d (World.size_alloc _ _)).alloc _).alloc _
  ·exact (At4.made ((w.alloc _).alloc _) 76 p q r s (by simp)).alloc _
  ·exact At4.made (((w.alloc _).alloc _).alloc _) 76 0 0 0 0 (by simp)
  ·rw[em,en];rfl
 case round =>
  obtain ⟨a,b,c,d,p,q,r,s,hI,hg,HE⟩:=hrel
  clear em en ha hb hc hd hp hq hr hs
  obtain ⟨bl,pr,lo,hi,re,ha,hb,hc,hd,hp,hq,hr,hs⟩:=hI
  have HB:Hid (Below w.heap.size w wr):=bl
  clear bl
  generalize L:w.heap.size+1+1+1=B at re ⊢
  generalize G:w.heap.size+1+1=k2 at hi ⊢
  generalize D:w.heap.size+1=k1 at lo ⊢
  have H:Hid (w.heap.size+1=k1∧w.heap.size+1+1=k2∧w.heap.size+1+1+1=B):=⟨D,G,L⟩
  generalize K:w.heap.size=C at pr HB ⊢
  have H0:Hid (w.heap.size=C):=K
  have kg:Hid (C≤k1):=by unfold Hid;omega
  have Q:C≠k1:=oM
  have ki:C≠k2:=oM
  have kv:C≠B:=oM
  have n12:k1≠k2:=oM
  have T:k1≠B:=oM
  have kf:k2≠B:=oM
  have z0:=pr.lt
  have z1:=lo.lt
  have z2:=hi.lt
  have z3:=re.lt
  clear K D G L
  by_cases hz:p=0∧q=0∧r=0∧s=0
  ·obtain ⟨rfl,rfl,rfl,rfl⟩:=hz
   obtain ⟨p0,p1,p2,p3,pf⟩:=id pr
   obtain ⟨l0,l1,l2,l3,lf⟩:=id lo
   obtain ⟨K,D,G,L,hf⟩:=id hi
   obtain ⟨E,r1,J,r3,rf⟩:=id re
   go_wp2_with fail
   refine (plus_any _ _ _ _ (Four.mk ha hb hc hd rfl) (Four.mk hm kh k6 dC rfl) _).mono ?_
   rintro e w1 ⟨v,rfl,f,v4,t,k,rfl,⟨Z,Y,S,U,rfl,V,X,W,R,I⟩,hk,N⟩
   have z:=fold_end hP kb (val_lt ha hb hc hd) hg N hk I (I ▸ val_lt V X W R)
   rw[HE.out] at z
   have HF:Hid _:=z
   clear z
   clear p0 p1 p2 p3 pf l0 l1 l2 l3 lf K D G L hf E r1 J r3 rf N I hg HE
   have j:=lo.call f
   have i:=re.call f
   have z3:=i.lt
   have z1:=j.lt
   have F:Hid (Below C w w1):=HB.trans (f.mono oM)
   obtain ⟨l0,l1,l2,l3,lf⟩:=id j
   obtain ⟨E,r1,J,r3,rf⟩:=id i
   have A:k=0∨k=1:=oM
   rcases A with rfl|rfl
   ·go_wp2
    have u:=((((i.set0 a).set1 b).set2 c).set3 d).alloc (.cells #[.int .u64 Z,.int .u64 Y,.int .u64 S,.int .u64 U] 76)
    refine bodyPost_ret (v:=?v0) ?hr0 rfl ?hR0
    case hr0=>simp[results,Tryz.results155,go_sem,u.c0,u.c1,u.c2,u.c3];rfl
    refine ⟨_,rfl,?_,Four.mk ha hb hc hd (HF.1 trivial).symm⟩
    rw[H0.out]
    have O:C≤B:=by have:=H.out;have:=H0.out;omega
    have q1:=(((F.setCell (p:=⟨B,0,none⟩) O (.int .u64 a)).setCell (p:=⟨B,1,none⟩) O (.int .u64 b)).setCell (p:=⟨B,2,none⟩) O (.int .u64 c)).setCell (p:=⟨B,3,none⟩) O (.int .u64 d)
    exact q1.alloc (by simp;omega) _
   ·go_wp2
    have u:=((((i.set0 Z).set1 Y).set2 S).set3 U).alloc (.cells #[.int .u64 Z,.int .u64 Y,.int .u64 S,.int .u64 U] 76)
    refine bodyPost_ret (v:=?v1) ?hr1 rfl ?hR1
    case hr1=>simp[results,Tryz.results155,go_sem,u.c0,u.c1,u.c2,u.c3];rfl
    refine ⟨_,rfl,?_,Four.mk V X W R (HF.2 trivial).symm⟩
    rw[H0.out]
    have O:C≤B:=by have:=H.out;have:=H0.out;omega
    have q1:=(((F.setCell (p:=⟨B,0,none⟩) O (.int .u64 Z)).setCell (p:=⟨B,1,none⟩) O (.int .u64 Y)).setCell (p:=⟨B,2,none⟩) O (.int .u64 S)).setCell (p:=⟨B,3,none⟩) O (.int .u64 U)
    exact q1.alloc (by simp;omega) _
  ·go_upto_region 1 with fail
   go_cut [12] from 10 to 72 (fun c wx=>c=.bool true∧wr=wx)
   case first =>
    obtain ⟨K,D,G,L,hf⟩:=id hi
    go_wp2_with fail
    all_goals (go_meet;exact ⟨rfl,rfl⟩)
   case rest =>
    obtain ⟨rfl,rfl⟩:=hcut
    have h8:=fold_less (val_pos hz) hP kb hg
    clear hz
    obtain ⟨p0,p1,p2,p3,pf⟩:=id pr
    obtain ⟨l0,l1,l2,l3,lf⟩:=id lo
    obtain ⟨K,D,G,L,hf⟩:=id hi
    rcases hor with ⟨rfl,rfl⟩|⟨o,ho,ku⟩
    ·have hor:bits .or .u64 0 0=0:=dK
     go_wp2_with fail
     refine (row_any g0 _ _ _ _ hm (Four.mk hp hq hr hs rfl) (Four.mk ha hb hc hd rfl) _).mono ?_
     rintro e w1 ⟨v,rfl,f,l,v4,t,rfl,hl,⟨Z,Y,S,U,rfl,V,X,W,R,I⟩,N⟩
     have j:=(lo.alloc _).call f
     have z:=(hi.alloc _).call f
     have A:=(pr.alloc _).call f
     have i:=(re.alloc _).call f
     have u:=(At4.new wr 76 0 0 0 0).call f
     have F:Hid (Below C w w1):=(HB.alloc oM _).trans (f.mono (by simp;omega))
     clear f p0 p1 p2 p3 pf l0 l1 l2 l3 lf K D G L hf lo hi pr re
     generalize ht:wr.heap.size=k4 at u z0 z1 z2 z3 ⊢
     clear ht
     have m0:C≠k4:=oM
     have m1:k1≠k4:=oM
     have m2:k2≠k4:=oM
     have m3:B≠k4:=oM
     have M:Hid (C<k4):=z0
     clear z0 z1 z2 z3
     have z0:=A.lt
     have z1:=j.lt
     have z2:=z.lt
     have z3:=i.lt
     have z4:=u.lt
     have E:Hid (g0*val p q r s+val a b c d=l+18446744073709551616*t∧t=val Z Y S U):=⟨N.symm,I⟩
     have HL:Hid (_∧_):=h8
     clear N I h8 hg
     obtain ⟨p0,p1,p2,p3,pf⟩:=id A
     obtain ⟨l0,l1,l2,l3,lf⟩:=id j
     obtain ⟨K,D,G,L,hf⟩:=id z
     obtain ⟨t0,t1,t2,t3,tf⟩:=id u
     go_wp2
     go_region
     go_wp2
     obtain ⟨q1,q2,q3⟩:=H.out
     have O:=H0.out
     subst q1 q2 q3 O
     go_roundg (val l Z Y S+top*val U 0 0 0)
     case measure=>rw[fold_one E.1 E.2];exact HL.1
     case rel =>
      refine ⟨l,Z,Y,S,U,0,0,0,⟨?_,?_,?_,?_,?_,hl,V,X,W,R,dC,dC,dC⟩,rfl,?_⟩
      ·have s1:=(F.setCell (p:=⟨w.heap.size+1,0,none⟩) (Nat.le_succ _) (.int .u64 l))
       exact (below_set4 (below_set4 (below_set4 s1 (Nat.le_of_lt M.out) _ _ _ _) (Nat.le_succ _) _ _ _ _) oM _ _ _ _).drew
      ·exact ((((A.other Q.symm _).other4 m0.symm _ _ _ _).other4 Q.symm _ _ _ _).other4 ki.symm _ _ _ _).drew
      ·exact ((((j.set0 l).other4 m1.symm _ _ _ _).self4 l Z Y S).other4 n12.symm _ _ _ _).drew
      ·exact ((((z.other n12 _).other4 m2.symm _ _ _ _).other4 n12 _ _ _ _).self4 U 0 0 0).drew
      ·exact ((((i.other T _).other4 m3.symm _ _ _ _).other4 T _ _ _ _).other4 kf _ _ _ _).drew
      ·unfold Hid
       rw[fold_one E.1 E.2,← HE.out]
       exact HL.2
    ·go_wp2_with fail
     refine (row_any g0 _ _ _ _ hm (Four.mk hp hq hr hs rfl) (Four.mk ha hb hc hd rfl) _).mono ?_
     rintro e w1 ⟨v,rfl,f,l,v4,t,rfl,hl,⟨Z,Y,S,U,rfl,V,X,W,R,I⟩,N⟩
     have j:=(lo.alloc _).call f
     have z:=(hi.alloc _).call f
     have A:=(pr.alloc _).call f
     have i:=(re.alloc _).call f
     have u:=(At4.new wr 76 0 0 0 0).call f
     have F:Hid (Below C w w1):=(HB.alloc oM _).trans (f.mono (by simp;omega))
     clear f p0 p1 p2 p3 pf l0 l1 l2 l3 lf K D G L hf lo hi pr re
     generalize ht:wr.heap.size=k4 at u z0 z1 z2 z3 ⊢
     clear ht
     have m0:C≠k4:=oM
     have m1:k1≠k4:=oM
     have m2:k2≠k4:=oM
     have m3:B≠k4:=oM
     have M:Hid (C<k4):=z0
     clear z0 z1 z2 z3
     have ka:Hid (l+18446744073709551616*val Z Y S U=g0*val p q r s+val a b c d):=by unfold Hid;rw[← I];exact N
     have HL:Hid (_∧_):=h8
     clear N I h8 hg
     have z0:=A.lt
     have z1:=j.lt
     have z2:=z.lt
     have z3:=i.lt
     have z4:=u.lt
     obtain ⟨p0,p1,p2,p3,pf⟩:=id A
     obtain ⟨l0,l1,l2,l3,lf⟩:=id j
     obtain ⟨K,D,G,L,hf⟩:=id z
     obtain ⟨t0,t1,t2,t3,tf⟩:=id u
     go_wp2_with fail
     refine (row_any g1 _ _ _ _ kh (Four.mk hp hq hr hs rfl) (Four.mk V X W R rfl) _).mono ?_
     rintro e w2 ⟨v,rfl,E,l',v5,t,rfl,ko,⟨a2,b2,c2,d2,rfl,kk,ke,kt,km,I⟩,N⟩
     have h5:=((j.set0 l).other4 m1.symm _ _ _ _).call E
     have h6:=((z.other n12 _).other4 m2.symm _ _ _ _).call E
     have h9:=((A.other Q.symm _).other4 m0.symm _ _ _ _).call E
     have hj:=((i.other T _).other4 m3.symm _ _ _ _).call E
     have h7:=((u.other m1 _).self4 Z Y S U).call E
     have k9:Hid (Below C w w2):=((below_set4 (F.setCell (p:=⟨k1,0,none⟩) kg.out _) (Nat.le_of_lt M.out) _ _ _ _).trans (E.mono (by simp;omega)))
     clear E p0 p1 p2 p3 pf l0 l1 l2 l3 lf K D G L hf t0 t1 t2 t3 tf j z A i u F z0 z1 z2 z3 z4
     have k8:Hid (l'+18446744073709551616*val a2 b2 c2 d2=g1*val p q r s+val Z Y S U):=by unfold Hid;rw[← I];exact N
     clear N I
     have z0:=h9.lt
     have z1:=h5.lt
     have z2:=h6.lt
     have z3:=hj.lt
     have z4:=h7.lt
     obtain ⟨p0,p1,p2,p3,pf⟩:=id h9
     obtain ⟨l0,l1,l2,l3,lf⟩:=id h5
     obtain ⟨K,D,G,L,hf⟩:=id h6
     obtain ⟨t0,t1,t2,t3,tf⟩:=id h7
     go_wp2_with fail
     refine (row_any g2 _ _ _ _ k6 (Four.mk hp hq hr hs rfl) (Four.mk kk ke kt km rfl) _).mono ?_
     rintro e w3 ⟨v,rfl,J,h4,v6,t,rfl,k7,⟨a3,b3,c3,d3,rfl,kn,kd,kr,kp,I⟩,N⟩
     have hu:=((h5.set1 l').other4 m1.symm _ _ _ _).call J
     have hn:=((h6.other n12 _).other4 m2.symm _ _ _ _).call J
     have kc:=((h9.other Q.symm _).other4 m0.symm _ _ _ _).call J
     have k5:=((hj.other T _).other4 m3.symm _ _ _ _).call J
     have hw:=((h7.other m1 _).self4 a2 b2 c2 d2).call J
     have kl:Hid (Below C w w3):=((below_set4 (k9.setCell (p:=⟨k1,1,none⟩) kg.out _) (Nat.le_of_lt M.out) _ _ _ _).trans (J.mono (by simp;omega)))
     clear J p0 p1 p2 p3 pf l0 l1 l2 l3 lf K D G L hf t0 t1 t2 t3 tf h5 h6 h9 hj h7 k9 z0 z1 z2 z3 z4
     have kj:Hid (h4+18446744073709551616*val a3 b3 c3 d3=g2*val p q r s+val a2 b2 c2 d2):=by unfold Hid;rw[← I];exact N
     clear N I
     have z0:=kc.lt
     have z1:=hu.lt
     have z2:=hn.lt
     have z3:=k5.lt
     have z4:=hw.lt
     obtain ⟨l0,l1,l2,l3,lf⟩:=id hu
     obtain ⟨K,D,G,L,hf⟩:=id hn
     obtain ⟨t0,t1,t2,t3,tf⟩:=id hw
     go_wp2
     go_region
     go_wp2
     clear l0 l1 l2 l3 lf K D G L hf t0 t1 t2 t3 tf
     obtain ⟨q1,q2,q3⟩:=H.out
     have O:=H0.out
     subst q1 q2 q3 O
     go_roundg (val l l' h4 a3+top*val b3 c3 d3 0)
     case measure=>rw[fold_three ka.out k8.out kj.out];exact HL.1
     case rel =>
      refine ⟨l,l',h4,a3,b3,c3,d3,0,⟨?_,?_,?_,?_,?_,hl,ko,k7,kn,kd,kr,kp,dC⟩,rfl,?_⟩
      ·have s1:=(kl.setCell (p:=⟨w.heap.size+1,2,none⟩) (Nat.le_succ _) (.int .u64 h4))
       have s2:=(below_set4 s1 (Nat.le_of_lt M.out) (.int .u64 a3) (.int .u64 b3) (.int .u64 c3) (.int .u64 d3))
       exact (below_set4 (s2.setCell (p:=⟨w.heap.size+1,3,none⟩) (Nat.le_succ _) (.int .u64 a3)) oM _ _ _ _).drew
      ·exact ((((kc.other Q.symm _).other4 m0.symm _ _ _ _).other Q.symm _).other4 ki.symm _ _ _ _).drew
      ·exact ((((hu.set2 h4).other4 m1.symm _ _ _ _).set3 a3).other4 n12.symm _ _ _ _).drew
      ·exact ((((hn.other n12 _).other4 m2.symm _ _ _ _).other n12 _).self4 b3 c3 d3 0).drew
      ·exact ((((k5.other T _).other4 m3.symm _ _ _ _).other T _).other4 kf _ _ _ _).drew
      ·unfold Hid
       rw[fold_three ka.out k8.out kj.out,← HE.out]
       exact HL.2
end
section
open Go.RowKit Go.Sort
structure At8 (w:World) (k a b c d e f g h:Nat):Prop where
 c0:w.cell? ⟨k,0,none⟩=some (.int .u64 a)
 c1:w.cell? ⟨k,1,none⟩=some (.int .u64 b)
 c2:w.cell? ⟨k,2,none⟩=some (.int .u64 c)
 c3:w.cell? ⟨k,3,none⟩=some (.int .u64 d)
 c4:w.cell? ⟨k,4,none⟩=some (.int .u64 e)
 c5:w.cell? ⟨k,5,none⟩=some (.int .u64 f)
 c6:w.cell? ⟨k,6,none⟩=some (.int .u64 g)
 c7:w.cell? ⟨k,7,none⟩=some (.int .u64 h)
 fz:∀ o,w.frozen? ⟨k,o,none⟩=false
variable {w w1:World} {k a b c d e f g h:Nat}
theorem At8.made (w:World) (t:TypeId) (a b c d e f g h:Nat) {k:Nat} (i:w.heap.size=k):At8 (w.alloc (.cells #[.int .u64 a,.int .u64 b,.int .u64 c,.int .u64 d,.int .u64 e,.int .u64 f,.int .u64 g,.int .u64 h] t)) k a b c d e f g h:=by
 subst i
 exact ⟨by rw[World.cell?_alloc_new];rfl,by rw[World.cell?_alloc_new];rfl,by rw[World.cell?_alloc_new];rfl,by rw[World.cell?_alloc_new];rfl,by rw[World.cell?_alloc_new];rfl,by rw[World.cell?_alloc_new];rfl,by rw[World.cell?_alloc_new];rfl,by rw[World.cell?_alloc_new];rfl,fun o=>World.frozen?_alloc_new _ _ _ _⟩
theorem belowDrewN {B:Nat} {k:World} (H:Below B k w) (q:Nat):Below B k (w.drewN q):=⟨H.os,H.tape,H.output,H.size,H.block⟩
end
section
open Go.RowKit Go.Sort
variable {P:Nat} [NeZero P] {N:Nat}
structure Gap (g0 g1 g2 P:Nat):Prop where
 h0:g0<18446744073709551616
 h1:g1<18446744073709551616
 h2:g2<18446744073709551616
 hor:(g1=0∧g2=0)∨∃ o:Nat,bits .or .u64 (g1:Int) (g2:Int)=(o:Int)∧o≠0
 hP:P+val g0 g1 g2 0=top
 hP2:top<2*P
 hg:0<val g0 g1 g2 0
theorem blcall {k a b c d:Nat} {w W e:World} (h:Hid (Below k w W)) (pr:At4 W k a b c d) (f:Below W.heap.size W e):Hid (Below k w e):=h.trans (f.mono (Nat.le_of_lt pr.lt))
end
section
open Go.RowKit Go.Sort
structure Blk where
 k:Nat
 o:Nat
 a:Nat
 b:Nat
 c:Nat
 d:Nat
structure Blk.at (x:Blk) (w:World):Prop where
 c0:w.cell? ⟨x.k,x.o,none⟩=some (.int .u64 (x.a:Int))
 c1:w.cell? ⟨x.k,x.o+1,none⟩=some (.int .u64 (x.b:Int))
 c2:w.cell? ⟨x.k,x.o+2,none⟩=some (.int .u64 (x.c:Int))
 c3:w.cell? ⟨x.k,x.o+3,none⟩=some (.int .u64 (x.d:Int))
 f:∀ o,w.frozen? ⟨x.k,o,none⟩=false
structure Kept (w:World) (k0:Nat) (l:List Blk) (W:World):Prop where
 bl:Below k0 w W
 le:k0≤W.heap.size
 at':∀ x∈l,x.at W
variable {w W w1:World} {k0:Nat} {l:List Blk} {x:Blk}
theorem Blk.at.lt (h:x.at W):x.k<W.heap.size:=World.block_lt_of_cell? _ _ h.c0
theorem Blk.at.call (h:x.at W) (k:Below W.heap.size W w1):x.at w1:=
 ⟨by rw[k.cell (p:=⟨x.k,x.o,none⟩) h.lt];exact h.c0,by rw[k.cell (p:=⟨x.k,x.o+1,none⟩) h.lt];exact h.c1,by rw[k.cell (p:=⟨x.k,x.o+2,none⟩) h.lt];exact h.c2,by rw[k.cell (p:=⟨x.k,x.o+3,none⟩) h.lt];exact h.c3,
  fun o=>by rw[k.frozen (p:=⟨x.k,o,none⟩) h.lt];exact h.f o⟩
theorem Blk.at.other {j i : Nat} (h : x.at W) (hj : j ≠ x.k) (v : Value) : x.at (W.setCell ⟨j, i, none⟩ v) :=
  ⟨by rw [World.cell?_setCell_other _ _ _ _ (ne_addr (Or.inl hj))]; exact h.c0, by rw [World.cell?_setCell_other _ _ _ _ (ne_addr (Or.inl hj))]; exact h.c1,
   by rw [World.cell?_setCell_other _ _ _ _ (ne_addr (Or.inl hj))]; exact h.c2, by rw [World.cell?_setCell_other _ _ _ _ (ne_addr (Or.inl hj))]; exact h.c3, fun o => by rw [World.frozen?_setCell]; exact h.f o⟩
theorem Kept.call (h:Kept w k0 l W) (k:Below W.heap.size W w1):Kept w k0 l w1:=
 ⟨h.bl.trans (k.mono h.le),Nat.le_trans h.le k.size,fun x hx=>(h.at' x hx).call k⟩
theorem Kept.drew (h:Kept w k0 l W):Kept w k0 l W.drew:=⟨h.bl.drew,h.le,fun x hx=>⟨(h.at' x hx).c0,(h.at' x hx).c1,(h.at' x hx).c2,(h.at' x hx).c3,(h.at' x hx).f⟩⟩
theorem Kept.undrew (h:Kept w k0 l W.drew):Kept w k0 l W:=
 ⟨⟨h.bl.os,h.bl.tape,h.bl.output,h.bl.size,h.bl.block⟩,h.le,fun x hx=>⟨(h.at' x hx).c0,(h.at' x hx).c1,(h.at' x hx).c2,(h.at' x hx).c3,(h.at' x hx).f⟩⟩
theorem Kept.alloc (h:Kept w k0 l W) (o:Obj):Kept w k0 l (W.alloc o):=h.call (below1 W o)
theorem Kept.set {j i:Nat} (h:Kept w k0 l W) (b:k0≤j) (k:∀ x∈l,j≠x.k) (v:Value):Kept w k0 l (W.setCell ⟨j,i,none⟩ v):=
 ⟨h.bl.setCell (p:=⟨j,i,none⟩) b v,by simpa using h.le,fun x hx=>(h.at' x hx).other (k x hx) v⟩
theorem Kept.set4 {j:Nat} (h:Kept w k0 l W) (b:k0≤j) (k:∀ x∈l,j≠x.k) (p q r s:Value):Kept w k0 l (Go.Proofs.YtlofhpkoaljmeaaGreat.set4 W j p q r s):=
 (((h.set b k p).set b k q).set b k r).set b k s
theorem Kept.set4' {j:Nat} (h:Kept w k0 l W) (b:k0≤j) (k:∀ x∈l,j≠x.k) (p q r s:Value) :
 Kept w k0 l ((((W.setCell ⟨j,0,none⟩ p).setCell ⟨j,1,none⟩ q).setCell ⟨j,2,none⟩ r).setCell ⟨j,3,none⟩ s):=h.set4 b k p q r s
theorem Kept.lts (h:Kept w k0 l W):∀ x∈l,x.k<W.heap.size:=fun x hx=>(h.at' x hx).lt
theorem Kept.head (h:Kept w k0 (x :: l) W):x.at W:=h.at' x (List.mem_cons_self)
theorem Kept.tail (h:Kept w k0 (x :: l) W):Kept w k0 l W:=⟨h.bl,h.le,fun y k=>h.at' y (List.mem_cons_of_mem _ k)⟩
theorem At4.blk {k a b c d:Nat} (h:At4 W k a b c d):(Blk.mk k 0 a b c d).at W:=⟨h.c0,h.c1,h.c2,h.c3,h.f⟩
theorem Blk.at.at4 {k a b c d:Nat} (h:(Blk.mk k 0 a b c d).at W):At4 W k a b c d:=⟨h.c0,h.c1,h.c2,h.c3,h.f⟩
theorem Kept.mk1 (k:Below k0 w W) (b:k0≤W.heap.size):Kept w k0 [] W:=⟨k,b,fun _ h=>by cases h⟩
theorem Kept.cons (h:Kept w k0 l W) (hx:x.at W):Kept w k0 (x :: l) W:=
 ⟨h.bl,h.le,fun y b=>by rcases List.mem_cons.1 b with rfl|k;exact hx;exact h.at' y k⟩
theorem Kept.put {j a b c d:Nat} (h:Kept w k0 (⟨j,0,a,b,c,d⟩ :: l) W) (e:k0≤j) (k:∀ x∈l,j≠x.k) (x y z t:Nat) :
 Kept w k0 (⟨j,0,x,y,z,t⟩ :: l) ((((W.setCell ⟨j,0,none⟩ (.int .u64 x)).setCell ⟨j,1,none⟩ (.int .u64 y)).setCell ⟨j,2,none⟩ (.int .u64 z)).setCell ⟨j,3,none⟩ (.int .u64 t)):=
 (h.tail.set4' e k _ _ _ _).cons (h.head.at4.self4 x y z t).blk
end
end Go.Proofs.YtlofhpkoaljmeaaGreat
