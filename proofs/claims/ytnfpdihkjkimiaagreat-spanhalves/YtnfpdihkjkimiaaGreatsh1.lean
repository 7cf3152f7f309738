import Derived.WalkKit
import Derived.Test.YtnfpdihkjkimiaaGreatRows
import Derived.Lib.Mul64
import Derived.Laws.Bits64b
import Derived.Laws.Externs
import Derived.Sort.Row
import Derived.Below
import Derived.Deep.LoopGhost
import Derived.Deep.QuietTactic
import Derived.StillTailTactics
import Derived.BigRegion
import Derived.BigQuiet
import Derived.WalkSpells
import Derived.WalkLawsBesides
import Derived.Deep.MidRow
import Derived.OrdersHeld
import Derived.Deep.CutRange
import Derived.Deep.Draws
import Derived.Deep.RegionHeld3
import Derived.Laws.BitsLemmas
import Derived.Deep.RegionHeld
import Derived.Deep.DeepCutAuto
import Derived.Laws.Tables
set_option linter.unusedVariables false
set_option linter.constructorNameAsVariable false
set_option linter.unusedSimpArgs false
set_option maxRecDepth 1000000
set_option maxHeartbeats 4000000
namespace Go.Proofs.YtnfpdihkjkimiaaGreat
section
open Go.RowKit
variable {P:Nat} [NeZero P] {N:Nat}
def val (a b c d:Nat):Nat:=a+18446744073709551616*b+340282366920938463463374607431768211456*c+6277101735386680763835789423207666416102355444464034512896*d
def Four (v:Value) (n:Nat):Prop:=∃ a b c d:Nat,v=.agg #[.int .u64 a,.int .u64 b,.int .u64 c,.int .u64 d] ∧
 a<18446744073709551616∧b<18446744073709551616∧c<18446744073709551616∧d<18446744073709551616∧n=val a b c d
def top:Nat:=115792089237316195423570985008687907853269984665640564039457584007913129639936
theorem val_lt {a b c d:Nat} (ha:a<18446744073709551616) (hb:b<18446744073709551616) (hc:c<18446744073709551616) (hd:d<18446744073709551616):val a b c d<top:=by
 unfold val top;omega
theorem Four.lt {v:Value} {n:Nat} (h:Four v n):n<top:=by
 obtain ⟨a,b,c,d,-,ha,hb,hc,hd,rfl⟩:=h
 exact val_lt ha hb hc hd
theorem val_inj {a b c d p q r s:Nat} (ha:a<18446744073709551616) (hb:b<18446744073709551616) (hc:c<18446744073709551616)
 (hp:p<18446744073709551616) (hq:q<18446744073709551616) (hr:r<18446744073709551616) (h:val a b c d=val p q r s):a=p∧b=q∧c=r∧d=s:=by
 unfold val at h;omega
theorem Four.inj {v v':Value} {n:Nat} (h:Four v n) (h':Four v' n):v=v':=by
 obtain ⟨a,b,c,d,rfl,ha,hb,hc,hd,e⟩:=h
 obtain ⟨p,q,r,s,rfl,hp,hq,hr,hs,e'⟩:=h'
 obtain ⟨rfl,rfl,rfl,rfl⟩:=val_inj ha hb hc hp hq hr (e.symm.trans e')
 rfl
theorem Four.num {v:Value} {n m:Nat} (h:Four v n) (h':Four v m):n=m:=by
 obtain ⟨a,b,c,d,rfl,ha,hb,hc,hd,rfl⟩:=h
 obtain ⟨p,q,r,s,e,hp,hq,hr,hs,rfl⟩:=h'
 simp only[Value.agg.injEq,Array.mk.injEq,List.cons.injEq,Value.int.injEq,true_and,and_true,Int.ofNat_inj] at e
 obtain ⟨rfl,rfl,rfl,rfl⟩:=e
 rfl
theorem Four.mk {a b c d n:Nat} (ha:a<18446744073709551616) (hb:b<18446744073709551616) (hc:c<18446744073709551616) (hd:d<18446744073709551616) (hn:n=val a b c d) :
 Four (.agg #[.int .u64 a,.int .u64 b,.int .u64 c,.int .u64 d]) n:=⟨a,b,c,d,rfl,ha,hb,hc,hd,hn⟩
theorem ret_int {k:IntKind} {a b:Int} (h:a=b):Ending.returned (.int k a)=.returned (.int k b):=by rw[h]
end
section
open Go.RowKit Go.Sort
variable {P:Nat} [NeZero P] {N:Nat}
theorem mixed:Tryz.prog.follows .mixedOrders=true:=by kernel_rfl
theorem add64 (x y c:Nat) (hx:x<18446744073709551616) (hy:y<18446744073709551616) (hc:c≤1) :
 ∃ s k:Nat,(∀ w,(callFunc 146 #[.int .u64 x,.int .u64 y,.int .u64 c]).run Tryz.prog w=.ok (.value (.tuple #[.int .u64 s,.int .u64 k])) w) ∧
  s<18446744073709551616∧k≤1∧s+18446744073709551616*k=x+y+c:=by
 refine ⟨(x+y+c)%18446744073709551616,(x+y+c)/18446744073709551616,fun w=>?_,by omega,by omega,by omega⟩
 rw[run_callFunc_extern Tryz.func146 (by kernel_rfl) (by kernel_rfl) (by kernel_rfl) (e:=add64Entry) (by kernel_rfl),run_add64 x y c (by omega) (by omega) (by omega) (by omega)]
 simp only[Result.andThen]
 congr 5<;>omega
theorem sub64 (x y c:Nat) (hx:x<18446744073709551616) (hy:y<18446744073709551616) (hc:c≤1) :
 ∃ s k:Nat,(∀ w,(callFunc 181 #[.int .u64 x,.int .u64 y,.int .u64 c]).run Tryz.prog w=.ok (.value (.tuple #[.int .u64 s,.int .u64 k])) w) ∧
  s<18446744073709551616∧k≤1∧s+y+c=x+18446744073709551616*k:=by
 refine ⟨(x+18446744073709551616-y-c)%18446744073709551616,if x<y+c then 1 else 0,fun w=>?_,by omega,by split<;>omega,by split<;>omega⟩
 rw[run_callFunc_extern Tryz.func181 (by kernel_rfl) (by kernel_rfl) (by kernel_rfl) (e:=(Extern.MathBitsCarry.rows[1]).2) (by kernel_rfl)]
 have:c=0∨c=1:=by omega
 rcases this with rfl|rfl<;>rfl
theorem add64z (x y:Nat) (hx:x<18446744073709551616) (hy:y<18446744073709551616) :
 ∃ s k:Nat,(∀ w,(callFunc 146 #[.int .u64 x,.int .u64 y,.int .u64 0]).run Tryz.prog w=.ok (.value (.tuple #[.int .u64 s,.int .u64 k])) w) ∧
  s<18446744073709551616∧k≤1∧s+18446744073709551616*k=x+y:=add64 x y 0 hx hy (Nat.zero_le 1)
theorem sub64z (x y:Nat) (hx:x<18446744073709551616) (hy:y<18446744073709551616) :
 ∃ s k:Nat,(∀ w,(callFunc 181 #[.int .u64 x,.int .u64 y,.int .u64 0]).run Tryz.prog w=.ok (.value (.tuple #[.int .u64 s,.int .u64 k])) w) ∧
  s<18446744073709551616∧k≤1∧s+y=x+18446744073709551616*k:=sub64 x y 0 hx hy (Nat.zero_le 1)
theorem maskN (a:Nat) (ha:a<18446744073709551616):bits .and .u64 (a:Int) 4294967295=((a%4294967296:Nat):Int):=by
 have h:=bits_and_u64_nat a 4294967295 ha (by omega)
 rw[show a &&& 4294967295=a%4294967296 from Nat.and_two_pow_sub_one_eq_mod a 32] at h
 exact h
theorem divN (a:Nat):(a:Int)/4294967296=((a/4294967296:Nat):Int):=by omega
theorem mulN (a b:Nat):(a:Int)*(b:Int)=((a*b:Nat):Int):=(Int.natCast_mul a b).symm
theorem addN (a b:Nat):(a:Int)+(b:Int)=((a+b:Nat):Int):=(Int.natCast_add a b).symm
theorem wrapN (a:Nat) (ha:a<18446744073709551616):IntKind.u64.wrap (a:Int)=(a:Int):=by rw[IntKind.wrap_u64];omega
theorem wrapM (a:Nat):IntKind.u64.wrap (a:Int)=((a%18446744073709551616:Nat):Int):=by rw[IntKind.wrap_u64];omega
theorem mul64e (x y:Nat) (hx:x<18446744073709551616) (hy:y<18446744073709551616) (w:World) :
 Calls Tryz.prog 179 #[.int .u64 x,.int .u64 y] w fun e w'=>e=.returned (.tuple #[.int .u64 ((x*y/18446744073709551616:Nat):Int),.int .u64 ((x*y%18446744073709551616:Nat):Int)])∧w'=w:=by
 obtain ⟨bd,bt,bw,hhi⟩:=Lib.mul64_hi x y hx hy
 have ba:=Lib.half_mul_le (a:=x/4294967296) (b:=y/4294967296) (by omega) (by omega)
 have bb:=Lib.half_mul_le (a:=x/4294967296) (b:=y%4294967296) (by omega) (by omega)
 have bc:=Lib.half_mul_le (a:=x%4294967296) (b:=y/4294967296) (by omega) (by omega)
 have b1:x/4294967296*(y/4294967296)<18446744073709551616:=by omega
 have b2:x/4294967296*(y%4294967296)<18446744073709551616:=by omega
 have b3:x%4294967296*(y/4294967296)<18446744073709551616:=by omega
 have bh1:x/4294967296*(y/4294967296)+(x/4294967296*(y%4294967296)+x%4294967296*(y%4294967296)/4294967296)/4294967296<18446744073709551616:=by omega
 have bh:x/4294967296*(y/4294967296)+(x/4294967296*(y%4294967296)+x%4294967296*(y%4294967296)/4294967296)/4294967296+((x/4294967296*(y%4294967296)+x%4294967296*(y%4294967296)/4294967296)%4294967296+x%4294967296*(y/4294967296))/4294967296<18446744073709551616:=by omega
 go_enter Tryz.func179,Tryz.ntmps179
 go_wp2
 simp only[maskN x hx,maskN y hy,divN,mulN,addN,wrapN _ bd,wrapN _ b2,wrapN _ bt,maskN _ bt,wrapN _ b3,wrapN _ bw,wrapN _ b1,wrapN _ bh1,wrapN _ bh,wrapM (x*y)]
 rw[hhi]
 go_ret2
 exact ⟨rfl,rfl⟩
theorem mul64q (x y:Nat) (hx:x<18446744073709551616) (hy:y<18446744073709551616) :
 ∃ h l:Nat,(∀ w,Calls Tryz.prog 179 #[.int .u64 x,.int .u64 y] w fun e w'=>e=.returned (.tuple #[.int .u64 h,.int .u64 l])∧w'=w) ∧
  h<18446744073709551616∧l<18446744073709551616∧l+18446744073709551616*h=x*y:=by
 have hxy:x*y≤18446744073709551615*18446744073709551615:=Nat.mul_le_mul (by omega) (by omega)
 exact ⟨_,_,fun w=>mul64e x y hx hy w,by omega,by omega,by omega⟩
theorem mul64 (x y:Nat) (hx:x<18446744073709551616) (hy:y<18446744073709551616) (w:World) :
 Calls Tryz.prog 179 #[.int .u64 x,.int .u64 y] w fun e w'=>w'=w∧∃ h l:Nat,e=.returned (.tuple #[.int .u64 h,.int .u64 l]) ∧
  h<18446744073709551616∧l<18446744073709551616∧l+18446744073709551616*h=x*y:=by
 obtain ⟨h,l,hc,h1,h2,h3⟩:=mul64q x y hx hy
 exact (hc w).mono fun e w' he=>⟨he.2,h,l,he.1,h1,h2,h3⟩
theorem mulstep (x y o c:Nat) (hx:x<18446744073709551616) (hy:y<18446744073709551616) (ho:o<18446744073709551616) (hc:c<18446744073709551616) :
 ∃ h l s1 k1 s2 k2 g cy:Nat,(∀ w,Calls Tryz.prog 179 #[.int .u64 x,.int .u64 y] w fun e w'=>e=.returned (.tuple #[.int .u64 h,.int .u64 l])∧w'=w) ∧
  (∀ w,(callFunc 146 #[.int .u64 l,.int .u64 c,.int .u64 0]).run Tryz.prog w=.ok (.value (.tuple #[.int .u64 s1,.int .u64 k1])) w) ∧
  (∀ w,(callFunc 146 #[.int .u64 o,.int .u64 s1,.int .u64 0]).run Tryz.prog w=.ok (.value (.tuple #[.int .u64 s2,.int .u64 k2])) w) ∧
  IntKind.u64.wrap ((h:Int)+(k1:Int))=(g:Int)∧IntKind.u64.wrap ((g:Int)+(k2:Int))=(cy:Int) ∧
  s2<18446744073709551616∧cy<18446744073709551616∧s2+18446744073709551616*cy=x*y+o+c:=by
 have hxy:x*y≤18446744073709551615*18446744073709551615:=Nat.mul_le_mul (by omega) (by omega)
 obtain ⟨h,l,hm,hh,hl,e1⟩:=mul64q x y hx hy
 obtain ⟨s1,k1,a1,hs1,hk1,e2⟩:=add64z l c hl hc
 obtain ⟨s2,k2,a2,hs2,hk2,e3⟩:=add64z o s1 ho hs1
 refine ⟨h,l,s1,k1,s2,k2,h+k1,h+k1+k2,hm,a1,a2,?_,?_,hs2,by omega,by omega⟩
 ·rw[addN];exact wrapN _ (by omega)
 ·rw[addN];exact wrapN _ (by omega)
theorem cell_any (x y o c:Nat) (hx:x<18446744073709551616) (hy:y<18446744073709551616) (ho:o<18446744073709551616) (hc:c<18446744073709551616) (w:World) :
 Calls Tryz.prog 182 #[.int .u64 x,.int .u64 y,.int .u64 o,.int .u64 c] w fun e w'=>w'=w∧∃ l h:Nat,e=.returned (.tuple #[.int .u64 l,.int .u64 h]) ∧
  h<18446744073709551616∧l<18446744073709551616∧l+18446744073709551616*h=x*y+o+c:=by
 have hxy:x*y≤18446744073709551615*18446744073709551615:=Nat.mul_le_mul (by omega) (by omega)
 go_enter Tryz.func182,Tryz.ntmps182
 go_wp2_with fail
 refine (mul64 x y hx hy _).mono ?_
 rintro e w1 ⟨rfl,h,l,rfl,hh,hl,e1⟩
 obtain ⟨s1,k1,a1,hs1,hk1,e2⟩:=add64z l o hl ho
 obtain ⟨s2,k2,a2,hs2,hk2,e3⟩:=add64z s1 c hs1 hc
 have w1:IntKind.u64.wrap ((h:Int)+(k1:Int))=((h+k1:Nat):Int):=by rw[addN];exact wrapN _ (by omega)
 have w2:IntKind.u64.wrap (((h+k1:Nat):Int)+(k2:Int))=((h+k1+k2:Nat):Int):=by rw[addN];exact wrapN _ (by omega)
 go_wp2
 go_ret2
 refine ⟨rfl,s2,h+k1+k2,?_,by omega,by omega,by omega⟩
 rfl
def Ret (Q:Value→World→Prop) (e:Ending) (w:World):Prop:=∃ v,e=.returned v∧Q v w
theorem below1 (w:World) (o1:Obj):Below w.heap.size w (w.alloc o1):=(Below.refl _ _).alloc (Nat.le_refl _) o1
theorem below2 (w:World) (o1 o2:Obj):Below w.heap.size w ((w.alloc o1).alloc o2):=(below1 w o1).alloc (by simp) o2
theorem below3 (w:World) (o1 o2 o3:Obj):Below w.heap.size w (((w.alloc o1).alloc o2).alloc o3):=(below2 w o1 o2).alloc (by simp;omega) o3
theorem below4 (w:World) (o1 o2 o3 o4:Obj):Below w.heap.size w ((((w.alloc o1).alloc o2).alloc o3).alloc o4):=(below3 w o1 o2 o3).alloc (by simp;omega) o4
theorem plus_any (x y:Value) (m n:Nat) (hx:Four x m) (hy:Four y n) (w:World) :
 Calls Tryz.prog 96 #[x,y] w (Ret fun e w'=>Below w.heap.size w w'∧∃ (v:Value) (s k:Nat),e=.tuple #[v,.int .u64 k]∧Four v s∧k≤1∧s+top*k=m+n):=by
 obtain ⟨a,b,c,d,rfl,ha,hb,hc,hd,em⟩:=hx
 obtain ⟨p,q,r,s,rfl,hp,hq,hr,hs,en⟩:=hy
 obtain ⟨s0,k0,a0,hs0,hk0,e0⟩:=add64z a p ha hp
 obtain ⟨s1,k1,a1,hs1,hk1,e1⟩:=add64 b q k0 hb hq hk0
 obtain ⟨s2,k2,a2,hs2,hk2,e2⟩:=add64 c r k1 hc hr hk1
 obtain ⟨s3,k3,a3,hs3,hk3,e3⟩:=add64 d s k2 hd hs hk2
 have hv:val s0 s1 s2 s3+top*k3=m+n:=by rw[em,en];unfold val top;omega
 clear e0 e1 e2 e3 em en
 go_enter Tryz.func96,Tryz.ntmps96
 go_wp2_with (first|simp only[a0]|simp only[a1]|simp only[a2]|simp only[a3])
 refine bodyPost_ret (v:=?v) ?hr rfl ?hR
 case hr=>simp[results,Tryz.results96,go_sem];rfl
 exact ⟨_,rfl,below3 _ _ _ _,_,_,k3,rfl,Four.mk hs0 hs1 hs2 hs3 rfl,hk3,hv⟩
theorem minus_any (x y:Value) (m n:Nat) (hx:Four x m) (hy:Four y n) (w:World) :
 Calls Tryz.prog 171 #[x,y] w (Ret fun e w'=>Below w.heap.size w w'∧∃ (v:Value) (s k:Nat),e=.tuple #[v,.int .u64 k]∧Four v s∧k≤1∧s+n=m+top*k):=by
 obtain ⟨a,b,c,d,rfl,ha,hb,hc,hd,em⟩:=hx
 obtain ⟨p,q,r,s,rfl,hp,hq,hr,hs,en⟩:=hy
 obtain ⟨s0,k0,a0,hs0,hk0,e0⟩:=sub64z a p ha hp
 obtain ⟨s1,k1,a1,hs1,hk1,e1⟩:=sub64 b q k0 hb hq hk0
 obtain ⟨s2,k2,a2,hs2,hk2,e2⟩:=sub64 c r k1 hc hr hk1
 obtain ⟨s3,k3,a3,hs3,hk3,e3⟩:=sub64 d s k2 hd hs hk2
 have hv:val s0 s1 s2 s3+n=m+top*k3:=by rw[em,en];unfold val top;omega
 clear e0 e1 e2 e3 em en
 go_enter Tryz.func171,Tryz.ntmps171
 go_wp2_with (first|simp only[a0]|simp only[a1]|simp only[a2]|simp only[a3])
 refine bodyPost_ret (v:=?v) ?hr rfl ?hR
 case hr=>simp[results,Tryz.results171,go_sem];rfl
 exact ⟨_,rfl,below3 _ _ _ _,_,_,k3,rfl,Four.mk hs0 hs1 hs2 hs3 rfl,hk3,hv⟩
theorem four_any (x:Value) (m:Nat) (hx:Four x m) (w:World) :
 Calls Tryz.prog 97 #[x] w (Ret fun e w'=>Below w.heap.size w w'∧e=x):=by
 obtain ⟨a,b,c,d,rfl,ha,hb,hc,hd,em⟩:=hx
 clear em
 go_enter Tryz.func97,Tryz.ntmps97
 go_wp2
 refine bodyPost_ret (v:=?v) ?hr rfl ?hR
 case hr=>simp[results,Tryz.results97,go_sem];rfl
 exact ⟨_,rfl,below2 _ _ _,rfl⟩
theorem number_any (x:Value) (m:Nat) (hx:Four x m) (w:World) :
 Calls Tryz.prog 156 #[x] w (Ret fun e w'=>Below w.heap.size w w'∧e=x):=by
 obtain ⟨a,b,c,d,rfl,ha,hb,hc,hd,em⟩:=hx
 clear em
 go_enter Tryz.func156,Tryz.ntmps156
 go_wp2
 refine bodyPost_ret (v:=?v) ?hr rfl ?hR
 case hr=>simp[results,Tryz.results156,go_sem];rfl
 exact ⟨_,rfl,below2 _ _ _,rfl⟩
theorem mul_val (x a b c d:Nat):x*val a b c d=val (x*a) (x*b) (x*c) (x*d):=by
 unfold val
 rw[Nat.mul_add,Nat.mul_add,Nat.mul_add,Nat.mul_left_comm x _ b,Nat.mul_left_comm x _ c,Nat.mul_left_comm x _ d]
theorem row_sum {x a b c d p q r s l0 l1 l2 l3 h0 h1 h2 h3 m n:Nat} (em:m=val a b c d) (en:n=val p q r s)
 (e0:l0+18446744073709551616*h0=x*a+p+0) (e1:l1+18446744073709551616*h1=x*b+q+h0)
 (e2:l2+18446744073709551616*h2=x*c+r+h1) (e3:l3+18446744073709551616*h3=x*d+s+h2) :
 l0+18446744073709551616*val l1 l2 l3 h3=x*m+n:=by
 rw[em,en,mul_val x a b c d]
 generalize x*a=xa at *
 generalize x*b=xb at *
 generalize x*c=xc at *
 generalize x*d=xd at *
 unfold val
 omega
theorem row_any (x:Nat) (y z:Value) (m n:Nat) (hx:x<18446744073709551616) (hy:Four y m) (hz:Four z n) (w:World) :
 Calls Tryz.prog 172 #[.int .u64 x,y,z] w (Ret fun e w'=>Below w.heap.size w w'∧∃ (l:Nat) (v:Value) (s:Nat),e=.tuple #[.int .u64 l,v]∧l<18446744073709551616∧Four v s∧l+18446744073709551616*s=x*m+n):=by
 obtain ⟨a,b,c,d,rfl,ha,hb,hc,hd,em⟩:=hy
 obtain ⟨p,q,r,s,rfl,hp,hq,hr,hs,en⟩:=hz
 go_enter Tryz.func172,Tryz.ntmps172
 go_wp2_with fail
 refine (cell_any x a p 0 hx ha hp (by decide) _).mono ?_
 rintro e w1 ⟨rfl,l0,h0,rfl,hh0,hl0,e0⟩
 go_wp2_with fail
 refine (cell_any x b q h0 hx hb hq hh0 _).mono ?_
 rintro e w1 ⟨rfl,l1,h1,rfl,hh1,hl1,e1⟩
 go_wp2_with fail
 refine (cell_any x c r h1 hx hc hr hh1 _).mono ?_
 rintro e w1 ⟨rfl,l2,h2,rfl,hh2,hl2,e2⟩
 go_wp2_with fail
 refine (cell_any x d s h2 hx hd hs hh2 _).mono ?_
 rintro e w1 ⟨rfl,l3,h3,rfl,hh3,hl3,e3⟩
 go_wp2
 refine bodyPost_ret (v:=?v) ?hr rfl ?hR
 case hr=>simp[results,Tryz.results172,go_sem];rfl
 exact ⟨_,rfl,below3 _ _ _ _,l0,_,_,rfl,hl0,Four.mk hl1 hl2 hl3 hh3 rfl,row_sum em en e0 e1 e2 e3⟩
end
namespace RG
open Go Go.RowKit
inductive SV where
 | v (x:Value)
 | p (b o:Nat)
 | s (b n c:Nat)
 | t (b n c:Nat) (y:Value)
def SV.at (μ:Nat→Nat):SV→Value
 | .v x=>x
 | .p b o=>.pointer (some ⟨μ b,o,none⟩)
 | .s b n c=>.slice (some ⟨μ b,0,none⟩) n c
 | .t b n c y=>.tuple #[.slice (some ⟨μ b,0,none⟩) n c,y]
def SV.blk:SV→Option Nat
 | .v _=>none
 | .p b _=>some b
 | .s b _ _=>some b
 | .t b _ _ _=>some b
theorem SV.at_congr {μ ν:Nat→Nat} {s:SV} (h:∀ b,s.blk=some b→μ b=ν b):s.at μ=s.at ν:=by
 cases s with
 | v x=>rfl
 | p b o=>show Value.pointer (some ⟨μ b,o,none⟩)=.pointer (some ⟨ν b,o,none⟩);rw[h b rfl]
 | s b n c=>show Value.slice (some ⟨μ b,0,none⟩) n c=.slice (some ⟨ν b,0,none⟩) n c;rw[h b rfl]
 | t b n c y=>show Value.tuple #[.slice (some ⟨μ b,0,none⟩) n c,y]=.tuple #[.slice (some ⟨ν b,0,none⟩) n c,y];rw[h b rfl]
inductive Kind where
 | stay
 | pass
 | call
 | make (b:Nat)
 | put (b:Nat)
structure It where
 dst:Option Tmp
 need:List (Tmp × Nat)
 out:SV
 kind:Kind
structure Bl where
 before:List Value
 after:List Value
 al:Option Nat
 st:Option Nat
def on (L:Array Bool) (i:Nat):Bool:=L.getD i false
def Bl.live (e:Bl) (L:Array Bool):Bool:=(e.al.map (on L)).getD true
def Bl.put (e:Bl) (L:Array Bool):Bool:=(e.st.map (on L)).getD false
def Bl.now (e:Bl) (L:Array Bool):List Value:=if e.put L=true then e.after else e.before
theorem on_set {L:Array Bool} {i j:Nat} (h:i<L.size):on (L.setIfInBounds i true) j=(on L j || i == j):=by
 unfold on
 simp only[Array.getD_eq_getD_getElem?,Array.getElem?_setIfInBounds]
 by_cases hij:i=j
 ·subst hij;simp[h]
 ·simp[hij]
theorem live_set {e:Bl} {L:Array Bool} {i:Nat} (h:i<L.size):e.live (L.setIfInBounds i true)=(e.live L || e.al == some i):=by
 unfold Bl.live
 cases ha:e.al with
 | none=>rfl
 | some j =>
  show on _ j=(on L j || _)
  rw[on_set h]
  by_cases hij:i=j
  ·subst hij;simp
  ·have h1:(i == j)=false:=by simpa using hij
   have h2:(some j == some i)=false:=by simpa using fun h=>hij h.symm
   rw[h1,h2]
theorem put_set {e:Bl} {L:Array Bool} {i:Nat} (h:i<L.size):e.put (L.setIfInBounds i true)=(e.put L || e.st == some i):=by
 unfold Bl.put
 cases ha:e.st with
 | none=>rfl
 | some j =>
  show on _ j=(on L j || _)
  rw[on_set h]
  by_cases hij:i=j
  ·subst hij;simp
  ·have h1:(i == j)=false:=by simpa using hij
   have h2:(some j == some i)=false:=by simpa using fun h=>hij h.symm
   rw[h1,h2]
theorem range_below {B k o:Nat} {w w':World} {cs:List Value} (h:w.rangeAt k o cs) (hb:Below B w w') (hk:k<B):w'.rangeAt k o cs:=fun j v hv=>by
 rw[hb.cell (p:=⟨k,o+j,none⟩) hk];exact h j v hv
theorem there_below {B k o n:Nat} {w w':World} (h:w.there k o n) (hb:Below B w w') (hk:k<B):w'.there k o n:=fun j hj=>by
 rw[hb.cell (p:=⟨k,o+j,none⟩) hk,hb.frozen (p:=⟨k,o+j,none⟩) hk];exact h j hj
theorem below_setCells {B k:Nat} {w0:World} (hk:B≤k):∀ (vs:List Value) (o:Nat) (w:World),Below B w0 w→Below B w0 (w.setCells k o vs)
 | [],_,_,h=>h
 | v :: r,o,w,h=>below_setCells hk r (o+1) _ (h.setCell (p:=⟨k,o,none⟩) hk v)
theorem setCells_size (k:Nat):∀ (vs:List Value) (o:Nat) (w:World),(w.setCells k o vs).heap.size=w.heap.size
 | [],_,_=>rfl
 | v :: r,o,w=>by
  rw[World.setCells,setCells_size k r (o+1)]
  simp[World.setCell]
theorem there_setCells {k b o n:Nat}:∀ (vs:List Value) (i:Nat) (w:World),w.there b o n→(w.setCells k i vs).there b o n
 | [],_,_,h=>h
 | v :: r,i,w,h=>there_setCells r (i+1) _ fun j hj=>⟨World.isSome_setCells k [v] i w _ (h j hj).1,by rw[World.frozen?_setCell];exact (h j hj).2⟩
structure BelX (k0:Nat) (X:List Nat) (w w':World):Prop where
 os:w'.os=w.os
 tape:w'.tape=w.tape
 output:w'.output=w.output
 size:w.heap.size≤w'.heap.size
 block:∀ j,j<k0→j ∉ X→w'.heap[j]? = w.heap[j]?
theorem BelX.below {k0:Nat} {w w':World} (h:BelX k0 [] w w'):Below k0 w w':=⟨h.os,h.tape,h.output,h.size,fun j hj=>h.block j hj List.not_mem_nil⟩
theorem BelX.drew {k0:Nat} {X:List Nat} {w w':World} (h:BelX k0 X w w'):BelX k0 X w w'.drew:=⟨h.os,h.tape,h.output,h.size,h.block⟩
theorem BelX.refl (k0:Nat) (X:List Nat) (w:World):BelX k0 X w w:=⟨rfl,rfl,rfl,Nat.le_refl _,fun _ _ _=>rfl⟩
theorem BelX.trans {k0:Nat} {X:List Nat} {a b c:World} (h:BelX k0 X a b) (k:BelX k0 X b c):BelX k0 X a c:=
 ⟨k.os.trans h.os,k.tape.trans h.tape,k.output.trans h.output,Nat.le_trans h.size k.size,fun i hi hx=>(k.block i hi hx).trans (h.block i hi hx)⟩
structure Wd (w0:World) (k0:Nat) (X:List Nat) (bl:List Bl) (L:Array Bool) (μ:Nat→Nat) (w:World):Prop where
 bel:BelX k0 X w0 w
 le:k0≤w.heap.size
 has:∀ (b:Nat) (e:Bl),bl[b]? = some e→e.live L=true→w.rangeAt (μ b) 0 (e.now L)∧w.there (μ b) 0 e.before.length∧μ b<w.heap.size∧(k0≤μ b∨μ b∈X)
 inj:∀ (b c:Nat) (e f:Bl),bl[b]? = some e→bl[c]? = some f→e.live L=true→f.live L=true→b≠c→μ b≠μ c
variable {w0 w w':World} {k0:Nat} {X:List Nat} {bl:List Bl} {L:Array Bool} {μ:Nat→Nat}
theorem Wd.same {L':Array Bool} (h:Wd w0 k0 X bl L μ w) (hl:∀ (b:Nat) (e:Bl),bl[b]? = some e→e.live L'=e.live L∧e.put L'=e.put L):Wd w0 k0 X bl L' μ w:=by
 refine ⟨h.bel,h.le,fun b e hb hv=>?_,fun b c e f hb hc he hf=>h.inj b c e f hb hc ((hl b e hb).1 ▸ he) ((hl c f hc).1 ▸ hf)⟩
 have:=h.has b e hb ((hl b e hb).1 ▸ hv)
 unfold Bl.now at this ⊢
 rw[(hl b e hb).2]
 exact this
theorem Wd.call (h:Wd w0 k0 X bl L μ w) (hb:Below w.heap.size w w'):Wd w0 k0 X bl L μ w':=by
 refine ⟨h.bel.trans ⟨hb.os,hb.tape,hb.output,hb.size,fun k hk _=>hb.block k (Nat.lt_of_lt_of_le hk h.le)⟩,Nat.le_trans h.le hb.size,fun b e hbe hv=>?_,h.inj⟩
 obtain ⟨h1,h2,h3,h4⟩:=h.has b e hbe hv
 exact ⟨range_below h1 hb h3,there_below h2 hb h3,Nat.lt_of_lt_of_le h3 hb.size,h4⟩
def upd (μ:Nat→Nat) (b k:Nat):Nat→Nat:=fun c=>if c=b then k else μ c
structure Made (w:World) (k:Nat) (c:List Value) (w':World):Prop where
 bel:Below w.heap.size w w'
 le:w.heap.size≤k
 lt:k<w'.heap.size
 range:w'.rangeAt k 0 c
 there:w'.there k 0 c.length
theorem Made.alloc (w:World) (c:List Value) (t:TypeId):Made w w.heap.size c (w.alloc (.cells c.toArray t)):=by
 refine ⟨below1 w _,Nat.le_refl _,by rw[World.size_alloc];omega,fun j v hj=>?_,fun j hj=>⟨?_,World.frozen?_alloc_new _ _ _ _⟩⟩
 ·rw[Nat.zero_add,World.cell?_alloc_new]
  simpa using hj
 ·rw[Nat.zero_add,World.cell?_alloc_new]
  simp[hj]
theorem Wd.make {i b k:Nat} {e:Bl} (h:Wd w0 k0 X bl L μ w) (hi:i<L.size) (hb:bl[b]? = some e) (ha:e.al=some i) (hne:∀ (c:Nat) (f:Bl),bl[c]? = some f→c≠b→f.al≠some i)
 (hst:∀ (c:Nat) (f:Bl),bl[c]? = some f→f.st≠some i) (hp:e.put L=false) (hm:Made w k e.before w') :
 Wd w0 k0 X bl (L.setIfInBounds i true) (upd μ b k) w':=by
 have hput:∀ (c:Nat) (f:Bl),bl[c]? = some f→f.put (L.setIfInBounds i true)=f.put L:=fun c f hc=>by
  rw[put_set hi,show (f.st == some i)=false by simpa using hst c f hc,Bool.or_false]
 have hliv:∀ (c:Nat) (f:Bl),bl[c]? = some f→c≠b→f.live (L.setIfInBounds i true)=f.live L:=fun c f hc hcb=>by
  rw[live_set hi,show (f.al == some i)=false by simpa using hne c f hc hcb,Bool.or_false]
 have hold:∀ (c:Nat) (f:Bl),bl[c]? = some f→c≠b→f.live (L.setIfInBounds i true)=true→μ c<w.heap.size:=fun c f hc hcb hv=>(h.has c f hc (hliv c f hc hcb ▸ hv)).2.2.1
 have hal:=hm.bel
 have hmk:=hm.le
 refine ⟨h.bel.trans ⟨hal.os,hal.tape,hal.output,hal.size,fun k hk _=>hal.block k (Nat.lt_of_lt_of_le hk h.le)⟩,Nat.le_trans h.le hal.size,fun c f hc hv=>?_,fun c d f g hc hd hf hg hcd=>?_⟩
 ·by_cases hcb:c=b
  ·subst hcb
   rw[hb] at hc
   obtain rfl:e=f:=Option.some.inj hc
   have hn:e.now (L.setIfInBounds i true)=e.before:=by unfold Bl.now;rw[hput c e hb,hp];rfl
   rw[hn]
   unfold upd
   rw[if_pos rfl]
   exact ⟨hm.range,hm.there,hm.lt,Or.inl (Nat.le_trans h.le hmk)⟩
  ·obtain ⟨h1,h2,h3,h4⟩:=h.has c f hc (hliv c f hc hcb ▸ hv)
   unfold upd
   rw[if_neg hcb]
   have hn:f.now (L.setIfInBounds i true)=f.now L:=by unfold Bl.now;rw[hput c f hc]
   rw[hn]
   exact ⟨range_below h1 hal h3,there_below h2 hal h3,Nat.lt_of_lt_of_le h3 hal.size,h4⟩
 ·unfold upd
  by_cases hcb:c=b
  ·subst hcb
   rw[if_pos rfl,if_neg (fun h=>hcd h.symm)]
   exact Nat.ne_of_gt (Nat.lt_of_lt_of_le (hold d g hd (fun h=>hcd h.symm) hg) hmk)
  ·by_cases hdb:d=b
   ·subst hdb
    rw[if_pos rfl,if_neg hcb]
    exact Nat.ne_of_lt (Nat.lt_of_lt_of_le (hold c f hc hcb hf) hmk)
   ·rw[if_neg hcb,if_neg hdb]
    exact h.inj c d f g hc hd (hliv c f hc hcb ▸ hf) (hliv d g hd hdb ▸ hg) hcd
structure PutTo (k n:Nat) (cs:List Value) (w w':World):Prop where
 os:w'.os=w.os
 tape:w'.tape=w.tape
 output:w'.output=w.output
 size:w.heap.size≤w'.heap.size
 block:∀ j,j<w.heap.size→j≠k→w'.heap[j]? = w.heap[j]?
 range:w'.rangeAt k 0 cs
 there:w'.there k 0 n
theorem setCells_other (k:Nat):∀ (vs:List Value) (o:Nat) (w:World) (j:Nat),j≠k→(w.setCells k o vs).heap[j]? = w.heap[j]?
 | [],_,_,_,_=>rfl
 | v :: r,o,w,j,h=>by
  rw[World.setCells,setCells_other k r (o+1) _ j h,Below.heap_setCell _ _ _ _ h]
theorem setCells_os (k:Nat):∀ (vs:List Value) (o:Nat) (w:World),(w.setCells k o vs).os=w.os∧(w.setCells k o vs).tape=w.tape∧(w.setCells k o vs).output=w.output
 | [],_,_=>⟨rfl,rfl,rfl⟩
 | v :: r,o,w=>by rw[World.setCells];exact setCells_os k r (o+1) _
theorem PutTo.store {k n o:Nat} {before after vs:List Value} (ht:w.there k 0 n) (hr:w.rangeAt k 0 before) (hl:o+vs.length≤n) (ha:∀ j,after[j]? = if o≤j∧j<o+vs.length then vs[j-o]? else before[j]?):PutTo k n after w (w.setCells k o vs):=by
 obtain ⟨h1,h2,h3⟩:=setCells_os k vs o w
 refine ⟨h1,h2,h3,by rw[setCells_size];exact Nat.le_refl _,fun j _ hj=>setCells_other k vs o w j hj,fun j v hv=>?_,there_setCells _ _ _ ht⟩
 have hto:w.there k o vs.length:=fun j hj=>by have:=ht (o+j) (by omega);rwa[Nat.zero_add] at this
 rw[ha j] at hv
 rw[Nat.zero_add]
 by_cases hj:o≤j∧j<o+vs.length
 ·rw[if_pos hj] at hv
  have:=World.rangeAt_setCells_same w k o vs hto (j-o) v hv
  rwa[show o+(j-o)=j by omega] at this
 ·rw[if_neg hj] at hv
  have h5:w.rangeAt k j [v]:=fun i u hu=>by
   cases i with
   | zero =>
    obtain rfl:v=u:=by simpa using hu
    have:=hr j v hv
    rwa[Nat.zero_add] at this
   | succ i=>simp at hu
  have h6:=World.rangeAt_setCells_apart h5 k o vs (Or.inr (by simp only[List.length_cons,List.length_nil];omega))
  have:=h6 0 v rfl
  exact this
theorem PutTo.whole {k:Nat} {before after:List Value} (ht:w.there k 0 before.length) (hr:w.rangeAt k 0 before) (hl:after.length=before.length):PutTo k before.length after w (w.setCells k 0 after):=
 PutTo.store ht hr (by omega) (fun j=>by
  by_cases hj:0≤j∧j<0+after.length
  ·rw[if_pos hj];rfl
  ·rw[if_neg hj,List.getElem?_eq_none (by omega),List.getElem?_eq_none (by omega)])
theorem Wd.put {i b:Nat} {e:Bl} (h:Wd w0 k0 X bl L μ w) (hi:i<L.size) (hb:bl[b]? = some e) (hs:e.st=some i) (hv:e.live L=true) (hp:PutTo (μ b) e.before.length e.after w w')
 (hne:∀ (c:Nat) (f:Bl),bl[c]? = some f→c≠b→f.st≠some i) (hal:∀ (c:Nat) (f:Bl),bl[c]? = some f→f.al≠some i) :
 Wd w0 k0 X bl (L.setIfInBounds i true) μ w':=by
 have hliv:∀ (c:Nat) (f:Bl),bl[c]? = some f→f.live (L.setIfInBounds i true)=f.live L:=fun c f hc=>by
  rw[live_set hi,show (f.al == some i)=false by simpa using hal c f hc,Bool.or_false]
 obtain ⟨g1,g2,g3,g4⟩:=h.has b e hb hv
 have hle:=h.le
 refine ⟨h.bel.trans ⟨hp.os,hp.tape,hp.output,hp.size,fun j hj hx=>hp.block j (by omega) (fun e=>g4.elim (fun h=>by omega) (fun h=>hx (e ▸ h)))⟩,Nat.le_trans h.le hp.size,fun c f hc hvc=>?_,fun c d f g hc hd hf hg=>h.inj c d f g hc hd (hliv c f hc ▸ hf) (hliv d g hd ▸ hg)⟩
 rw[hliv c f hc] at hvc
 obtain ⟨h1,h2,h3,h4⟩:=h.has c f hc hvc
 by_cases hcb:c=b
 ·subst hcb
  rw[hb] at hc
  obtain rfl:e=f:=Option.some.inj hc
  have hn:e.now (L.setIfInBounds i true)=e.after:=by
   unfold Bl.now
   rw[put_set hi,hs]
   simp
  rw[hn]
  exact ⟨hp.range,hp.there,Nat.lt_of_lt_of_le h3 hp.size,h4⟩
 ·have hn:f.now (L.setIfInBounds i true)=f.now L:=by
   unfold Bl.now
   rw[put_set hi,show (f.st == some i)=false by simpa using hne c f hc hcb,Bool.or_false]
  rw[hn]
  have hsame:=hp.block (μ c) h3 (h.inj c b f e hc hb hvc hv hcb)
  refine ⟨fun j v hj=>?_,fun j hj=>?_,Nat.lt_of_lt_of_le h3 hp.size,h4⟩
  ·rw[World.cell?_of_block (w:=w) (a:=⟨μ c,0+j,none⟩) hsame];exact h1 j v hj
  ·rw[World.cell?_of_block (w:=w) (a:=⟨μ c,0+j,none⟩) hsame,World.frozen?_of_block (w:=w) (a:=⟨μ c,0+j,none⟩) hsame];exact h2 j hj
end RG
namespace RG
open Go Go.RowKit
variable {P:Program} {ops:Array Oper} {Q:Exit→Act→World→Prop} {w0 w:World} {k0:Nat} {X:List Nat} {its:List It} {bl:List Bl} {olds:List (Tmp × SV)} {a0:Act} {L:Array Bool} {μ μ' μ0:Nat→Nat}
structure Ac (its:List It) (bl:List Bl) (a0:Act) (L:Array Bool) (μ:Nat→Nat) (a:Act):Prop where
 defers:a.defers=a0.defers
 size:a.tmps.size=a0.tmps.size
 got:∀ (i:Nat) (it:It) (d:Tmp),its[i]? = some it→on L i=true→it.dst=some d→a.tmps[d]? = some (it.out.at μ)∧∀ b,it.out.blk=some b→∃ e:Bl,bl[b]? = some e∧e.live L=true
 rest:∀ t:Tmp,(∀ (i:Nat) (it:It),its[i]? = some it→on L i=true→it.dst≠some t)→a.tmps[t]? = a0.tmps[t]?
def depB (o:Oper) (j:Nat):Bool:=o.after.any (fun e=>Region.binds .any e && e.on == j)
def freeB (ops:Array Oper) (its:List It) (i:Nat) (t:Tmp):Bool:=its.zipIdx.all (fun x=>x.1.dst != some t || (match ops[x.2]? with|some o=>depB o i|none=>false))
def Known (ops:Array Oper) (i:Nat) (its:List It) (olds:List (Tmp × SV)) (need:List (Tmp × Nat)) (μ:Nat→Nat) (a:Act):Prop:=
 (∀ (t:Tmp) (j:Nat) (it:It),(t,j)∈need→its[j]? = some it→a.eval (.tmp t)=it.out.at μ)∧(∀ (t:Tmp) (s:SV),(t,s)∈olds→freeB ops its i t=true→a.eval (.tmp t)=s.at μ)
def readB (ops:Array Oper) (i:Nat) (e:Bl):Bool:=match e.st with|none=>true|some s=>match ops[s]? with|some o=>depB o i|none=>false
def Reads (ops:Array Oper) (i:Nat) (bl:List Bl) (μ:Nat→Nat) (w:World):Prop:=∀ (b:Nat) (e:Bl),bl[b]? = some e→(e.al=none∨∃ (o:Oper) (j:Nat),ops[i]? = some o∧e.al=some j∧depB o j=true)→readB ops i e=true→w.rangeAt (μ b) 0 e.before
def Does (P:Program) (Q:Exit→Act→World→Prop) (bl:List Bl) (o:Oper) (it:It) (μ:Nat→Nat) (a:Act) (w:World) (K:Act→World→Prop):Kind→Prop
 | .stay=>K (a.put o.dst (it.out.at μ)) w→o.wp P a w K Q
 | .pass=>it.out=.v undef
 | .call=>(∀ w',Below w.heap.size w w'→K (a.put o.dst (it.out.at μ)) w')→o.wp P a w K Q
 | .make b=>∀ e:Bl,bl[b]? = some e→(∀ (k:Nat) (w':World),Made w k e.before w'→K (a.put o.dst (it.out.at (upd μ b k))) w')→o.wp P a w K Q
 | .put b=>∀ e:Bl,bl[b]? = some e→w.there (μ b) 0 e.before.length→w.rangeAt (μ b) 0 e.before→(∀ w',PutTo (μ b) e.before.length e.after w w'→K (a.put o.dst (it.out.at μ)) w')→o.wp P a w K Q
def Cert (P:Program) (Q:Exit→Act→World→Prop) (w0:World) (k0:Nat) (X:List Nat) (ops:Array Oper) (i:Nat) (its:List It) (bl:List Bl) (olds:List (Tmp × SV)) (o:Oper) (it:It):Prop:=
 ∀ (μ:Nat→Nat) (a:Act) (w:World) (K:Act→World→Prop),Known ops i its olds it.need μ a→Reads ops i bl μ w→BelX k0 X w0 w→Does P Q bl o it μ a w K it.kind
def liveB (its:List It) (bl:List Bl) (o:Oper) (it:It) (b:Nat):Bool:=
 (match bl[b]? with|some e=>(match e.al with|none=>true|some j=>depB o j)|none=>false) || it.need.any (fun x=>depB o x.2 && (match its[x.2]? with|some jt=>jt.dst.isSome && jt.out.blk == some b|none=>false))
def kindB (its:List It) (bl:List Bl) (i:Nat) (o:Oper) (it:It):Kind→Bool
 | .stay | .pass | .call=>bl.all (fun e=>e.al != some i && e.st != some i) && (match it.out.blk with|none=>true|some b=>liveB its bl o it b)
 | .make b=>(match it.out.blk with|some c=>c == b|none=>false) && bl.zipIdx.all (fun x=>x.1.st != some i && (x.1.al == some i) == (x.2 == b)) && (bl[b]?).isSome
 | .put b=>(match it.out with | .v _=>true|_=>false) && bl.zipIdx.all (fun x=>x.1.al != some i && (x.1.st == some i) == (x.2 == b)) && (match bl[b]? with|some e=>(match e.al with|none=>true|some j=>depB o j)|none=>false)
def Kind.isPass:Kind→Bool
 | .pass=>true
 | _=>false
def guardB (its:List It) (o:Oper) (it:It):Bool:=
 match o.guard with
 | none=>!it.kind.isPass
 | some (j,want)=>depB o j && (match its[j]? with|some jt=>jt.dst.isSome && (match jt.out with | .v (.bool b)=>(b == want) == !it.kind.isPass|_=>false)|none=>false)
def okB (its:List It) (bl:List Bl) (i:Nat) (o:Oper) (it:It):Bool:=
 (o.dst == it.dst) && guardB its o it && o.after.all (fun e=>!Region.binds .any e || e.on<i) && it.need.all (fun tj=>depB o tj.2 && ((its[tj.2]?).bind (·.dst)) == some tj.1) && kindB its bl i o it it.kind
def dstB:List It→Bool
 | []=>true
 | it :: r=>(match it.dst with|none=>true|some d=>r.all (fun jt=>jt.dst != some d)) && dstB r
def oldB (bl:List Bl) (olds:List (Tmp × SV)):Bool:=
 olds.all (fun x=>(match x.2.blk with|none=>true|some b=>match bl[b]? with|some e=>e.al.isNone|none=>false))
def allB (ops:Array Oper) (its:List It) (bl:List Bl) (olds:List (Tmp × SV)) (n:Nat):Bool:=
 ops.size == its.length && dstB its && oldB bl olds && its.all (fun it=>match it.dst with|none=>true|some d=>d<n) &&
 (List.range its.length).all (fun i=>match ops[i]?,its[i]? with|some o,some it=>okB its bl i o it|_,_=>false)
theorem dst_ne:∀ {its:List It},dstB its=true→∀ (i j:Nat) (it jt:It) (d:Tmp),its[i]? = some it→its[j]? = some jt→it.dst=some d→jt.dst=some d→i=j
 | [],_,i,_,_,_,_,h,_,_,_=>by simp at h
 | x :: r,h,i,j,it,jt,d,hi,hj,di,dj=>by
  simp only[dstB,Bool.and_eq_true] at h
  match i,j with
  | 0,0=>rfl
  | 0,j+1 =>
   simp only[List.getElem?_cons_zero,Option.some.injEq] at hi
   simp only[List.getElem?_cons_succ] at hj
   subst hi
   rw[di] at h
   have:=List.all_eq_true.1 h.1 jt (List.mem_of_getElem? hj)
   rw[dj] at this
   simp at this
  | i+1,0 =>
   simp only[List.getElem?_cons_zero,Option.some.injEq] at hj
   simp only[List.getElem?_cons_succ] at hi
   subst hj
   rw[dj] at h
   have:=List.all_eq_true.1 h.1 it (List.mem_of_getElem? hi)
   rw[di] at this
   simp at this
  | i+1,j+1 =>
   simp only[List.getElem?_cons_succ] at hi hj
   rw[dst_ne h.2 i j it jt d hi hj di dj]
theorem live_mono {e:Bl} {i:Nat} (hi:i<L.size) (h:e.live L=true):e.live (L.setIfInBounds i true)=true:=by rw[live_set hi,h,Bool.true_or]
theorem Ac.put {a:Act} {i:Nat} {it:It} (h:Ac its bl a0 L μ a) (hd:dstB its=true) (hi:i<L.size) (hit:its[i]? = some it) (hμ:∀ (b:Nat) (e:Bl),bl[b]? = some e→e.live L=true→μ' b=μ b)
 (hin:∀ d,it.dst=some d→d<a0.tmps.size) (hl:∀ d,it.dst=some d→∀ b,it.out.blk=some b→∃ e:Bl,bl[b]? = some e∧e.live (L.setIfInBounds i true)=true)
 (v:Value) (hv:∀ d,it.dst=some d→v=it.out.at μ'):Ac its bl a0 (L.setIfInBounds i true) μ' (a.put it.dst v):=by
 have hsame:∀ (j:Nat) (jt:It) (d:Tmp),its[j]? = some jt→on L j=true→jt.dst=some d→a.tmps[d]? = some (jt.out.at μ')∧∀ b,jt.out.blk=some b→∃ e:Bl,bl[b]? = some e∧e.live (L.setIfInBounds i true)=true:=fun j jt d hj ho hjd=>by
  obtain ⟨h1,h2⟩:=h.got j jt d hj ho hjd
  refine ⟨?_,fun b hbo=>?_⟩
  ·rw[h1]
   congr 1
   refine SV.at_congr fun b hb=>?_
   obtain ⟨e,he,hl⟩:=h2 b hb
   rw[hμ b e he hl]
  ·obtain ⟨e,he,hl⟩:=h2 b hbo
   exact ⟨e,he,live_mono hi hl⟩
 cases hdst:it.dst with
 | none =>
  show Ac its bl a0 _ μ' a
  refine ⟨h.defers,h.size,fun j jt d hj ho hjd=>?_,fun t ht=>h.rest t fun j jt hj ho=>ht j jt hj (by rw[on_set hi,ho,Bool.true_or])⟩
  rw[on_set hi] at ho
  by_cases hij:i=j
  ·subst hij
   rw[hit] at hj
   obtain rfl:it=jt:=Option.some.inj hj
   rw[hdst] at hjd
   cases hjd
  ·exact hsame j jt d hj (by simpa[hij] using ho) hjd
 | some d0 =>
  have hd0:=hin d0 hdst
  refine ⟨h.defers,?_,fun j jt d hj ho hjd=>?_,fun t ht=>?_⟩
  ·show (a.tmps.setIfInBounds d0 v).size=_
   rw[Array.size_setIfInBounds];exact h.size
  ·show (a.tmps.setIfInBounds d0 v)[d]? = _∧_
   rw[Array.getElem?_setIfInBounds]
   rw[on_set hi] at ho
   by_cases hij:i=j
   ·subst hij
    rw[hit] at hj
    obtain rfl:it=jt:=Option.some.inj hj
    rw[hdst] at hjd
    obtain rfl:d0=d:=Option.some.inj hjd
    rw[if_pos rfl,if_pos (by rw[h.size];exact hd0),hv d0 hdst]
    exact ⟨rfl,hl d0 hdst⟩
   ·have hne:d0≠d:=fun hdd=>hij (dst_ne hd i j it jt d0 hit hj hdst (hdd ▸ hjd))
    rw[if_neg hne]
    exact hsame j jt d hj (by simpa[hij] using ho) hjd
  ·show (a.tmps.setIfInBounds d0 v)[t]? = _
   have hne:d0≠t:=fun hdt=>ht i it hit (by rw[on_set hi];simp) (by rw[hdst,hdt])
   rw[Array.getElem?_setIfInBounds,if_neg hne]
   exact h.rest t fun j jt hj ho=>ht j jt hj (by rw[on_set hi,ho,Bool.true_or])
structure Inv (ops:Array Oper) (its:List It) (bl:List Bl) (a0:Act) (w0:World) (k0:Nat) (X:List Nat) (μ0:Nat→Nat) (L:Array Bool) (a:Act) (w:World):Prop where
 size:L.size=its.length
 cl:∀ (i:Nat) (o:Oper),ops[i]? = some o→on L i=true→∀ e∈o.after,Region.binds .any e=true→on L e.on=true
 all:∃ μ,(∀ (b:Nat) (e:Bl),bl[b]? = some e→e.al=none→μ b=μ0 b)∧Ac its bl a0 L μ a∧Wd w0 k0 X bl L μ w∧∀ (b:Nat) (e:Bl),bl[b]? = some e→e.put L=true→e.live L=true
theorem wanted_none {o:Oper} (h:o.guard=none) (y:Nat→Option Bool):Region.wanted o y=true:=by unfold Region.wanted;rw[h]
theorem zip_all {p:Bl × Nat→Bool} (h:bl.zipIdx.all p=true) (b:Nat) (e:Bl) (hb:bl[b]? = some e):p (e,b)=true:=
 List.all_eq_true.1 h (e,b) (by rw[List.mem_zipIdx_iff_getElem?];exact hb)
theorem two {s t:Option Nat} {i c b:Nat} (h:(s != some i && (t == some i) == (c == b))=true):s≠some i∧(t=some i↔c=b):=by
 rw[Bool.and_eq_true] at h
 refine ⟨by simpa using h.1,?_⟩
 have h2:(t == some i)=(c == b):=by simpa using h.2
 constructor
 ·intro ht
  rw[ht] at h2
  simpa using h2.symm
 ·intro hc
  rw[hc] at h2
  simpa using h2
theorem step {i:Nat} {o:Oper} {it:It} {a:Act} (hd:dstB its=true) (ho:ops[i]? = some o) (hit:its[i]? = some it) (hok:okB its bl i o it=true) (hin:∀ d,it.dst=some d→d<a0.tmps.size)
 (holds:∀ (t:Tmp) (s:SV),(t,s)∈olds→a0.tmps[t]? = some (s.at μ0)∧∀ b,s.blk=some b→∃ e:Bl,bl[b]? = some e∧e.al=none)
 (hdops:∀ (j:Nat) (oj:Oper) (jt:It),ops[j]? = some oj→its[j]? = some jt→oj.dst=jt.dst) (hops:ops.size=its.length) (hc:Cert P Q w0 k0 X ops i its bl olds o it) (hun:on L i=false) (hdep:∀ e∈o.after,Region.binds .any e=true→on L e.on=true) (h:Inv ops its bl a0 w0 k0 X μ0 L a w) :
 wpOp P ops Q i (Inv ops its bl a0 w0 k0 X μ0 (L.setIfInBounds i true)) a w:=by
 obtain ⟨hsz,hcl,μ,hμ,hA,hW,hO⟩:=h
 have hi:i<L.size:=by rw[hsz];exact (List.getElem?_eq_some_iff.1 hit).1
 simp only[okB,Bool.and_eq_true] at hok
 obtain ⟨⟨⟨⟨hdst,hg⟩,haft⟩,hneed⟩,hkind⟩:=hok
 have hdst':o.dst=it.dst:=by simpa using hdst
 have hdepB:∀ j,depB o j=true→on L j=true:=fun j hj=>by
  obtain ⟨e,he,hb⟩:=Array.any_eq_true'.1 hj
  simp only[Bool.and_eq_true,beq_iff_eq] at hb
  rw[← hb.2]
  exact hdep e he hb.1
 have hwant:Region.wanted o (yielded ops a.tmps) = !it.kind.isPass:=by
  unfold Region.wanted
  unfold guardB at hg
  cases hgd:o.guard with
  | none=>rw[hgd] at hg;dsimp only at hg ⊢;rw[hg]
  | some jw =>
   obtain ⟨j,want⟩:=jw
   rw[hgd] at hg
   dsimp only at hg ⊢
   rw[Bool.and_eq_true] at hg
   cases hj:its[j]? with
   | none=>rw[hj] at hg;cases hg.2
   | some jt =>
    rw[hj] at hg
    obtain ⟨h1,h2⟩:=hg
    dsimp only at h2
    rw[Bool.and_eq_true] at h2
    obtain ⟨d,hdj⟩:=Option.isSome_iff_exists.1 h2.1
    have hjl:j<its.length:=(List.getElem?_eq_some_iff.1 hj).1
    have hoj:ops[j]? = some (ops[j]'(by rw[hops];exact hjl)):=Array.getElem?_eq_getElem _
    have h3:=(hA.got j jt d hj (hdepB j h1) hdj).1
    have h4:yielded ops a.tmps j=match jt.out.at μ with | .bool b=>some b|_=>none:=by
     unfold yielded
     rw[hoj]
     show (match (ops[j]'(by rw[hops];exact hjl)).dst.bind (a.tmps[·]?) with|some (.bool b)=>some b|_=>none)=_
     rw[hdops j _ jt hoj hj,hdj]
     show (match a.tmps[d]? with|some (.bool b)=>some b|_=>none)=_
     rw[h3]
     cases jt.out.at μ<;>rfl
    rw[h4]
    have h5:=h2.2
    cases hout:jt.out with
    | p b x=>rw[hout] at h5;cases h5
    | s b x y=>rw[hout] at h5;cases h5
    | t b x y z=>rw[hout] at h5;cases h5
    | v x =>
     rw[hout] at h5
     cases x with
     | bool b =>
      show (some b == some want)=_
      dsimp only at h5
      have:(b == want) = !it.kind.isPass:=by simpa using h5
      rw[← this]
      cases b<;>cases want<;>rfl
     | _=>cases h5
 have hK:Known ops i its olds it.need μ a:=by
  refine ⟨fun t j jt hm hj=>?_,fun t s hm hfree=>?_⟩
  ·have h1:=List.all_eq_true.1 hneed (t,j) hm
   simp only[Bool.and_eq_true,hj] at h1
   have h2:jt.dst=some t:=by simpa using h1.2
   have h3:=(hA.got j jt t hj (hdepB j h1.1) h2).1
   show a.tmps.getD t undef=_
   rw[Array.getD_eq_getD_getElem?,h3]
   rfl
  ·obtain ⟨h2,h3⟩:=holds t s hm
   have h4:=hA.rest t (fun j jt hj hon hdj=>by
    have h5:=List.all_eq_true.1 hfree (jt,j) (by rw[List.mem_zipIdx_iff_getElem?];exact hj)
    dsimp only at h5
    rw[hdj] at h5
    cases hoj:ops[j]? with
    | none=>rw[hoj] at h5;simp at h5
    | some oj =>
     rw[hoj] at h5
     have h6:depB oj i=true:=by simpa using h5
     obtain ⟨e',he',hb'⟩:=Array.any_eq_true'.1 h6
     simp only[Bool.and_eq_true,beq_iff_eq] at hb'
     have:=hcl j oj hoj hon e' he' hb'.1
     rw[hb'.2,hun] at this
     cases this)
   show a.tmps.getD t undef=_
   rw[Array.getD_eq_getD_getElem?,h4,h2]
   show s.at μ0=s.at μ
   refine SV.at_congr fun b hb=>?_
   obtain ⟨e,he,hal⟩:=h3 b hb
   rw[hμ b e he hal]
 have hR:Reads ops i bl μ w:=fun b e hb hal hst=>by
  have:=(hW.has b e hb (by
   unfold Bl.live
   rcases hal with hal|⟨o',j,ho',hal,hd⟩
   ·rw[hal];rfl
   ·rw[hal]
    show on L j=true
    rw[ho] at ho'
    obtain rfl:=Option.some.inj ho'
    exact hdepB j hd)).1
  unfold Bl.now Bl.put at this
  unfold readB at hst
  cases hs:e.st with
  | none=>rw[hs] at this;exact this
  | some s =>
   rw[hs] at this hst
   dsimp only at hst
   cases hos:ops[s]? with
   | none=>rw[hos] at hst;cases hst
   | some os =>
    rw[hos] at hst
    have hns:on L s=false:=by
     cases hon:on L s with
     | false=>rfl
     | true =>
      obtain ⟨e',he',hb'⟩:=Array.any_eq_true'.1 hst
      simp only[Bool.and_eq_true,beq_iff_eq] at hb'
      have:=hcl s os hos hon e' he' hb'.1
      rw[hb'.2,hun] at this
      cases this
    rw[show (Option.map (on L) (some s)).getD false=on L s from rfl,hns] at this
    exact this
 have hlive:∀ b,liveB its bl o it b=true→∃ e:Bl,bl[b]? = some e∧e.live L=true:=fun b hb=>by
  unfold liveB at hb
  rw[Bool.or_eq_true] at hb
  rcases hb with h2|h2
  ·cases he:bl[b]? with
   | none=>rw[he] at h2;cases h2
   | some e =>
    rw[he] at h2
    dsimp only at h2
    refine ⟨e,rfl,?_⟩
    unfold Bl.live
    cases hal:e.al with
    | none=>rfl
    | some j=>rw[hal] at h2;exact hdepB j h2
  ·obtain ⟨x,hx,h3⟩:=List.any_eq_true.1 h2
   rw[Bool.and_eq_true] at h3
   cases hj:its[x.2]? with
   | none=>rw[hj] at h3;cases h3.2
   | some jt =>
    rw[hj] at h3
    dsimp only at h3
    rw[Bool.and_eq_true] at h3
    obtain ⟨d,hd2⟩:=Option.isSome_iff_exists.1 h3.2.1
    exact (hA.got x.2 jt d hj (hdepB x.2 h3.1) hd2).2 b (by simpa using h3.2.2)
 have hcl':∀ (j:Nat) (oj:Oper),ops[j]? = some oj→on (L.setIfInBounds i true) j=true→∀ e∈oj.after,Region.binds .any e=true→on (L.setIfInBounds i true) e.on=true:=fun j oj hoj hon e he hb=>by
  rw[on_set hi] at hon ⊢
  by_cases hij:i=j
  ·subst hij
   rw[ho] at hoj
   obtain rfl:o=oj:=Option.some.inj hoj
   rw[hdep e he hb,Bool.true_or]
  ·rw[hcl j oj hoj (by simpa[hij] using hon) e he hb,Bool.true_or]
 have hsz':(L.setIfInBounds i true).size=its.length:=by rw[Array.size_setIfInBounds];exact hsz
 have hC:=hc μ a w (Inv ops its bl a0 w0 k0 X μ0 (L.setIfInBounds i true)) hK hR hW.bel
 unfold wpOp
 rw[ho]
 dsimp only
 rw[hwant]
 cases hk:it.kind with
 | pass =>
  rw[hk] at hC hkind
  simp only[kindB,Bool.and_eq_true] at hkind
  have hne:∀ (b:Nat) (e:Bl),bl[b]? = some e→e.al≠some i∧e.st≠some i:=fun b e hb=>by simpa using List.all_eq_true.1 hkind.1 e (List.mem_of_getElem? hb)
  have hsame:∀ (b:Nat) (e:Bl),bl[b]? = some e→e.live (L.setIfInBounds i true)=e.live L∧e.put (L.setIfInBounds i true)=e.put L:=fun b e hb =>
   ⟨by rw[live_set hi,show (e.al == some i)=false by simpa using (hne b e hb).1,Bool.or_false],by rw[put_set hi,show (e.st == some i)=false by simpa using (hne b e hb).2,Bool.or_false]⟩
  show Inv ops its bl a0 w0 k0 X μ0 (L.setIfInBounds i true) (a.put o.dst undef) w
  refine ⟨hsz',hcl',μ,hμ,?_,hW.same hsame,fun b e hb=>by rw[(hsame b e hb).1,(hsame b e hb).2];exact hO b e hb⟩
  rw[hdst']
  have hout:it.out=.v undef:=hC
  refine hA.put hd hi hit (fun _ _ _ _=>rfl) hin (fun _ _ b hbx=>?_) _ (fun _ _=>by rw[hout];rfl)
  rw[hout] at hbx
  cases hbx
 | stay =>
  rw[hk] at hC hkind
  simp only[kindB,Bool.and_eq_true] at hkind
  show o.wp P a w _ Q∨_
  left
  refine hC ?_
  have hne:∀ (b:Nat) (e:Bl),bl[b]? = some e→e.al≠some i∧e.st≠some i:=fun b e hb=>by simpa using List.all_eq_true.1 hkind.1 e (List.mem_of_getElem? hb)
  have hsame:∀ (b:Nat) (e:Bl),bl[b]? = some e→e.live (L.setIfInBounds i true)=e.live L∧e.put (L.setIfInBounds i true)=e.put L:=fun b e hb =>
   ⟨by rw[live_set hi,show (e.al == some i)=false by simpa using (hne b e hb).1,Bool.or_false],by rw[put_set hi,show (e.st == some i)=false by simpa using (hne b e hb).2,Bool.or_false]⟩
  refine ⟨hsz',hcl',μ,hμ,?_,hW.same hsame,fun b e hb=>by rw[(hsame b e hb).1,(hsame b e hb).2];exact hO b e hb⟩
  rw[hdst']
  refine hA.put hd hi hit (fun _ _ _ _=>rfl) hin (fun _ _ b hbx=>?_) _ (fun _ _=>rfl)
  have h2:=hkind.2
  rw[hbx] at h2
  obtain ⟨e,he,hl⟩:=hlive b h2
  exact ⟨e,he,live_mono hi hl⟩
 | call =>
  rw[hk] at hC hkind
  simp only[kindB,Bool.and_eq_true] at hkind
  show o.wp P a w _ Q∨_
  left
  refine hC fun w' hb'=>?_
  have hne:∀ (b:Nat) (e:Bl),bl[b]? = some e→e.al≠some i∧e.st≠some i:=fun b e hb=>by simpa using List.all_eq_true.1 hkind.1 e (List.mem_of_getElem? hb)
  have hsame:∀ (b:Nat) (e:Bl),bl[b]? = some e→e.live (L.setIfInBounds i true)=e.live L∧e.put (L.setIfInBounds i true)=e.put L:=fun b e hb =>
   ⟨by rw[live_set hi,show (e.al == some i)=false by simpa using (hne b e hb).1,Bool.or_false],by rw[put_set hi,show (e.st == some i)=false by simpa using (hne b e hb).2,Bool.or_false]⟩
  refine ⟨hsz',hcl',μ,hμ,?_,(hW.call hb').same hsame,fun b e hb=>by rw[(hsame b e hb).1,(hsame b e hb).2];exact hO b e hb⟩
  rw[hdst']
  refine hA.put hd hi hit (fun _ _ _ _=>rfl) hin (fun _ _ b hbx=>?_) _ (fun _ _=>rfl)
  have h2:=hkind.2
  rw[hbx] at h2
  obtain ⟨e,he,hl⟩:=hlive b h2
  exact ⟨e,he,live_mono hi hl⟩
 | make b =>
  rw[hk] at hC hkind
  simp only[kindB,Bool.and_eq_true] at hkind
  obtain ⟨⟨hout,hz⟩,hb0⟩:=hkind
  obtain ⟨e,hbe⟩:=Option.isSome_iff_exists.1 hb0
  have ha:e.al=some i:=(two (zip_all hz b e hbe)).2.2 rfl
  have hstn:∀ (c:Nat) (f:Bl),bl[c]? = some f→f.st≠some i:=fun c f hc=>(two (zip_all hz c f hc)).1
  have haln:∀ (c:Nat) (f:Bl),bl[c]? = some f→c≠b→f.al≠some i:=fun c f hc hcb h=>hcb ((two (zip_all hz c f hc)).2.1 h)
  have hlv:e.live L=false:=by unfold Bl.live;rw[ha];exact hun
  have hpt:e.put L=false:=by
   cases hp:e.put L with
   | false=>rfl
   | true=>have:=hO b e hbe hp;rw[hlv] at this;cases this
  have hout':it.out.blk=some b:=by
   cases hoo:it.out.blk with
   | none=>rw[hoo] at hout;cases hout
   | some c =>
    rw[hoo] at hout
    rw[show c=b by simpa using hout]
  show o.wp P a w _ Q∨_
  left
  refine hC e hbe fun k w' hm=>?_
  have hμb:∀ (c:Nat) (f:Bl),bl[c]? = some f→f.live L=true→upd μ b k c=μ c:=fun c f hc hl=>by
   unfold upd
   rw[if_neg]
   rintro rfl
   rw[hbe] at hc
   obtain rfl:e=f:=Option.some.inj hc
   rw[hlv] at hl
   cases hl
  refine ⟨hsz',hcl',upd μ b k,fun c f hc hal=>?_,?_,hW.make hi hbe ha haln hstn hpt hm,fun c f hc=>?_⟩
  ·rw[hμb c f hc (by unfold Bl.live;rw[hal];rfl)]
   exact hμ c f hc hal
  ·rw[hdst']
   refine hA.put hd hi hit hμb hin (fun _ _ c hcx=>?_) _ (fun _ _=>rfl)
   rw[hout'] at hcx
   have h1:b=c:=Option.some.inj hcx
   subst h1
   exact ⟨e,hbe,by rw[live_set hi,ha];simp⟩
  ·rw[put_set hi,show (f.st == some i)=false by simpa using hstn c f hc,Bool.or_false]
   exact fun hp=>live_mono hi (hO c f hc hp)
 | put b =>
  rw[hk] at hC hkind
  simp only[kindB,Bool.and_eq_true] at hkind
  obtain ⟨⟨hdn,hz⟩,hb0⟩:=hkind
  cases hbe:bl[b]? with
  | none=>rw[hbe] at hb0;cases hb0
  | some e =>
   rw[hbe] at hb0
   dsimp only at hb0
   have hs:e.st=some i:=(two (zip_all hz b e hbe)).2.2 rfl
   have haln:∀ (c:Nat) (f:Bl),bl[c]? = some f→f.al≠some i:=fun c f hc=>(two (zip_all hz c f hc)).1
   have hstn:∀ (c:Nat) (f:Bl),bl[c]? = some f→c≠b→f.st≠some i:=fun c f hc hcb h=>hcb ((two (zip_all hz c f hc)).2.1 h)
   have hlv:e.live L=true:=by
    unfold Bl.live
    cases hal:e.al with
    | none=>rfl
    | some j =>
     have h2:=hb0
     rw[hal] at h2
     exact hdepB j h2
   show o.wp P a w _ Q∨_
   left
   have hpn:e.put L=false:=by unfold Bl.put;rw[hs];exact hun
   have hnow:e.now L=e.before:=by unfold Bl.now;rw[hpn];rfl
   refine hC e hbe (hW.has b e hbe hlv).2.1 (hnow ▸ (hW.has b e hbe hlv).1) fun w' hPT=>?_
   refine ⟨hsz',hcl',μ,hμ,?_,hW.put hi hbe hs hlv hPT hstn haln,fun c f hc hp=>?_⟩
   ·rw[hdst']
    refine hA.put hd hi hit (fun _ _ _ _=>rfl) hin (fun d hdd c hcx=>?_) _ (fun d hdd=>rfl)
    cases hoo:it.out with
    | v x=>rw[hoo] at hcx;cases hcx
    | p x y=>rw[hoo] at hdn;cases hdn
    | s x y z=>rw[hoo] at hdn;cases hdn
    | t x y z u=>rw[hoo] at hdn;cases hdn
   ·rw[live_set hi,show (f.al == some i)=false by simpa using haln c f hc,Bool.or_false]
    rw[put_set hi] at hp
    by_cases hcb:c=b
    ·subst hcb
     rw[hbe] at hc
     obtain rfl:e=f:=Option.some.inj hc
     exact hlv
    ·rw[show (f.st == some i)=false by simpa using hstn c f hc hcb,Bool.or_false] at hp
     exact hO c f hc hp
end RG
namespace RG
open Go Go.RowKit
variable {P:Program} {ops:Array Oper} {Q:Exit→Act→World→Prop} {w0 w:World} {k0:Nat} {X:List Nat} {its:List It} {bl:List Bl} {olds:List (Tmp × SV)} {a0:Act} {L:Array Bool} {μ μ0:Nat→Nat}
def puts (μ:Nat→Nat):List It→Act→Act
 | [],a=>a
 | it :: r,a=>puts μ r (a.put it.dst (it.out.at μ))
theorem puts_defers (μ:Nat→Nat):∀ (its:List It) (a:Act),(puts μ its a).defers=a.defers
 | [],_=>rfl
 | it :: r,a=>by
  rw[puts,puts_defers μ r]
  cases it.dst<;>rfl
theorem put_size (a:Act) (d:Option Tmp) (v:Value):(a.put d v).tmps.size=a.tmps.size:=by
 cases d with
 | none=>rfl
 | some d=>exact Array.size_setIfInBounds ..
theorem puts_size (μ:Nat→Nat):∀ (its:List It) (a:Act),(puts μ its a).tmps.size=a.tmps.size
 | [],_=>rfl
 | it :: r,a=>by rw[puts,puts_size μ r,put_size]
theorem put_other (a:Act) {d:Option Tmp} (v:Value) {t:Tmp} (h:d≠some t):(a.put d v).tmps[t]? = a.tmps[t]?:=by
 cases d with
 | none=>rfl
 | some d =>
  show (a.tmps.setIfInBounds d v)[t]? = _
  rw[Array.getElem?_setIfInBounds,if_neg (fun e=>h (by rw[e]))]
theorem puts_other (μ:Nat→Nat):∀ (its:List It) (a:Act) (t:Tmp),(∀ it∈its,it.dst≠some t)→(puts μ its a).tmps[t]? = a.tmps[t]?
 | [],_,_,_=>rfl
 | it :: r,a,t,h=>by
  rw[puts,puts_other μ r _ t (fun x hx=>h x (List.mem_cons_of_mem _ hx)),put_other a _ (h it List.mem_cons_self)]
theorem puts_same (μ:Nat→Nat):∀ (its:List It) (a:Act) (i:Nat) (it:It) (d:Tmp),dstB its=true→its[i]? = some it→it.dst=some d→d<a.tmps.size→(puts μ its a).tmps[d]? = some (it.out.at μ)
 | [],_,i,_,_,_,h,_,_=>by simp at h
 | x :: r,a,0,it,d,hB,h,hd,hs=>by
  obtain rfl:x=it:=by simpa using h
  simp only[dstB,Bool.and_eq_true,hd] at hB
  rw[puts,puts_other μ r _ d (fun y hy=>by simpa using List.all_eq_true.1 hB.1 y hy),hd]
  show (a.tmps.setIfInBounds d _)[d]? = _
  rw[Array.getElem?_setIfInBounds,if_pos rfl,if_pos hs]
 | x :: r,a,i+1,it,d,hB,h,hd,hs=>by
  simp only[dstB,Bool.and_eq_true] at hB
  rw[puts]
  exact puts_same μ r _ i it d hB.2 (by simpa using h) hd (by rw[put_size];exact hs)
theorem Act.ext' {a b:Act} (h1:a.tmps=b.tmps) (h2:a.defers=b.defers):a=b:=by
 cases a;cases b;subst h1;subst h2;rfl
theorem Ac.done {a:Act} (h:Ac its bl a0 L μ a) (hB:dstB its=true) (hin:∀ it∈its,∀ d,it.dst=some d→d<a0.tmps.size) (hall:∀ i,i<its.length→on L i=true):a=puts μ its a0:=by
 refine Act.ext' ?_ (by rw[puts_defers];exact h.defers)
 apply Array.ext_getElem?
 intro t
 by_cases ht:∃ (i:Nat) (it:It),its[i]? = some it∧it.dst=some t
 ·obtain ⟨i,it,hi,hd⟩:=ht
  rw[(h.got i it t hi (hall i (List.getElem?_eq_some_iff.1 hi).1) hd).1,puts_same μ its a0 i it t hB hi hd (hin it (List.mem_of_getElem? hi) t hd)]
 ·rw[h.rest t (fun i it hi _ hd=>ht ⟨i,it,hi,hd⟩),puts_other μ its a0 t (fun it hm hd=>?_)]
  obtain ⟨i,hi⟩:=List.getElem?_of_mem hm
  exact ht ⟨i,it,hi,hd⟩
def unl (L:Array Bool):Nat:=L.toList.countP (fun b=>!b)
theorem count_set:∀ (l:List Bool) (i:Nat),l[i]? = some false→(l.set i true).countP (fun b=>!b)+1=l.countP (fun b=>!b)
 | [],i,h=>by simp at h
 | x :: r,0,h=>by
  obtain rfl:x=false:=by simpa using h
  simp
 | x :: r,i+1,h=>by
  have:=count_set r i (by simpa using h)
  rw[List.set_cons_succ,List.countP_cons,List.countP_cons]
  omega
theorem unl_set {i:Nat} (h:L.getD i true=false):unl (L.setIfInBounds i true)+1=unl L:=by
 unfold unl
 rw[Array.toList_setIfInBounds]
 refine count_set _ _ ?_
 rw[Array.getElem?_toList]
 rw[Array.getD_eq_getD_getElem?] at h
 cases hh:L[i]? with
 | none=>rw[hh] at h;cases h
 | some b=>rw[hh] at h;rw[show b=false from h]
theorem unl_zero (h:unl L=0) (i:Nat) (hi:i<L.size):on L i=true:=by
 have h1:=List.countP_eq_zero.1 h
 have h2:=h1 L[i] (by simp)
 unfold on
 rw[Array.getD_eq_getD_getElem?,Array.getElem?_eq_getElem hi]
 simpa using h2
structure Reg (P:Program) (ops:Array Oper) (Q:Exit→Act→World→Prop) (w0:World) (k0:Nat) (X:List Nat) (its:List It) (bl:List Bl) (olds:List (Tmp × SV)) (a0:Act) (μ0:Nat→Nat):Prop where
 chk:allB ops its bl olds a0.tmps.size=true
 old:∀ (t:Tmp) (s:SV),(t,s)∈olds→a0.tmps[t]? = some (s.at μ0)
 cert:∀ (i:Nat) (o:Oper) (it:It),ops[i]? = some o→its[i]? = some it→Cert P Q w0 k0 X ops i its bl olds o it
theorem Reg.step {i:Nat} {o:Oper} {a:Act} (R:Reg P ops Q w0 k0 X its bl olds a0 μ0) (ho:ops[i]? = some o) (hun:on L i=false) (hdep:∀ e∈o.after,Region.binds .any e=true→on L e.on=true) (h:Inv ops its bl a0 w0 k0 X μ0 L a w) :
 wpOp P ops Q i (Inv ops its bl a0 w0 k0 X μ0 (L.setIfInBounds i true)) a w:=by
 have hk:=R.chk
 simp only[allB,Bool.and_eq_true,beq_iff_eq] at hk
 obtain ⟨⟨⟨⟨hsz,hd⟩,hold⟩,hin⟩,hok⟩:=hk
 have hi:i<its.length:=by rw[← hsz];exact (Array.getElem?_eq_some_iff.1 ho).1
 obtain ⟨it,hit⟩:∃ it,its[i]? = some it:=⟨its[i],List.getElem?_eq_getElem hi⟩
 have h1:=List.all_eq_true.1 hok i (List.mem_range.2 hi)
 rw[ho,hit] at h1
 refine RG.step (olds:=olds) hd ho hit h1 (fun d hdd=>?_) (fun t s hm=>?_) (fun j oj jt hoj hjt=>?_) hsz (R.cert i o it ho hit) hun hdep h
 ·have:=List.all_eq_true.1 hin it (List.mem_of_getElem? hit)
  rw[hdd] at this
  simpa using this
 ·have h2:=List.all_eq_true.1 hold (t,s) hm
  refine ⟨R.old t s hm,fun b hbx=>?_⟩
  have h3:=h2
  dsimp only at h3
  rw[hbx] at h3
  dsimp only at h3
  cases he:bl[b]? with
  | none=>rw[he] at h3;cases h3
  | some e=>rw[he] at h3;exact ⟨e,rfl,by simpa using h3⟩
 ·have h4:=List.all_eq_true.1 hok j (List.mem_range.2 (List.getElem?_eq_some_iff.1 hjt).1)
  rw[hoj,hjt] at h4
  simp only[okB,Bool.and_eq_true] at h4
  simpa using h4.1.1.1.1
theorem Reg.back {i:Nat} {o:Oper} (R:Reg P ops Q w0 k0 X its bl olds a0 μ0) (ho:ops[i]? = some o):i<its.length∧∀ e∈o.after,Region.binds .any e=true→e.on<i:=by
 have hk:=R.chk
 simp only[allB,Bool.and_eq_true,beq_iff_eq] at hk
 obtain ⟨⟨⟨⟨hsz,hd⟩,hold⟩,hin⟩,hok⟩:=hk
 have hi:i<its.length:=by rw[← hsz];exact (Array.getElem?_eq_some_iff.1 ho).1
 have h1:=List.all_eq_true.1 hok i (List.mem_range.2 hi)
 rw[ho,List.getElem?_eq_getElem hi] at h1
 simp only[okB,Bool.and_eq_true] at h1
 refine ⟨hi,fun e he hb=>?_⟩
 have:=Array.all_eq_true'.1 h1.1.1.2 e he
 simpa[hb] using this
theorem Reg.size (R:Reg P ops Q w0 k0 X its bl olds a0 μ0):ops.size=its.length:=by
 have hk:=R.chk
 simp only[allB,Bool.and_eq_true,beq_iff_eq] at hk
 exact hk.1.1.1.1
theorem Reg.full {a:Act} (R:Reg P ops Q w0 k0 X its bl olds a0 μ0) (h:Inv ops its bl a0 w0 k0 X μ0 L a w) (hr:Region.ready .any ops L=[]):∀ i,i<its.length→on L i=true:=by
 intro i
 induction i using Nat.strongRecOn with
 | ind i ih =>
  intro hi
  have ho:ops[i]? = some (ops[i]'(by rw[R.size];exact hi)):=Array.getElem?_eq_getElem _
  cases hon:on L i with
  | true=>rfl
  | false =>
   have:i∈Region.ready .any ops L:=mem_ready.2 ⟨?_,_,ho,fun e he hb=>?_⟩
   ·rw[hr] at this;cases this
   ·unfold on at hon
    rw[Array.getD_eq_getD_getElem?,Array.getElem?_eq_getElem (by rw[h.size];exact hi)] at hon ⊢
    exact hon
   ·have hlt:=(R.back ho).2 e he hb
    exact ih e.on hlt (Nat.lt_trans hlt hi)
def ad (ks:List Nat) (b:Nat):Nat:=ks.getD b 0
structure St (w0:World) (k0:Nat) (X:List Nat) (cs:List (List Value)) (ks:List Nat) (w:World):Prop where
 bel:BelX k0 X w0 w
 le:k0≤w.heap.size
 len:ks.length=cs.length
 has:∀ (b:Nat) (c:List Value),cs[b]? = some c→w.rangeAt (ad ks b) 0 c∧w.there (ad ks b) 0 c.length∧ad ks b<w.heap.size∧(k0≤ad ks b∨ad ks b∈X)
 inj:∀ (b c:Nat),b<cs.length→c<cs.length→b≠c→ad ks b≠ad ks c
theorem St.drew {cs:List (List Value)} {ks:List Nat} (h:St w0 k0 X cs ks w):St w0 k0 X cs ks w.drew:=⟨h.bel.drew,h.le,h.len,h.has,h.inj⟩
def Bl.fin (e:Bl):List Value:=if e.st.isSome=true then e.after else e.before
def startB (bl:List Bl) (n:Nat):Bool:=bl.zipIdx.all (fun x=>x.1.al.isNone == decide (x.2<n)) && decide (n≤bl.length)
theorem start_inv {ops:Array Oper} {cs:List (List Value)} {ks:List Nat} (hS:St w0 k0 X cs ks w) (hB:startB bl cs.length=true) (hcs:(bl.map (·.before)).take cs.length=cs) :
 Inv ops its bl a0 w0 k0 X (ad ks) (Array.replicate its.length false) a0 w:=by
 simp only[startB,Bool.and_eq_true] at hB
 have hoff:∀ i,on (Array.replicate its.length false) i=false:=fun i=>by
  unfold on
  rw[Array.getD_eq_getD_getElem?,Array.getElem?_replicate]
  by_cases h:i<its.length
  ·rw[if_pos h];rfl
  ·rw[if_neg h];rfl
 have hlive:∀ (b:Nat) (e:Bl),bl[b]? = some e→e.live (Array.replicate its.length false)=true→b<cs.length:=fun b e hb hl=>by
  have h1:=zip_all hB.1 b e hb
  unfold Bl.live at hl
  cases ha:e.al with
  | none=>simpa[ha] using h1
  | some j=>rw[ha] at hl;have:on (Array.replicate its.length false) j=true:=hl;rw[hoff] at this;cases this
 have hput:∀ e:Bl,e.put (Array.replicate its.length false)=false:=fun e=>by
  unfold Bl.put
  cases e.st with
  | none=>rfl
  | some j=>exact hoff j
 have hget:∀ (b:Nat) (e:Bl),bl[b]? = some e→b<cs.length→cs[b]? = some e.before:=fun b e hb hlt=>by
  rw[← hcs,List.getElem?_take,if_pos hlt,List.getElem?_map,hb]
  rfl
 refine ⟨Array.size_replicate,(fun i o _ h=>by rw[hoff] at h;cases h),ad ks,fun _ _ _ _=>rfl,⟨rfl,rfl,fun i it d hi ho=>?_,fun _ _=>rfl⟩,⟨hS.bel,hS.le,fun b e hb hl=>?_,fun b c e f hb hc he hf hbc=>hS.inj b c (hlive b e hb he) (hlive c f hc hf) hbc⟩,fun b e hb hp=>?_⟩
 ·rw[hoff] at ho;cases ho
 ·unfold Bl.now
  rw[hput e]
  exact hS.has b e.before (hget b e hb (hlive b e hb hl))
 ·rw[hput e] at hp;cases hp
theorem Inv.done {a:Act} {cs:List (List Value)} {ks:List Nat} (R:Reg P ops Q w0 k0 X its bl olds a0 (ad ks)) (h:Inv ops its bl a0 w0 k0 X (ad ks) L a w) (hlen:ks.length=cs.length) (hB:startB bl cs.length=true) (hall:∀ i,i<its.length→on L i=true)
 (hst:∀ e∈bl,∀ j,e.al=some j∨e.st=some j→j<its.length) (hlenb:∀ e∈bl,e.fin.length=e.before.length)
 (hp:∀ (new:List Nat) (w':World),new.length=bl.length-cs.length→St w0 k0 X (bl.map Bl.fin) (ks++new) w'→Q .normal (puts (ad (ks++new)) its a0) w'):Q .normal a w:=by
 obtain ⟨hsz,-,μ,hμ,hA,hW,hO⟩:=h
 have hk:=R.chk
 simp only[allB,Bool.and_eq_true,beq_iff_eq] at hk
 obtain ⟨⟨⟨⟨hsz2,hd⟩,hold⟩,hin⟩,hok⟩:=hk
 have hB':=hB
 simp only[startB,Bool.and_eq_true,decide_eq_true_eq] at hB
 have hlive:∀ (b:Nat) (e:Bl),bl[b]? = some e→e.live L=true:=fun b e hb=>by
  unfold Bl.live
  cases ha:e.al with
  | none=>rfl
  | some j=>exact hall j (hst e (List.mem_of_getElem? hb) j (Or.inl ha))
 have hnow:∀ (b:Nat) (e:Bl),bl[b]? = some e→e.now L=e.fin:=fun b e hb=>by
  unfold Bl.now Bl.put Bl.fin
  cases ha:e.st with
  | none=>rfl
  | some j =>
   have:=hall j (hst e (List.mem_of_getElem? hb) j (Or.inr ha))
   simp[this]
 have hnew:∀ b,b<bl.length→ad (ks++(List.range (bl.length-cs.length)).map (fun j=>μ (cs.length+j))) b=μ b:=fun b hb=>by
  unfold ad
  rw[List.getD_eq_getElem?_getD]
  by_cases hlt:b<cs.length
  ·rw[List.getElem?_append_left (by rw[hlen];exact hlt)]
   obtain ⟨e,he⟩:∃ e,bl[b]? = some e:=⟨bl[b],List.getElem?_eq_getElem hb⟩
   have h1:=zip_all hB.1 b e he
   have h2:e.al=none:=by simpa[hlt] using h1
   rw[hμ b e he h2]
   unfold ad
   rw[List.getD_eq_getElem?_getD]
  ·rw[List.getElem?_append_right (by rw[hlen];omega),List.getElem?_map,hlen,List.getElem?_range (by omega)]
   show μ (cs.length+(b-cs.length))=μ b
   congr 1
   omega
 have hact:=hA.done hd (fun it hm d hdd=>by
  have:=List.all_eq_true.1 hin it hm
  rw[hdd] at this
  simpa using this) hall
 have hpe:puts μ its a0=puts (ad (ks++(List.range (bl.length-cs.length)).map (fun j=>μ (cs.length+j)))) its a0:=by
  have key:∀ it∈its,∀ d,it.dst=some d→it.out.at μ=it.out.at (ad (ks++(List.range (bl.length-cs.length)).map (fun j=>μ (cs.length+j)))):=fun it hm d hdd=>by
   obtain ⟨i,hi⟩:=List.getElem?_of_mem hm
   have hg:=(hA.got i it d hi (hall i (List.getElem?_eq_some_iff.1 hi).1) hdd).2
   refine SV.at_congr fun b hb=>?_
   obtain ⟨e,he,-⟩:=hg b hb
   rw[hnew b (List.getElem?_eq_some_iff.1 he).1]
  clear hA hact hold hok hin hd hsz2 hsz R hall hst hp
  generalize a0=a1
  induction its generalizing a1 with
  | nil=>rfl
  | cons it r ih =>
   rw[puts,puts]
   have h1:a1.put it.dst (it.out.at μ)=a1.put it.dst (it.out.at (ad (ks++(List.range (bl.length-cs.length)).map (fun j=>μ (cs.length+j))))):=by
    cases hdd:it.dst with
    | none=>rfl
    | some d=>rw[key it List.mem_cons_self d hdd]
   rw[h1]
   exact ih (fun x hx=>key x (List.mem_cons_of_mem _ hx)) _
 rw[hact,hpe]
 refine hp _ w (by simp) ⟨hW.bel,hW.le,?_,fun b c hc=>?_,fun b c hb hc hbc=>?_⟩
 ·simp only[List.length_append,List.length_map,List.length_range]
  omega
 ·rw[List.getElem?_map] at hc
  cases he:bl[b]? with
  | none=>rw[he] at hc;cases hc
  | some e =>
   rw[he] at hc
   obtain rfl:e.fin=c:=Option.some.inj hc
   have h1:=hW.has b e he (hlive b e he)
   rw[hnow b e he] at h1
   rw[hnew b (List.getElem?_eq_some_iff.1 he).1,hlenb e (List.mem_of_getElem? he)]
   exact h1
 ·rw[List.length_map] at hb hc
  rw[hnew b hb,hnew c hc]
  exact hW.inj b c _ _ (List.getElem?_eq_getElem hb) (List.getElem?_eq_getElem hc) (hlive b _ (List.getElem?_eq_getElem hb)) (hlive c _ (List.getElem?_eq_getElem hc)) hbc
theorem region_draws' {id:Nat} {cs:List (List Value)} {ks:List Nat} (hm:P.follows .mixedOrders=true) (hS:St w0 k0 X cs ks w) (R:Reg P ops Q w0 k0 X its bl olds a0 (ad ks)) (hB:startB bl cs.length=true) (hcs:(bl.map (·.before)).take cs.length=cs) (hE:(∀ e∈bl,∀ j,e.al=some j∨e.st=some j→j<its.length)∧∀ e∈bl,e.fin.length=e.before.length)
 (hp:∀ (new:List Nat) (w':World),new.length=bl.length-cs.length→St w0 k0 X (bl.map Bl.fin) (ks++new) w'→Q .normal (puts (ad (ks++new)) its a0) w'):(Code.region id ops true).wp P Q a0 w:=by
 obtain ⟨hst,hlenb⟩:=hE
 have key:∀ (fuel:Nat) (L:Array Bool) (a:Act) (w:World),unl L=fuel→Inv ops its bl a0 w0 k0 X (ad ks) L a w→wpAny P .any ops Q fuel L a w:=by
  intro fuel
  induction fuel with
  | zero =>
   intro L a w hu hI
   have hall:∀ i,i<its.length→on L i=true:=fun i hi=>unl_zero hu i (by rw[hI.size];exact hi)
   refine ⟨?_,hI.done R hS.len hB hall hst hlenb hp⟩
   apply List.eq_nil_iff_forall_not_mem.2
   intro i hi
   obtain ⟨h1,o,ho,-⟩:=mem_ready.1 hi
   have h2:=hall i (R.back ho).1
   unfold on at h2
   rw[Array.getD_eq_getD_getElem?] at h1 h2
   cases hh:L[i]? with
   | none=>rw[hh] at h1;cases h1
   | some b=>rw[hh] at h1 h2;rw[show b=false from h1] at h2;cases h2
  | succ fuel ih =>
   intro L a w hu hI
   refine ⟨fun hr=>hI.done R hS.len hB (R.full hI hr) hst hlenb hp,fun i hi=>?_⟩
   obtain ⟨h1,o,ho,hdep⟩:=mem_ready.1 hi
   have hoff:on L i=false:=by
    unfold on
    rw[Array.getD_eq_getD_getElem?] at h1 ⊢
    cases hh:L[i]? with
    | none=>rfl
    | some b=>rw[hh] at h1;exact h1
   exact wpOp_mono (fun a' w' hI'=>ih _ a' w' (by have:=unl_set h1;omega) hI') (R.step ho hoff hdep hI)
 refine wp_region_any hm (key _ _ a0 _ ?_ ?_)
 ·unfold unl
  rw[Array.toList_replicate,List.countP_replicate]
  simp
 ·rw[R.size]
  exact start_inv hS.drew hB hcs
theorem region_text' {id:Nat} {cs:List (List Value)} {ks:List Nat} (hS:St w0 k0 X cs ks w) (R:Reg P ops Q w0 k0 X its bl olds a0 (ad ks)) (hB:startB bl cs.length=true) (hcs:(bl.map (·.before)).take cs.length=cs) (hE:(∀ e∈bl,∀ j,e.al=some j∨e.st=some j→j<its.length)∧∀ e∈bl,e.fin.length=e.before.length)
 (hp:∀ (new:List Nat) (w':World),new.length=bl.length-cs.length→St w0 k0 X (bl.map Bl.fin) (ks++new) w'→Q .normal (puts (ad (ks++new)) its a0) w'):(Code.region id ops false).wp P Q a0 w:=by
 obtain ⟨hst,hlenb⟩:=hE
 have key:∀ (m i:Nat) (L:Array Bool) (a:Act) (w:World),i+m=its.length→(∀ j,j<its.length→on L j=decide (j<i))→Inv ops its bl a0 w0 k0 X (ad ks) L a w→wpOps P ops Q (List.range' i m) a w:=by
  intro m
  induction m with
  | zero =>
   intro i L a w hi hL hI
   exact hI.done R hS.len hB (fun j hj=>by rw[hL j hj];simp;omega) hst hlenb hp
  | succ m ih =>
   intro i L a w hi hL hI
   rw[List.range'_succ,wpOps_cons]
   have ho:ops[i]? = some (ops[i]'(by rw[R.size];omega)):=Array.getElem?_eq_getElem _
   refine wpOp_mono (fun a' w' hI'=>ih (i+1) _ a' w' (by omega) (fun j hj=>?_) hI') (R.step ho (by rw[hL i (by omega)];simp) (fun e he hb=>?_) hI)
   ·rw[on_set (by rw[hI.size];omega),hL j hj]
    by_cases h1:j<i
    ·simp[h1];omega
    ·by_cases h2:i=j
     ·subst h2;simp
     ·have:¬ j<i+1:=by omega
      simp[h1,h2,this]
   ·have hlt:=(R.back ho).2 e he hb
    rw[hL e.on (by omega)]
    simpa using hlt
 refine wp_region ?_
 rw[List.range_eq_range',R.size]
 refine key its.length 0 (Array.replicate its.length false) a0 w (by omega) (fun j hj=>?_) (start_inv hS hB hcs)
 unfold on
 rw[Array.getD_eq_getD_getElem?,Array.getElem?_replicate,if_pos hj]
 simp
end RG
namespace RG
open Go Go.RowKit
variable {P:Program} {Q:Exit→Act→World→Prop} {its:List It} {bl:List Bl} {olds:List (Tmp × SV)} {ops:Array Oper} {i:Nat} {o:Oper} {it:It} {w0:World} {k0:Nat} {X:List Nat}
theorem cert_stay (hk:it.kind=.stay) (hrun:∀ (μ:Nat→Nat) (a:Act) (w:World),Known ops i its olds it.need μ a→BelX k0 X w0 w→(execOp a.eval o).run P w=.ok (.value (it.out.at μ)) w):Cert P Q w0 k0 X ops i its bl olds o it:=by
 intro μ a w K hK _ hbel
 rw[hk]
 intro h
 unfold Oper.wp
 rw[hrun μ a w hK hbel]
 exact h
theorem cert_load (hk:it.kind=.stay) (b off:Nat) (e:Bl) (hb:bl[b]? = some e) (hal:e.al=none) (hst:readB ops i e=true) (T:TypeId) (t:Tmp) (ho:o.op=.load T (.tmp t)) (cs:List Value) (hout:it.out=.v (.agg cs.toArray))
 (hx:∀ (μ:Nat→Nat) (a:Act),Known ops i its olds it.need μ a→a.eval (.tmp t)=(SV.p b off).at μ) (hsub:(e.before.drop off).take cs.length=cs)
 (hu:(P.underlying T).map (·.isRow)=some true) (hi:(P.info? T).map (·.size)=some cs.length):Cert P Q w0 k0 X ops i its bl olds o it:=by
 intro μ a w K hK hR _
 rw[hk]
 intro h
 rw[hout] at h
 obtain ⟨d,hu,hd⟩:=Option.map_eq_some_iff.1 hu
 refine wp_load_mid T (.tmp t) ho (μ b) off (hx μ a hK) cs d (fun j v hj=>?_) hu hd hi h
 have h1:=hR b e hb (Or.inl hal) hst (off+j) v ?_
 ·rw[Nat.zero_add] at h1;exact h1
 ·rw[← hsub] at hj
  have hlt:j<cs.length:=by
   have h2:=(List.getElem?_eq_some_iff.1 hj).1
   rw[hsub] at h2
   exact h2
  rw[List.getElem?_take,if_pos hlt,List.getElem?_drop] at hj
  exact hj
theorem cert_call (hk:it.kind=.call) (f:FuncId) (args:Array Value) (v:Value) (hout:it.out=.v v) (hrun:∀ (μ:Nat→Nat) (a:Act) (w:World),Known ops i its olds it.need μ a→BelX k0 X w0 w→(execOp a.eval o).run P w=.ok (.enter f args) w)
 (hc:∀ w,BelX k0 X w0 w→Calls P f args w (Ret fun e w'=>Below w.heap.size w w'∧e=v)):Cert P Q w0 k0 X ops i its bl olds o it:=by
 intro μ a w K hK _ hbel
 rw[hk]
 intro h
 rw[hout] at h
 unfold Oper.wp
 rw[hrun μ a w hK hbel,Oper.upon_enter]
 refine (hc w hbel).mono ?_
 rintro e w' ⟨v',rfl,hb,rfl⟩
 exact h w' hb
theorem cert_make (b:Nat) (hk:it.kind=.make b) (e:Bl) (hb:bl[b]? = some e) (t:TypeId) (hrun:∀ (μ:Nat→Nat) (a:Act) (w:World),Known ops i its olds it.need μ a→BelX k0 X w0 w→(execOp a.eval o).run P w=.ok (.value (it.out.at (upd μ b w.heap.size))) (w.alloc (.cells e.before.toArray t))):Cert P Q w0 k0 X ops i its bl olds o it:=by
 intro μ a w K hK _ hbel
 rw[hk]
 intro e' hb' h
 rw[hb] at hb'
 obtain rfl:e=e':=Option.some.inj hb'
 unfold Oper.wp
 rw[hrun μ a w hK hbel]
 exact h _ _ (Made.alloc w e.before t)
theorem cert_put (b:Nat) (hk:it.kind=.put b) (e:Bl) (hb:bl[b]? = some e) (T:TypeId) (x y:Operand) (ho:o.op=.store T x y) (hdn:o.dst=none) (hlen:e.after.length=e.before.length)
 (hx:∀ (μ:Nat→Nat) (a:Act),Known ops i its olds it.need μ a→a.eval x=(SV.p b 0).at μ) (hy:∀ (μ:Nat→Nat) (a:Act),Known ops i its olds it.need μ a→a.eval y=.agg e.after.toArray)
 (hi:(P.info? T).map (·.size)=some e.after.length) (h1:e.after.all (·.oneCell')=true):Cert P Q w0 k0 X ops i its bl olds o it:=by
 intro μ a w K hK _ _
 rw[hk]
 intro e' hb' ht hr h
 rw[hb] at hb'
 obtain rfl:e=e':=Option.some.inj hb'
 have hPT:=PutTo.whole ht hr hlen
 refine wp_store_mid T x y ho (μ b) 0 e.after.toArray (hx μ a hK) (hy μ a hK) ?_ ?_ ?_ ?_
 ·rw[List.size_toArray,hlen];exact ht
 ·rw[List.size_toArray];exact hi
 ·exact all_oneCell_toArray (fun v hv=>List.all_eq_true.1 h1 v hv)
 ·have:=h _ hPT
  rw[hdn] at this ⊢
  exact this
theorem Known.op {need:List (Tmp × Nat)} {μ:Nat→Nat} {a:Act} (h:Known ops i its olds need μ a) (t:Tmp) (j:Nat) (hm:(t,j)∈need) {jt:It} (hj:its[j]? = some jt):a.eval (.tmp t)=jt.out.at μ:=h.1 t j jt hm hj
theorem Known.old {need:List (Tmp × Nat)} {μ:Nat→Nat} {a:Act} (h:Known ops i its olds need μ a) (t:Tmp) (s:SV) (hm:(t,s)∈olds) (hf:freeB ops its i t=true):a.eval (.tmp t)=s.at μ:=h.2 t s hm hf
end RG
namespace RG
open Go Go.RowKit
variable {P:Program} {ops:Array Oper} {Q:Exit→Act→World→Prop} {w0 w:World} {k0:Nat} {X:List Nat} {its:List It} {bl:List Bl} {olds:List (Tmp × SV)} {a0:Act} {L:Array Bool} {μ μ0:Nat→Nat} {i:Nat} {o:Oper} {it:It}
def Certs (P:Program) (Q:Exit→Act→World→Prop) (w0:World) (k0:Nat) (X:List Nat) (ops:Array Oper) (its:List It) (bl:List Bl) (olds:List (Tmp × SV)):Nat→List Oper→List It→Prop
 | _,[],_=>True
 | _,_ :: _,[]=>False
 | i,o :: os,it :: is=>Cert P Q w0 k0 X ops i its bl olds o it∧Certs P Q w0 k0 X ops its bl olds (i+1) os is
theorem Certs.get:∀ {os:List Oper} {is:List It} {n:Nat},Certs P Q w0 k0 X ops its bl olds n os is→∀ (i:Nat) (o:Oper) (it:It),os[i]? = some o→is[i]? = some it→Cert P Q w0 k0 X ops (n+i) its bl olds o it
 | [],_,_,_,i,_,_,h,_=>by simp at h
 | _ :: _,[],_,h,_,_,_,_,_=>h.elim
 | o :: os,it :: is,_,h,0,o',it',ho,hi=>by
  obtain rfl:o=o':=by simpa using ho
  obtain rfl:it=it':=by simpa using hi
  exact h.1
 | o :: os,it :: is,n,h,i+1,o',it',ho,hi=>by
  have:=Certs.get h.2 i o' it' (by simpa using ho) (by simpa using hi)
  rw[show n+(i+1)=n+1+i by omega]
  exact this
def Olds (a0:Act) (μ0:Nat→Nat):List (Tmp × SV)→Prop
 | []=>True
 | x :: r=>a0.tmps[x.1]? = some (x.2.at μ0)∧Olds a0 μ0 r
theorem Olds.get:∀ {l:List (Tmp × SV)},Olds a0 μ0 l→∀ (t:Tmp) (s:SV),(t,s)∈l→a0.tmps[t]? = some (s.at μ0)
 | [],_,_,_,h=>by cases h
 | x :: r,h,t,s,hm=>by
  rcases List.mem_cons.1 hm with e|e
  ·subst e;exact h.1
  ·exact Olds.get h.2 t s e
theorem Reg.mk' (chk:allB ops its bl olds a0.tmps.size=true) (old:Olds a0 μ0 olds) (cert:Certs P Q w0 k0 X ops its bl olds 0 ops.toList its):Reg P ops Q w0 k0 X its bl olds a0 μ0:=
 ⟨chk,fun t s hm=>old.get t s hm,fun i o it ho hi=>by have:=cert.get i o it (by rw[Array.getElem?_toList];exact ho) hi;rwa[Nat.zero_add] at this⟩
theorem cert_call1 (hk:it.kind=.call) (f:FuncId) (t1:Tmp) (v1 v:Value) (hout:it.out=.v v) (hrun:∀ (a:Act) (w:World),(execOp a.eval o).run P w=.ok (.enter f #[a.eval (.tmp t1)]) w)
 (h1:∀ (μ:Nat→Nat) (a:Act),Known ops i its olds it.need μ a→a.eval (.tmp t1)=v1) (hc:∀ w,Calls P f #[v1] w (Ret fun e w'=>Below w.heap.size w w'∧e=v)):Cert P Q w0 k0 X ops i its bl olds o it:=
 cert_call hk f #[v1] v hout (fun μ a w hK _=>by rw[hrun,h1 μ a hK]) (fun w _=>hc w)
theorem at_made {b k:Nat} (hout:it.out=.p b 0):it.out.at (upd μ b k)=.pointer (some ⟨k,0,none⟩):=by
 rw[hout]
 show Value.pointer (some ⟨upd μ b k b,0,none⟩)=_
 unfold upd
 rw[if_pos rfl]
theorem cert_alloc (b:Nat) (hk:it.kind=.make b) (hout:it.out=.p b 0) (e:Bl) (hb:bl[b]? = some e) (T:TypeId) (ho:o.op=.alloc T) (hz:∀ w:World,(Instr.alloc T true (.tuple #[])).run P w=.ok (.pointer (some ⟨w.heap.size,0,none⟩)) (w.alloc (.cells e.before.toArray T))):Cert P Q w0 k0 X ops i its bl olds o it:=by
 refine cert_make b hk e hb T fun μ a w hK _=>?_
 unfold execOp
 rw[ho]
 rw[at_made hout]
 show ((Instr.alloc T true (.tuple #[])) >>= fun v=>pure (Next.value v)).run P w=_
 rw[Sem.run_bind,hz]
 rfl
theorem results_row {fn:Func} {a:Act} {cs:List (List Value)} {ks:List Nat} (hS:St w0 k0 X cs ks w) (t:Tmp) (T:TypeId) (hr:fn.results=#[.cell t T]) (b:Nat) (c:List Value) (hc:cs[b]? = some c) (ht:a.tmps[t]? = some (.pointer (some ⟨ad ks b,0,none⟩)))
 (hu:(P.underlying T).map (·.isRow)=some true) (hi:(P.info? T).map (·.size)=some c.length):(results fn a.tmps).run P w=.ok (.agg c.toArray) w:=by
 obtain ⟨d,hu,hd⟩:=Option.map_eq_some_iff.1 hu
 have h1:=run_loadVar_mid (P:=P) w (ad ks b) 0 T c d (hS.has b c hc).1 hu hd hi
 have h2:a.tmps.getD t undef=.pointer (some ⟨ad ks b,0,none⟩):=by rw[Array.getD_eq_getD_getElem?,ht];rfl
 unfold results
 rw[hr]
 simp only[Array.mapM_eq_mapM_toList,List.mapM_cons,List.mapM_nil,h2,asAddr]
 simp[Sem.run_bind,h1]
theorem St.begin (w:World):St w w.heap.size [] [] [] w:=⟨BelX.refl _ _ _,Nat.le_refl _,rfl,fun b c h=>by simp at h,fun b c h=>by simp at h⟩
end RG
namespace NT
def IsP (n:Nat):Prop:=2≤n∧∀ m,m ∣ n→m=1∨m=n
theorem IsP.cop {p k:Nat} (h:IsP p) (h0:0<k) (hk:k<p):Nat.Coprime p k:=by
 unfold Nat.Coprime
 rcases h.2 _ (Nat.gcd_dvd_left p k) with e|e
 ·exact e
 ·have:=Nat.le_of_dvd h0 (Nat.gcd_dvd_right p k)
  omega
theorem IsP.cop_of {p k:Nat} (h:IsP p) (hk:¬ p ∣ k):Nat.Coprime p k:=by
 unfold Nat.Coprime
 rcases h.2 _ (Nat.gcd_dvd_left p k) with e|e
 ·exact e
 ·exact absurd (e ▸ Nat.gcd_dvd_right p k) hk
theorem IsP.euclid {p a b:Nat} (h:IsP p) (hd:p ∣ a*b):p ∣ a∨p ∣ b:=by
 by_cases ha:p ∣ a
 ·exact Or.inl ha
 ·exact Or.inr ((h.cop_of ha).dvd_of_dvd_mul_left hd)
/-! the binomials -/
def ch : Nat → Nat → Nat
  | _, 0 => 1
  | 0, _ + 1 => 0
  | n + 1, k + 1 => ch n k + ch n (k + 1)
theorem ch_zero (n:Nat):ch n 0=1:=by cases n<;>rfl
theorem ch_above:∀ (n k:Nat),n<k→ch n k=0
 | 0,k+1,_=>rfl
 | n+1,k+1,h=>by
  rw[ch,ch_above n k (by omega),ch_above n (k+1) (by omega)]
theorem ch_self:∀ (n:Nat),ch n n=1
 | 0=>rfl
 | n+1=>by rw[ch,ch_self n,ch_above n (n+1) (by omega)]
theorem ch_step:∀ (n k:Nat),(k+1)*ch (n+1) (k+1)=(n+1)*ch n k
 | 0,0=>rfl
 | 0,k+1=>by simp[ch]
 | n+1,0=>by
  have h:=ch_step n 0
  have e:ch (n+1+1) (0+1)=ch (n+1) 0+ch (n+1) (0+1):=rfl
  rw[ch_zero] at h
  rw[e,ch_zero]
  omega
 | n+1,k+1=>by
  have h1:=ch_step n k
  have h2:=ch_step n (k+1)
  have e:ch (n+1+1) (k+1+1)=ch (n+1) (k+1)+ch (n+1) (k+1+1):=rfl
  have e3:ch (n+1) (k+1)=ch n k+ch n (k+1):=rfl
  rw[e,Nat.mul_add,h2]
  have:(k+1+1)*ch (n+1) (k+1)=(n+1)*ch n k+ch (n+1) (k+1):=by
   rw[← h1,Nat.add_mul (k+1) 1,Nat.one_mul]
  rw[this,e3,Nat.add_mul (n+1) 1,Nat.one_mul,Nat.mul_add]
  omega
def sumTo:Nat→(Nat→Nat)→Nat
 | 0,_=>0
 | n+1,f=>sumTo n f+f n
theorem sumTo_congr (f g:Nat→Nat):∀ n,(∀ k,k<n→f k=g k)→sumTo n f=sumTo n g
 | 0,_=>rfl
 | n+1,h=>by
  rw[sumTo,sumTo,sumTo_congr f g n (fun k hk=>h k (by omega)),h n (by omega)]
theorem sumTo_add (f g:Nat→Nat):∀ n,sumTo n (fun k=>f k+g k)=sumTo n f+sumTo n g
 | 0=>rfl
 | n+1=>by simp only[sumTo];rw[sumTo_add f g n];omega
theorem sumTo_mul (a:Nat) (f:Nat→Nat):∀ n,sumTo n (fun k=>a*f k)=a*sumTo n f
 | 0=>rfl
 | n+1=>by simp only[sumTo];rw[sumTo_mul a f n,Nat.mul_add]
theorem sumTo_front (f:Nat→Nat):∀ n,sumTo (n+1) f=f 0+sumTo n (fun k=>f (k+1))
 | 0=>by simp[sumTo]
 | n+1=>by rw[sumTo,sumTo_front f n];simp only[sumTo];omega
theorem sumTo_dvd (p:Nat) (f:Nat→Nat):∀ n,(∀ k,k<n→p ∣ f k)→p ∣ sumTo n f
 | 0,_=>Nat.dvd_zero p
 | n+1,h=>Nat.dvd_add (sumTo_dvd p f n (fun k hk=>h k (by omega))) (h n (by omega))
theorem binom (a:Nat):∀ n,(a+1)^n=sumTo (n+1) (fun k=>ch n k*a^k)
 | 0=>by simp[sumTo,ch]
 | n+1=>by
  rw[Nat.pow_succ,binom a n,Nat.mul_add,Nat.mul_one]
  rw[sumTo_front (fun k=>ch (n+1) k*a^k) (n+1)]
  have e:sumTo (n+1) (fun k=>ch (n+1) (k+1)*a^(k+1))
   = sumTo (n+1) (fun k=>a*(ch n k*a^k))+sumTo (n+1) (fun k=>ch n (k+1)*a^(k+1)):=by
   rw[← sumTo_add]
   refine sumTo_congr _ _ _ ?_
   intro k _
   show (ch n k+ch n (k+1))*a^(k+1)=_
   rw[Nat.add_mul,Nat.pow_succ]
   have:ch n k*(a^k*a)=a*(ch n k*a^k):=by
    rw[Nat.mul_comm a,Nat.mul_assoc]
   rw[this]
  rw[e,sumTo_mul]
  have e2:sumTo (n+1) (fun k=>ch n k*a^k)
   = ch n 0*a^0+sumTo n (fun k=>ch n (k+1)*a^(k+1)):=sumTo_front (fun k=>ch n k*a^k) n
  have e3:sumTo (n+1) (fun k=>ch n (k+1)*a^(k+1))=sumTo n (fun k=>ch n (k+1)*a^(k+1)):=by
   rw[sumTo,ch_above n (n+1) (by omega),Nat.zero_mul,Nat.add_zero]
  have e4:ch (n+1) 0*a^0=ch n 0*a^0:=by rw[ch_zero,ch_zero]
  rw[e3,e4,Nat.mul_comm _ a]
  omega
theorem IsP.ch_dvd {p k:Nat} (h:IsP p) (hk:k+1<p):p ∣ ch p (k+1):=by
 obtain ⟨n,rfl⟩:∃ n,p=n+1:=⟨p-1,by have:=h.1;omega⟩
 have e:=ch_step n k
 have hd:(n+1) ∣ (k+1)*ch (n+1) (k+1):=e ▸ Nat.dvd_mul_right _ _
 exact (h.cop (by omega) hk).dvd_of_dvd_mul_left hd
theorem IsP.frob {p:Nat} (h:IsP p) (a:Nat):(a+1)^p%p=(a^p+1)%p:=by
 obtain ⟨n,rfl⟩:∃ n,p=n+1:=⟨p-1,by have:=h.1;omega⟩
 rw[binom,sumTo,sumTo_front,ch_self,ch_zero]
 obtain ⟨c,hc⟩:(n+1) ∣ sumTo n (fun k=>ch (n+1) (k+1)*a^(k+1)):=
  sumTo_dvd _ _ _ (fun k hk=>Nat.dvd_mul_right_of_dvd (h.ch_dvd (by omega)) _)
 rw[hc]
 have:1*a^0+(n+1)*c+1*a^(n+1)=(a^(n+1)+1)+(n+1)*c:=by
  rw[Nat.pow_zero];omega
 rw[this,Nat.add_mul_mod_self_left]
theorem IsP.fermat {p:Nat} (h:IsP p):∀ a,a^p%p=a%p
 | 0=>by
  rw[Nat.zero_pow (by have:=h.1;omega)]
 | a+1=>by
  rw[h.frob,Nat.add_mod,h.fermat a,← Nat.add_mod]
theorem IsP.cancel {p a x y:Nat} (h:IsP p) (ha:¬ p ∣ a) (e:a*x%p=a*y%p):x%p=y%p:=by
 have key:∀ x y,y≤x→a*x%p=a*y%p→x%p=y%p:=by
  intro x y hle e
  have h1:p ∣ a*x-a*y:=Nat.dvd_of_mod_eq_zero (Nat.sub_mod_eq_zero_of_mod_eq e)
  rw[← Nat.mul_sub] at h1
  obtain ⟨c,hc⟩:=(h.cop_of ha).dvd_of_dvd_mul_left h1
  have:x=y+p*c:=by omega
  rw[this,Nat.add_mul_mod_self_left]
 rcases Nat.le_total y x with hle|hle
 ·exact key x y hle e
 ·exact (key y x hle e.symm).symm
theorem IsP.fermat1 {p:Nat} (h:IsP p) (a:Nat) (ha:¬ p ∣ a):a^(p-1)%p=1:=by
 obtain ⟨n,rfl⟩:∃ n,p=n+1:=⟨p-1,by have:=h.1;omega⟩
 have e:=h.fermat a
 rw[Nat.pow_succ,Nat.mul_comm] at e
 have:=h.cancel ha (x:=a^n) (y:=1) (by rw[e,Nat.mul_one])
 rw[Nat.add_sub_cancel,this,Nat.mod_eq_of_lt h.1]
/-! powers that are 1 -/
theorem pow_gcd (b r : Nat) (hr : 1<r) (x y : Nat) : b^x%r=1 → b^y%r=1 → b^(Nat.gcd x y)%r=1:=by
  induction x, y using Nat.gcd.induction with
  | H0 n => intro _ h; rw[Nat.gcd_zero_left]; exact h
  | H1 m n hm ih =>
    intro h1 h2
    rw[Nat.gcd_rec]
    refine ih ?_ h1
    have e : b^n=(b^m)^(n/m) * b^(n%m):=by
      rw[← Nat.pow_mul, ← Nat.pow_add, Nat.div_add_mod]
    rw[e, Nat.mul_mod, Nat.pow_mod, h1, Nat.one_pow, Nat.mod_eq_of_lt hr, Nat.one_mul, Nat.mod_mod] at h2
    exact h2
theorem exists_prime:∀ n,2≤n→∃ r,IsP r∧r ∣ n∧(IsP n∨r*r≤n):=by
 intro n
 induction n using Nat.strongRecOn with
 | _ n ih =>
  intro hn
  by_cases hp:IsP n
  ·exact ⟨n,hp,Nat.dvd_refl n,Or.inl hp⟩
  ·have:∃ m,m ∣ n∧m≠1∧m≠n:=by
    refine Classical.byContradiction fun hc=>hp ⟨hn,fun m hm=>?_⟩
    refine Classical.byContradiction fun hc2=>hc ⟨m,hm,fun e=>hc2 (Or.inl e),fun e=>hc2 (Or.inr e)⟩
   obtain ⟨m,⟨k,hk⟩,h1,h2⟩:=this
   have hm0:m≠0:=by intro e;rw[e,Nat.zero_mul] at hk;omega
   have hk0:k≠0:=by intro e;rw[e,Nat.mul_zero] at hk;omega
   have hk1:k≠1:=by intro e;rw[e,Nat.mul_one] at hk;omega
   have hmn:m<n:=by
    have:=Nat.le_of_dvd (by omega) (⟨k,hk⟩:m ∣ n);omega
   have hkn:k<n:=by
    have:=Nat.mul_le_mul_right k (show 2≤m by omega);omega
   rcases Nat.le_total m k with hle|hle
   ·obtain ⟨r,hr,hrd,_⟩:=ih m hmn (by omega)
    have hrm:=Nat.le_of_dvd (by omega) hrd
    refine ⟨r,hr,Nat.dvd_trans hrd ⟨k,hk⟩,Or.inr ?_⟩
    rw[hk];exact Nat.mul_le_mul hrm (Nat.le_trans hrm hle)
   ·obtain ⟨r,hr,hrd,_⟩:=ih k hkn (by omega)
    have hrm:=Nat.le_of_dvd (by omega) hrd
    refine ⟨r,hr,Nat.dvd_trans hrd ⟨m,by rw[hk,Nat.mul_comm]⟩,Or.inr ?_⟩
    rw[hk];exact Nat.mul_le_mul (Nat.le_trans hrm hle) hrm
/-! what of a prime of n - 1 goes into the primes of n -/
theorem part {n q a r : Nat} (hq : IsP q) (hr : IsP r) (hrn : r ∣ n) (hn : 1<n)
    (h1 : a^(n-1)%n=1) (hd : q ∣ n-1) (h2 : Nat.gcd (a^((n-1)/q)%n + (n-1)) n=1) : q ∣ r-1:=by
  have hr2:=hr.1
  have toR : ∀ x y, x%n=y%n → x%r=y%r:=by
    intro x y e
    rw[← Nat.mod_mod_of_dvd x hrn, e, Nat.mod_mod_of_dvd y hrn]
  have hm : a^(n-1)%r=1:=by
    have:=toR (a^(n-1)) 1 (by rw[h1, Nat.mod_eq_of_lt hn])
    rw[this, Nat.mod_eq_of_lt hr2]
  have hra : ¬ r ∣ a:=by
    intro hc
    have hz : a^(n-1)%r=0:=Nat.mod_eq_zero_of_dvd (Nat.dvd_trans hc (by
      have : a^1 ∣ a^(n-1):=Nat.pow_dvd_pow a (by omega)
      rwa[Nat.pow_one] at this))
    omega
  have hb : (a^((n-1)/q))^q%r=1:=by
    rw[← Nat.pow_mul, Nat.div_mul_cancel hd]; exact hm
  have hbr : ¬ r ∣ a^((n-1)/q):=by
    intro hc
    have : r ∣ (a^((n-1)/q))^q:=Nat.dvd_trans hc (by
      have : (a^((n-1)/q))^1 ∣ (a^((n-1)/q))^q:=Nat.pow_dvd_pow _ (by have:=hq.1; omega)
      rwa[Nat.pow_one] at this)
    have:=Nat.mod_eq_zero_of_dvd this
    omega
  have hg:=pow_gcd _ r hr2 q (r-1) hb (hr.fermat1 _ hbr)
  rcases hq.2 _ (Nat.gcd_dvd_left q (r-1)) with e|e
  · rw[e, Nat.pow_one] at hg
    exfalso
    have hx : r ∣ a^((n-1)/q)%n + (n-1):=by
      refine Nat.dvd_of_mod_eq_zero ?_
      have e1 : (a^((n-1)/q)%n)%r=1:=by rw[Nat.mod_mod_of_dvd _ hrn]; exact hg
      have e2 : (n-1 + 1)%r=0:=by
        rw[Nat.sub_add_cancel (by omega)]; exact Nat.mod_eq_zero_of_dvd hrn
      have : (a^((n-1)/q)%n + (n-1))%r=(1 + (n-1))%r:=by
        rw[Nat.add_mod, e1, Nat.add_mod 1 (n-1), Nat.mod_eq_of_lt hr2]
      rw[this, Nat.add_comm, e2]
    have:=Nat.dvd_gcd hx hrn
    rw[h2] at this
    have:=Nat.le_of_dvd (by omega) this
    omega
  · rw[← e]; exact Nat.gcd_dvd_right _ _
theorem pock {n f:Nat} (hn:1<n) (hf:n<(f+1)*(f+1))
 (hall:∀ r,IsP r→r ∣ n→f ∣ r-1):IsP n:=by
 obtain ⟨r,hr,hrn,h|h⟩:=exists_prime n hn
 ·exact h
 ·have:=Nat.le_of_dvd (by have:=hr.1;omega) (hall r hr hrn)
  have h2:f+1≤r:=by have:=hr.1;omega
  have:=Nat.mul_le_mul h2 h2
  omega
/-! trial -/
def trial (n : Nat) : Nat → Nat → Bool
  | 0, _ => true
  | k + 1, d => (n%d != 0) && trial n k (d + 1)
theorem trial_no (n:Nat):∀ k d,trial n k d=true→∀ m,d≤m→m<d+k→¬ m ∣ n
 | 0,_,_,m,_,_=>by omega
 | k+1,d,h,m,h1,h2=>by
  simp only[trial,Bool.and_eq_true,bne_iff_ne,ne_eq] at h
  rcases Nat.lt_or_ge d m with hlt|hge
  ·exact trial_no n k (d+1) h.2 m hlt (by omega)
  ·have:m=d:=by omega
   subst this
   intro hd
   exact h.1 (Nat.mod_eq_zero_of_dvd hd)
theorem small {n k:Nat} (hn:2≤n) (ht:trial n k 2=true) (hk:n<(k+2)*(k+2)):IsP n:=by
 obtain ⟨r,hr,hrn,h|h⟩:=exists_prime n hn
 ·exact h
 ·have h2:=hr.1
  have hlt:r<2+k:=by
   refine Classical.byContradiction fun hc=>?_
   have:=Nat.mul_le_mul (show k+2≤r by omega) (show k+2≤r by omega)
   omega
  exact absurd hrn (trial_no n k 2 ht r h2 hlt)
/-! powers, reckoned -/
def pm (n : Nat) : Nat → Nat → Nat → Nat → Nat
  | 0, _, _, acc => acc
  | k + 1, a, e, acc => pm n k (a * a%n) (e/2) (if e%2=1 then acc * a%n else acc)
theorem pm_eq (n:Nat):∀ k a e acc,e<2^k→acc<n→pm n k a e acc=acc*a^e%n
 | 0,a,e,acc,h,ha=>by
  have:e=0:=by simpa using h
  subst this
  rw[pm,Nat.pow_zero,Nat.mul_one,Nat.mod_eq_of_lt ha]
 | k+1,a,e,acc,h,ha=>by
  have hn:0<n:=by omega
  have hacc:(if e%2=1 then acc*a%n else acc)<n:=by
   split
   ·exact Nat.mod_lt _ hn
   ·exact ha
  rw[pm,pm_eq n k _ _ _ (by rw[Nat.pow_succ] at h;omega) hacc]
  have hsq:∀ y,y*(a*a%n)^(e/2)%n=y*(a*a)^(e/2)%n:=by
   intro y
   rw[Nat.mul_mod,← Nat.pow_mod,← Nat.mul_mod]
  rw[hsq]
  have he:a^e=a^(e%2)*(a*a)^(e/2):=by
   have:(a*a)=a^2:=by rw[Nat.pow_succ,Nat.pow_one]
   rw[this,← Nat.pow_mul,← Nat.pow_add,Nat.mod_add_div]
  rw[he]
  split
  ·rename_i h1
   rw[h1,Nat.pow_one,Nat.mul_mod,Nat.mod_mod,← Nat.mul_mod,Nat.mul_assoc]
  ·rename_i h1
   have:e%2=0:=by omega
   rw[this,Nat.pow_zero,Nat.one_mul]
theorem part' {n q a r k:Nat} (hq:IsP q) (hr:IsP r) (hrn:r ∣ n) (hn:1<n) (hk:n<2^k)
 (h1:pm n k a (n-1) 1=1) (hd:(n-1)%q=0) (h2:Nat.gcd (pm n k a ((n-1)/q) 1+(n-1)) n=1):q ∣ r-1:=by
 rw[pm_eq n k a (n-1) 1 (by omega) hn,Nat.one_mul] at h1
 rw[pm_eq n k a _ 1 (Nat.lt_of_le_of_lt (Nat.div_le_self _ _) (by omega)) hn,Nat.one_mul] at h2
 exact part hq hr hrn hn h1 (Nat.dvd_of_mod_eq_zero hd) h2
/-! the two primes -/
theorem x21 : IsP 1627771:=small (k:=1275) (by decide) (by decide +kernel) (by decide)
theorem x30:IsP 545358713:=small (k:=23352) (by decide) (by decide +kernel) (by decide)
theorem x26:IsP 44706919:=small (k:=6686) (by decide) (by decide +kernel) (by decide)
theorem x17:IsP 120233:=small (k:=346) (by decide) (by decide +kernel) (by decide)
theorem x27:IsP 107590001:=small (k:=10372) (by decide) (by decide +kernel) (by decide)
theorem x23:IsP 7240687:=small (k:=2690) (by decide) (by decide +kernel) (by decide)
theorem x16:IsP 96557:=small (k:=310) (by decide) (by decide +kernel) (by decide)
theorem x39:IsP 297159362677:=
 pock (f:=1627771) (by decide) (by decide +kernel) (fun r hr hd=>part' (k:=39) (a:=2) x21 hr hd (by decide) (by decide +kernel) (by decide +kernel) (by decide +kernel) (by decide +kernel))
theorem c95:IsP 29047611873442575647497758179:=
 pock (f:=(545358713*297159362677)) (by decide) (by decide +kernel) (fun r hr hd=>Nat.Coprime.mul_dvd_of_dvd_of_dvd (by decide +kernel) (part' (k:=95) (a:=2) x30 hr hd (by decide) (by decide +kernel) (by decide +kernel) (by decide +kernel) (by decide +kernel)) (part' (k:=95) (a:=2) x39 hr hd (by decide) (by decide +kernel) (by decide +kernel) (by decide +kernel) (by decide +kernel)))
theorem b68:IsP 174723607534414371449:=
 pock (f:=(44706919*120233)) (by decide) (by decide +kernel) (fun r hr hd=>Nat.Coprime.mul_dvd_of_dvd_of_dvd (by decide +kernel) (part' (k:=68) (a:=2) x26 hr hd (by decide) (by decide +kernel) (by decide +kernel) (by decide +kernel) (by decide +kernel)) (part' (k:=68) (a:=2) x17 hr hd (by decide) (by decide +kernel) (by decide +kernel) (by decide +kernel) (by decide +kernel)))
theorem c109:IsP 341948486974166000522343609283189:=
 pock (f:=29047611873442575647497758179) (by decide) (by decide +kernel) (fun r hr hd=>part' (k:=109) (a:=2) c95 hr hd (by decide) (by decide +kernel) (by decide +kernel) (by decide +kernel) (by decide +kernel))
theorem pN:IsP 115792089237316195423570985008687907852837564279074904382605163141518161494337:=
 pock (f:=(174723607534414371449*341948486974166000522343609283189)) (by decide) (by decide +kernel) (fun r hr hd=>Nat.Coprime.mul_dvd_of_dvd_of_dvd (by decide +kernel) (part' (k:=256) (a:=2) b68 hr hd (by decide) (by decide +kernel) (by decide +kernel) (by decide +kernel) (by decide +kernel)) (part' (k:=256) (a:=2) c109 hr hd (by decide) (by decide +kernel) (by decide +kernel) (by decide +kernel) (by decide +kernel)))
theorem e128:IsP 255515944373312847190720520512484175977:=
 pock (f:=(107590001*7240687*96557)) (by decide) (by decide +kernel) (fun r hr hd=>Nat.Coprime.mul_dvd_of_dvd_of_dvd (by decide +kernel) (Nat.Coprime.mul_dvd_of_dvd_of_dvd (by decide +kernel) (part' (k:=128) (a:=2) x27 hr hd (by decide) (by decide +kernel) (by decide +kernel) (by decide +kernel) (by decide +kernel)) (part' (k:=128) (a:=2) x23 hr hd (by decide) (by decide +kernel) (by decide +kernel) (by decide +kernel) (by decide +kernel))) (part' (k:=128) (a:=2) x16 hr hd (by decide) (by decide +kernel) (by decide +kernel) (by decide +kernel) (by decide +kernel)))
theorem q237:IsP 205115282021455665897114700593932402728804164701536103180137503955397371:=
 pock (f:=255515944373312847190720520512484175977) (by decide) (by decide +kernel) (fun r hr hd=>part' (k:=237) (a:=2) e128 hr hd (by decide) (by decide +kernel) (by decide +kernel) (by decide +kernel) (by decide +kernel))
theorem pP:IsP 115792089237316195423570985008687907853269984665640564039457584007908834671663:=
 pock (f:=205115282021455665897114700593932402728804164701536103180137503955397371) (by decide) (by decide +kernel) (fun r hr hd=>part' (k:=256) (a:=2) q237 hr hd (by decide) (by decide +kernel) (by decide +kernel) (by decide +kernel) (by decide +kernel))
end NT
namespace EC
structure Line {P:Nat} [NeZero P] (x1 y1 x2 y2 l:Fin P):Prop where
 go:y2=y1+l*(x2-x1)
 on:l*(y1+y2)=x1^2+x1*x2+x2^2
variable {P:Nat} [NeZero P]
theorem on_curve (x1 y1 x2 y2 l x4 y4:Fin P) (h1:y1^2=x1^3+7) (h2:y2^2=x2^3+7) (hl:Line x1 y1 x2 y2 l) (hx:x4=l^2-x1-x2) (hy:y4=l*(x1-x4)-y1):y4^2=x4^3+7:=by
 obtain ⟨e,h⟩:=hl
 subst hy hx e
 grobner
theorem assoc_x (x1 y1 x2 x3 l1 l2 y2 y3 x4 y4 x5 y5:Fin P) (L1:Line x1 y1 x2 y2 l1) (L2:Line x2 y2 x3 y3 l2)
 (e4:x4=l1^2-x1-x2) (f4:y4=l1*(x1-x4)-y1) (e5:x5=l2^2-x2-x3) (f5:y5=l2*(x2-x5)-y2) :
 ((y4-y3)^2-(x4+x3)*(x4-x3)^2)*(x5-x1)^2=((y5-y1)^2-(x1+x5)*(x5-x1)^2)*(x4-x3)^2:=by
 obtain ⟨e2,h2⟩:=L1
 obtain ⟨e3,h3⟩:=L2
 subst f4 f5 e4 e5 e3 e2
 grobner
theorem assoc_y (x1 y1 x2 x3 l1 l2 y2 y3 x4 y4 x5 y5:Fin P) (L1:Line x1 y1 x2 y2 l1) (L2:Line x2 y2 x3 y3 l2)
 (e4:x4=l1^2-x1-x2) (f4:y4=l1*(x1-x4)-y1) (e5:x5=l2^2-x2-x3) (f5:y5=l2*(x2-x5)-y2) :
 ((y4-y3)^2-(x3+x4)*(x4-x3)^2)*((y5-y1)*(x4-x3)-(y4-y3)*(x5-x1))+(x4-x3)^2*(((y4-y3)*x3-y3*(x4-x3))*(x5-x1)-((y5-y1)*x1-y1*(x5-x1))*(x4-x3))=0:=by
 obtain ⟨e2,h2⟩:=L1
 obtain ⟨e3,h3⟩:=L2
 subst f4 f5 e4 e5 e3 e2
 grobner (ringSteps:=100000000)
theorem assoc_x2 (x1 y1 x2 x3 l1 l2 y2 y3 x5 y5:Fin P) (L1:Line x1 y1 x2 y2 l1) (L2:Line x2 y2 x3 y3 l2)
 (e4:x3=l1^2-x1-x2) (f4:y3=l1*(x1-x3)-y1) (e5:x5=l2^2-x2-x3) (f5:y5=l2*(x2-x5)-y2) :
 (9*x3^4-8*x3*y3^2)*(x5-x1)^2=((y5-y1)^2-(x1+x5)*(x5-x1)^2)*(4*y3^2):=by
 obtain ⟨e2,h2⟩:=L1
 obtain ⟨e3,h3⟩:=L2
 subst f5 e5 f4 e4 e2
 grobner (ringSteps:=100000000)
theorem assoc_y2 (x1 y1 x2 x3 l1 l2 y2 y3 x5 y5:Fin P) (L1:Line x1 y1 x2 y2 l1) (L2:Line x2 y2 x3 y3 l2)
 (e4:x3=l1^2-x1-x2) (f4:y3=l1*(x1-x3)-y1) (e5:x5=l2^2-x2-x3) (f5:y5=l2*(x2-x5)-y2) :
 (3*x3^2*(x3*(4*y3^2)-(9*x3^4-8*x3*y3^2))-2*y3^2*(4*y3^2))*(x5-x1)=((y5-y1)*(x1*(4*y3^2)-(9*x3^4-8*x3*y3^2))-y1*(x5-x1)*(4*y3^2))*(2*y3):=by
 obtain ⟨e2,h2⟩:=L1
 obtain ⟨e3,h3⟩:=L2
 subst f5 e5 f4 e4 e2
 grobner (ringSteps:=100000000)
end EC
namespace EC
variable {P:Nat} [NeZero P]
theorem val_zero:(0:Fin P).val=0:=by simp
theorem val_one (h:NT.IsP P):(1:Fin P).val=1:=by
 have h2:=h.1
 show 1%P=1
 exact Nat.mod_eq_of_lt (by omega)
theorem nzd (h:NT.IsP P) {a b:Fin P} (e:a*b=0):a=0∨b=0:=by
 have h1:a.val*b.val%P=0:=by
  have:=congrArg Fin.val e
  rw[Fin.val_mul,val_zero] at this
  exact this
 rcases h.euclid (Nat.dvd_of_mod_eq_zero h1) with h2|h2
 ·exact Or.inl (Fin.ext (by rw[val_zero];exact Nat.eq_zero_of_dvd_of_lt h2 a.isLt))
 ·exact Or.inr (Fin.ext (by rw[val_zero];exact Nat.eq_zero_of_dvd_of_lt h2 b.isLt))
theorem mul_ne (h:NT.IsP P) {a b:Fin P} (ha:a≠0) (hb:b≠0):a*b≠0:=fun e=>(nzd h e).elim ha hb
theorem cancel (h:NT.IsP P) {a b c:Fin P} (ha:a≠0) (e:b*a=c*a):b=c:=by
 have h1:(b-c)*a=0:=by grobner
 rcases nzd h h1 with h2|h2
 ·grobner
 ·exact absurd h2 ha
def inv (a:Fin P):Fin P:=Fin.ofNat P (a.val^(P-2))
theorem inv_mul (h:NT.IsP P) {a:Fin P} (ha:a≠0):inv a*a=1:=by
 apply Fin.ext
 have h2:=h.1
 have hn:¬ P ∣ a.val:=fun hd=>ha (Fin.ext (by rw[val_zero];exact Nat.eq_zero_of_dvd_of_lt hd a.isLt))
 rw[Fin.val_mul,val_one h]
 show a.val^(P-2)%P*a.val%P=1
 rw[Nat.mod_mul_mod,← Nat.pow_succ,show (P-2).succ=P-1 by omega]
 exact h.fermat1 _ hn
end EC
namespace EC
variable {P:Nat} [NeZero P]
abbrev Pt (P:Nat):=Option (Fin P × Fin P)
def On:Pt P→Prop
 | none=>True
 | some (x,y)=>y^2=x^3+7
def neg:Pt P→Pt P
 | none=>none
 | some (x,y)=>some (x,-y)
def slope (x1 y1 x2 y2:Fin P):Fin P:=if x1=x2 then 3*x1^2*inv (2*y1) else (y2-y1)*inv (x2-x1)
def third (x1 y1 x2 l:Fin P):Pt P:=some (l^2-x1-x2,l*(x1-(l^2-x1-x2))-y1)
def add:Pt P→Pt P→Pt P
 | none,b=>b
 | a,none=>a
 | some (x1,y1),some (x2,y2)=>if x1=x2∧y2 = -y1 then none else third x1 y1 x2 (slope x1 y1 x2 y2)
theorem same_y (h:NT.IsP P) {x y1 y2:Fin P} (h1:y1^2=x^3+7) (h2:y2^2=x^3+7) (ho:¬ y2 = -y1):y2=y1:=by
 have e:(y2-y1)*(y2+y1)=0:=by grobner
 rcases nzd h e with e|e
 ·grobner
 ·exact absurd (by grobner) ho
theorem twice_ne {x y1:Fin P} (h:NT.IsP P) (h2:(2:Fin P)≠0) (ho:¬ (x=x∧y1 = -y1)):2*y1≠0:=fun e=>by
 rcases nzd h e with e|e
 ·exact h2 e
 ·exact ho ⟨rfl,by rw[e];grobner⟩
theorem slope_line (h:NT.IsP P) (h2:(2:Fin P)≠0) {x1 y1 x2 y2:Fin P} (o1:y1^2=x1^3+7) (o2:y2^2=x2^3+7) (ho:¬ (x1=x2∧y2 = -y1)):Line x1 y1 x2 y2 (slope x1 y1 x2 y2):=by
 unfold slope
 by_cases hx:x1=x2
 ·subst hx
  rw[if_pos rfl]
  have hy:=same_y h o1 o2 (fun e=>ho ⟨rfl,e⟩)
  subst hy
  have hi:=inv_mul h (twice_ne h h2 ho)
  generalize inv (2*y2)=i at hi
  exact ⟨by grobner,by grobner⟩
 ·rw[if_neg hx]
  have hd:x2-x1≠0:=fun e=>hx (by grobner)
  have hi:=inv_mul h hd
  generalize inv (x2-x1)=i at hi
  refine ⟨by grobner,cancel h hd (by grobner)⟩
theorem line_unique (h:NT.IsP P) (h2:(2:Fin P)≠0) {x1 y1 x2 y2 l m:Fin P} (o1:y1^2=x1^3+7) (o2:y2^2=x2^3+7) (ho:¬ (x1=x2∧y2 = -y1)) (L:Line x1 y1 x2 y2 l) (M:Line x1 y1 x2 y2 m):l=m:=by
 obtain ⟨a1,b1⟩:=L
 obtain ⟨a2,b2⟩:=M
 by_cases hx:x1=x2
 ·subst hx
  have hy:=same_y h o1 o2 (fun e=>ho ⟨rfl,e⟩)
  subst hy
  exact cancel h (twice_ne h h2 ho) (by grobner)
 ·have hd:x2-x1≠0:=fun e=>hx (by grobner)
  exact cancel h hd (by grobner)
theorem add_line (h:NT.IsP P) (h2:(2:Fin P)≠0) {x1 y1 x2 y2 l:Fin P} (o1:y1^2=x1^3+7) (o2:y2^2=x2^3+7) (ho:¬ (x1=x2∧y2 = -y1)) (L:Line x1 y1 x2 y2 l):add (some (x1,y1)) (some (x2,y2))=third x1 y1 x2 l:=by
 show (if x1=x2∧y2 = -y1 then none else third x1 y1 x2 (slope x1 y1 x2 y2))=_
 rw[if_neg ho,line_unique h h2 o1 o2 ho (slope_line h h2 o1 o2 ho) L]
theorem add_opp {x1 y1 x2 y2:Fin P} (ho:x1=x2∧y2 = -y1):add (some (x1,y1)) (some (x2,y2))=none:=by
 show (if x1=x2∧y2 = -y1 then none else third x1 y1 x2 (slope x1 y1 x2 y2))=_
 rw[if_pos ho]
theorem add_none (a:Pt P):add a none=a:=by cases a<;>rfl
theorem Line.swap {x1 y1 x2 y2 l:Fin P} (L:Line x1 y1 x2 y2 l):Line x2 y2 x1 y1 l:=by
 obtain ⟨a,b⟩:=L
 exact ⟨by grobner,by grobner⟩
theorem third_swap {x1 y1 x2 y2 l:Fin P} (L:Line x1 y1 x2 y2 l):third x1 y1 x2 l=third x2 y2 x1 l:=by
 obtain ⟨a,b⟩:=L
 unfold third
 have e1:l^2-x1-x2=l^2-x2-x1:=by grobner
 have e2:l*(x1-(l^2-x1-x2))-y1=l*(x2-(l^2-x2-x1))-y2:=by grobner
 rw[e2,e1]
theorem add_comm (h:NT.IsP P) (h2:(2:Fin P)≠0) (a b:Pt P) (ha:On a) (hb:On b):add a b=add b a:=by
 rcases a with _|⟨x1,y1⟩
 ·rw[add_none];rfl
 ·rcases b with _|⟨x2,y2⟩
  ·rfl
  ·by_cases ho:x1=x2∧y2 = -y1
   ·rw[add_opp ho,add_opp ⟨ho.1.symm,by rw[ho.2];grobner⟩]
   ·have ho':¬ (x2=x1∧y1 = -y2):=fun e=>ho ⟨e.1.symm,by rw[e.2];grobner⟩
    have L:=slope_line h h2 ha hb ho
    rw[add_line h h2 ha hb ho L,add_line h h2 hb ha ho' L.swap,third_swap L]
theorem add_on (h:NT.IsP P) (h2:(2:Fin P)≠0) (a b:Pt P) (ha:On a) (hb:On b):On (add a b):=by
 rcases a with _|⟨x1,y1⟩
 ·exact hb
 ·rcases b with _|⟨x2,y2⟩
  ·exact ha
  ·by_cases ho:x1=x2∧y2 = -y1
   ·rw[add_opp ho];trivial
   ·have L:=slope_line h h2 ha hb ho
    rw[add_line h h2 ha hb ho L]
    exact on_curve x1 y1 x2 y2 _ _ _ ha hb L rfl rfl
end EC
namespace EC
variable {P:Nat} [NeZero P]
theorem neg_on {a:Pt P} (h:On a):On (neg a):=by
 rcases a with _|⟨x,y⟩
 ·trivial
 ·have h':y^2=x^3+7:=h
  show (-y)^2=x^3+7
  grobner
theorem neg_neg' (a:Pt P):neg (neg a)=a:=by
 rcases a with _|⟨x,y⟩
 ·rfl
 ·show some (x,- -y)=some (x,y)
  have:- -y=y:=by grobner
  rw[this]
theorem add_neg (a:Pt P):add a (neg a)=none:=by
 rcases a with _|⟨x,y⟩
 ·rfl
 ·exact add_opp ⟨rfl,rfl⟩
theorem Line.neg {x1 y1 x2 y2 l:Fin P} (L:Line x1 y1 x2 y2 l):Line x1 (-y1) x2 (-y2) (-l):=by
 obtain ⟨a,b⟩:=L
 exact ⟨by grobner,by grobner⟩
theorem neg_add (h:NT.IsP P) (h2:(2:Fin P)≠0) {a b:Pt P} (ha:On a) (hb:On b):neg (add a b)=add (neg a) (neg b):=by
 rcases a with _|⟨x1,y1⟩
 ·rfl
 ·rcases b with _|⟨x2,y2⟩
  ·rfl
  ·by_cases ho:x1=x2∧y2 = -y1
   ·rw[add_opp ho]
    exact (add_opp ⟨ho.1,by rw[ho.2]⟩).symm
   ·have L:=slope_line h h2 ha hb ho
    have ho':¬ (x1=x2∧-y2 = - -y1):=fun e=>ho ⟨e.1,by have:=e.2;grobner⟩
    rw[add_line h h2 ha hb ho L]
    refine Eq.trans ?_ (add_line h h2 (neg_on (a:=some (x1,y1)) ha) (neg_on (a:=some (x2,y2)) hb) ho' L.neg).symm
    generalize slope x1 y1 x2 y2=l
    unfold third
    show some (l^2-x1-x2,-(l*(x1-(l^2-x1-x2))-y1))=some ((-l)^2-x1-x2,-l*(x1-((-l)^2-x1-x2)) - -y1)
    have e1:(-l)^2=l^2:=by grobner
    rw[e1]
    have e2:-(l*(x1-(l^2-x1-x2))-y1) = -l*(x1-(l^2-x1-x2)) - -y1:=by grobner
    rw[e2]
theorem Line.back {x2 y2 x3 y3 l x5 y5:Fin P} (L:Line x2 y2 x3 y3 l) (e5:x5=l^2-x2-x3) (f5:y5=l*(x2-x5)-y2):Line x2 (-y2) x5 y5 (-l):=by
 obtain ⟨a,b⟩:=L
 subst f5 e5 a
 exact ⟨by grobner,by grobner (ringSteps:=10000000)⟩
theorem back_x {x2 x3 x5 l:Fin P} (e5:x5=l^2-x2-x3):(-l)^2-x2-x5=x3:=by
 subst e5
 grobner
theorem back_y {x2 x3 y2 y3 l:Fin P} (a:y3=y2+l*(x3-x2)):-l*(x2-x3) - -y2=y3:=by
 subst a
 grobner
theorem no_y {x y:Fin P} (z:y=0) (hb:y^2=x^3+7):x^3+7=0:=by
 have e:y*y=0:=by rw[z];exact Fin.ext (by rw[Fin.val_mul,val_zero];simp)
 grobner
theorem neg_add_add (h:NT.IsP P) (h2:(2:Fin P)≠0) (h7:∀ x:Fin P,x^3+7≠0) {b c:Pt P} (hb:On b) (hc:On c):add (neg b) (add b c)=c:=by
 rcases b with _|⟨x2,y2⟩
 ·rfl
 ·rcases c with _|⟨x3,y3⟩
  ·rw[add_none]
   exact add_opp ⟨rfl,by grobner⟩
  ·have hb':y2^2=x2^3+7:=hb
   have hc':y3^2=x3^3+7:=hc
   by_cases ho:x2=x3∧y3 = -y2
   ·rw[add_opp ho,add_none,ho.1,ho.2]
    rfl
   ·have L:=slope_line h h2 hb hc ho
    have hon:=on_curve x2 y2 x3 y3 _ _ _ hb hc L rfl rfl
    rw[add_line h h2 hb hc ho L]
    generalize slope x2 y2 x3 y3=l at L hon
    obtain ⟨x5,e5⟩:∃ x5,x5=l^2-x2-x3:=⟨_,rfl⟩
    unfold third
    rw[← e5] at hon ⊢
    obtain ⟨y5,f5⟩:∃ y5,y5=l*(x2-x5)-y2:=⟨_,rfl⟩
    rw[← f5] at hon ⊢
    have M:=L.back e5 f5
    have a:=L.go
    clear L
    have ho':¬ (x2=x5∧y5 = - -y2):=fun e=>by
     obtain ⟨u,v⟩:=e
     have z:2*y2=0:=by
      clear hon hb' hc' h7 M ho a e5 h2
      grobner
     rcases nzd h z with z|z
     ·exact h2 z
     ·exact h7 x2 (no_y z hb')
    refine (add_line h h2 (neg_on (a:=some (x2,y2)) hb) hon ho' M).trans ?_
    unfold third
    rw[back_x e5,back_y a]
end EC
namespace EC
variable {P:Nat} [NeZero P]
theorem gen_x (h:NT.IsP P) {x1 x3 x4 x5 y1 y3 y4 y5 l3 l4:Fin P} (d3:x4-x3≠0) (d4:x5-x1≠0) (g3:y4-y3=l3*(x4-x3)) (g4:y5-y1=l4*(x5-x1))
 (hx:((y4-y3)^2-(x4+x3)*(x4-x3)^2)*(x5-x1)^2=((y5-y1)^2-(x1+x5)*(x5-x1)^2)*(x4-x3)^2):l3^2-x4-x3=l4^2-x1-x5:=by
 rw[g3,g4] at hx
 generalize x4-x3=a at d3 hx
 generalize x5-x1=b at d4 hx
 clear g3 g4
 refine cancel h (mul_ne h (mul_ne h d3 d3) (mul_ne h d4 d4)) ?_
 grobner
theorem gen_y (h:NT.IsP P) {x1 x3 x4 x5 y1 y3 y4 y5 l3 l4 X:Fin P} (d3:x4-x3≠0) (d4:x5-x1≠0) (g3:y4-y3=l3*(x4-x3)) (g4:y5-y1=l4*(x5-x1)) (hX:l3^2-x4-x3=X)
 (hy:((y4-y3)^2-(x3+x4)*(x4-x3)^2)*((y5-y1)*(x4-x3)-(y4-y3)*(x5-x1))+(x4-x3)^2*(((y4-y3)*x3-y3*(x4-x3))*(x5-x1)-((y5-y1)*x1-y1*(x5-x1))*(x4-x3))=0):l3*(x4-X)-y4=l4*(x1-X)-y1:=by
 rw[g3,g4] at hy
 have e4:y4=y3+l3*(x4-x3):=by clear hy hX;grobner
 have e5:x4+x3=l3^2-X:=by clear hy;grobner
 rw[e4]
 obtain ⟨a,ha⟩:∃ a,x4-x3=a:=⟨_,rfl⟩
 rw[ha] at d3 hy ⊢
 generalize x5-x1=b at d4 hy
 have e6:(l4*(x1-X)-y1-(l3*(x3-X)-y3))*(a*a*a*b)=0:=by
  have e7:x3+x4=l3^2-X:=by rw[← e5];clear hy;grobner
  rw[e7] at hy
  clear e5 e7 e4 hX g3 g4 ha
  grobner
 rcases nzd h e6 with e|e
 ·have e8:x4=x3+a:=by clear hy e6 e e5 e4 hX g3 g4;grobner
  rw[e8]
  clear hy e6 e5 e4 hX g3 g4 ha e8
  grobner
 ·exact absurd e (mul_ne h (mul_ne h (mul_ne h d3 d3) d3) d4)
theorem dbl_x (h:NT.IsP P) {x1 x3 x5 y1 y3 y5 l3 l4:Fin P} (t3:2*y3≠0) (d4:x5-x1≠0) (g3:l3*(2*y3)=3*x3^2) (g4:y5-y1=l4*(x5-x1))
 (hx:(9*x3^4-8*x3*y3^2)*(x5-x1)^2=((y5-y1)^2-(x1+x5)*(x5-x1)^2)*(4*y3^2)):l3^2-x3-x3=l4^2-x1-x5:=by
 rw[g4] at hx
 generalize x5-x1=b at d4 hx
 clear g4
 refine cancel h (mul_ne h (mul_ne h t3 t3) (mul_ne h d4 d4)) ?_
 have e:9*x3^4=(l3*(2*y3))*(l3*(2*y3)):=by rw[g3];clear hx g3;grobner
 rw[e] at hx
 clear e g3
 grobner
theorem dbl_y (h:NT.IsP P) {x1 x3 x5 y1 y3 y5 l3 l4 X:Fin P} (t3:2*y3≠0) (d4:x5-x1≠0) (g3:l3*(2*y3)=3*x3^2) (g4:y5-y1=l4*(x5-x1)) (hX:l3^2-x3-x3=X)
 (hy:(3*x3^2*(x3*(4*y3^2)-(9*x3^4-8*x3*y3^2))-2*y3^2*(4*y3^2))*(x5-x1)=((y5-y1)*(x1*(4*y3^2)-(9*x3^4-8*x3*y3^2))-y1*(x5-x1)*(4*y3^2))*(2*y3)):l3*(x3-X)-y3=l4*(x1-X)-y1:=by
 rw[g4] at hy
 generalize x5-x1=b at d4 hy
 clear g4
 have e:9*x3^4-8*x3*y3^2=X*(4*y3^2):=by
  have e1:9*x3^4=(l3*(2*y3))*(l3*(2*y3)):=by rw[g3];clear hy g3;grobner
  rw[e1,← hX]
  clear hy e1 g3 hX
  grobner
 rw[e,← g3] at hy
 clear e g3 hX
 refine cancel h (mul_ne h (mul_ne h (mul_ne h t3 t3) t3) d4) ?_
 grobner
end EC
namespace EC
variable {P:Nat} [NeZero P]
theorem sub_ne {a b:Fin P} (h:¬ a=b):a-b≠0:=fun e=>h (by grobner)
theorem Line.run {x1 y1 x2 y2 l:Fin P} (L:Line x1 y1 x2 y2 l):y2-y1=l*(x2-x1)∧y1-y2=l*(x1-x2):=by
 obtain ⟨a,-⟩:=L
 exact ⟨by grobner,by grobner⟩
theorem Line.at {x y l:Fin P} (L:Line x y x y l):l*(2*y)=3*x^2:=by
 obtain ⟨-,b⟩:=L
 grobner
theorem sq_mul {m l d:Fin P} (s:m^2=l^2):(m*d)^2=(l*d)^2:=by grobner
theorem four_of {y1 y2:Fin P} (s:(y1 - -y2)^2=(y1-y2)^2):4*(y1*y2)=0:=by grobner
theorem m_sq {m l x1 x2 x3:Fin P} (r:m^2-x2-x1=x3) (e:x3=l^2-x1-x2):m^2=l^2:=by grobner
theorem sw_e {x l a b:Fin P} (e:x=l^2-a-b):x=l^2-b-a:=by grobner
theorem sw_f {x2 y2 x3 y3 x5 y5 l:Fin P} (L:Line x2 y2 x3 y3 l) (f:y5=l*(x2-x5)-y2):y5=l*(x3-x5)-y3:=by
 obtain ⟨a,-⟩:=L
 grobner
theorem four_ne (h:NT.IsP P) (h2:(2:Fin P)≠0):(4:Fin P)≠0:=fun e=>by
 have:(2:Fin P)*2=0:=by grobner
 rcases nzd h this with e|e<;>exact h2 e
theorem opp_swap {y z:Fin P} (e:y = -z):z = -y:=by grobner
theorem assoc_far (h:NT.IsP P) (h2:(2:Fin P)≠0) {x1 y1 x2 y2 x3 y3 l1 l2 x4 y4 x5 y5:Fin P} (o3:y3^2=x3^3+7) (o1:y1^2=x1^3+7)
 (L1:Line x1 y1 x2 y2 l1) (L2:Line x2 y2 x3 y3 l2) (e4:x4=l1^2-x1-x2) (f4:y4=l1*(x1-x4)-y1) (e5:x5=l2^2-x2-x3) (f5:y5=l2*(x2-x5)-y2)
 (o4:y4^2=x4^3+7) (o5:y5^2=x5^3+7) (h3:¬ (x4=x3∧y3 = -y4)) (h4:¬ (x1=x5∧y5 = -y1)) (hx:¬ x5=x1) :
 add (some (x4,y4)) (some (x3,y3))=add (some (x1,y1)) (some (x5,y5)):=by
 have L3:=slope_line h h2 o4 o3 h3
 have L4:=slope_line h h2 o1 o5 h4
 rw[add_line h h2 o4 o3 h3 L3,add_line h h2 o1 o5 h4 L4]
 generalize slope x4 y4 x3 y3=l3 at L3
 generalize slope x1 y1 x5 y5=l4 at L4
 unfold third
 by_cases hd:x4=x3
 ·have hy:=same_y h o4 (hd ▸ o3) (fun e=>h3 ⟨hd,e⟩)
  subst hd hy
  have t:=twice_ne (x:=x4) h h2 h3
  have hX:=dbl_x h t (sub_ne hx) L3.at L4.run.1 (assoc_x2 x1 y1 x2 x4 l1 l2 y2 y3 x5 y5 L1 L2 e4 f4 e5 f5)
  have hY:=dbl_y h t (sub_ne hx) L3.at L4.run.1 rfl (assoc_y2 x1 y1 x2 x4 l1 l2 y2 y3 x5 y5 L1 L2 e4 f4 e5 f5)
  rw[hY,hX]
 ·have hX:=gen_x h (sub_ne hd) (sub_ne hx) L3.run.2 L4.run.1 (assoc_x x1 y1 x2 x3 l1 l2 y2 y3 x4 y4 x5 y5 L1 L2 e4 f4 e5 f5)
  have hY:=gen_y h (sub_ne hd) (sub_ne hx) L3.run.2 L4.run.1 rfl (assoc_y x1 y1 x2 x3 l1 l2 y2 y3 x4 y4 x5 y5 L1 L2 e4 f4 e5 f5)
  rw[hY,hX]
theorem add_assoc (h:NT.IsP P) (h2:(2:Fin P)≠0) (h7:∀ x:Fin P,x^3+7≠0) (a b c:Pt P) (ha:On a) (hb:On b) (hc:On c):add (add a b) c=add a (add b c):=by
 have comm:=fun (a b:Pt P) (ha:On a) (hb:On b)=>add_comm h h2 a b ha hb
 have hab:=add_on h h2 a b ha hb
 have hbc:=add_on h h2 b c hb hc
 have n1:∀ {u v:Pt P},On u→On v→add (neg u) (add u v)=v:=fun hu hv=>neg_add_add h h2 h7 hu hv
 by_cases z1:b=neg a
 ·subst z1
  rw[add_neg]
  have:=n1 hb hc
  rw[neg_neg'] at this
  exact this.symm
 by_cases z2:c=neg b
 ·subst z2
  rw[add_neg,add_none,comm _ _ hab hc,comm a b ha hb]
  exact n1 hb ha
 by_cases z3:c=neg (add a b)
 ·subst z3
  rw[add_neg]
  have e:add b (neg (add a b))=neg a:=by
   rw[comm a b ha hb,neg_add h h2 hb ha]
   have:=n1 (neg_on hb) (neg_on ha)
   rw[neg_neg'] at this
   exact this
  rw[e,add_neg]
 by_cases z4:add b c=neg a
 ·rw[z4,add_neg]
  have e:a=neg (add b c):=by rw[z4,neg_neg']
  have e2:add a b=neg c:=by
   rw[comm a b ha hb,e,neg_add h h2 hb hc]
   have:=n1 (neg_on hb) (neg_on hc)
   rw[neg_neg'] at this
   exact this
  rw[e2,comm _ _ (neg_on hc) hc,add_neg]
 rcases a with _|⟨x1,y1⟩
 ·rfl
 rcases b with _|⟨x2,y2⟩
 ·rfl
 rcases c with _|⟨x3,y3⟩
 ·rw[add_none,add_none]
 have w1:¬ (x1=x2∧y2 = -y1):=fun e=>z1 (by rw[e.1,e.2];rfl)
 have w2:¬ (x2=x3∧y3 = -y2):=fun e=>z2 (by rw[e.1,e.2];rfl)
 have L1:=slope_line h h2 ha hb w1
 have L2:=slope_line h h2 hb hc w2
 have q1:=add_line h h2 ha hb w1 L1
 have q2:=add_line h h2 hb hc w2 L2
 rw[q1] at hab z3 ⊢
 rw[q2] at hbc z4 ⊢
 generalize slope x1 y1 x2 y2=l1 at L1 q1 hab z3 ⊢
 generalize slope x2 y2 x3 y3=l2 at L2 q2 hbc z4 ⊢
 unfold third at hab hbc z3 z4 q1 q2 ⊢
 obtain ⟨x4,e4⟩:∃ x4,x4=l1^2-x1-x2:=⟨_,rfl⟩
 obtain ⟨x5,e5⟩:∃ x5,x5=l2^2-x2-x3:=⟨_,rfl⟩
 rw[← e4] at hab z3 q1 ⊢
 rw[← e5] at hbc z4 q2 ⊢
 obtain ⟨y4,f4⟩:∃ y4,y4=l1*(x1-x4)-y1:=⟨_,rfl⟩
 obtain ⟨y5,f5⟩:∃ y5,y5=l2*(x2-x5)-y2:=⟨_,rfl⟩
 rw[← f4] at hab z3 q1 ⊢
 rw[← f5] at hbc z4 q2 ⊢
 have w3:¬ (x4=x3∧y3 = -y4):=fun e=>z3 (by rw[e.2,← e.1];rfl)
 have w4:¬ (x1=x5∧y5 = -y1):=fun e=>z4 (by rw[e.2,← e.1];rfl)
 by_cases hx:x5=x1
 ·have hy:y5=y1:=by
   have o5:y5^2=x5^3+7:=hbc
   rw[hx] at o5
   exact same_y h ha o5 (fun e=>w4 ⟨hx.symm,e⟩)
  by_cases hd:x4=x3
  ·exfalso
   have hy4:y3=y4:=by
    have o4:y4^2=x4^3+7:=hab
    exact same_y h o4 (hd ▸ hc) (fun e=>w3 ⟨hd,e⟩)
   have r1:=n1 hb hc
   rw[q2,hx,hy] at r1
   rw[hd,← hy4] at q1
   have hne:¬ x1=x2:=fun e=>by
    subst e
    have hyy:=same_y h ha hb (fun e=>w1 ⟨rfl,e⟩)
    subst hyy
    rw[comm _ _ (neg_on hb) ha,add_neg] at r1
    cases r1
   have u1:¬ (x2=x1∧y1 = - -y2):=fun e=>hne e.1.symm
   have M:=slope_line h h2 (neg_on (a:=some (x2,y2)) hb) ha u1
   have r2:=add_line h h2 (neg_on (a:=some (x2,y2)) hb) ha u1 M
   have r3:third x2 (-y2) x1 (slope x2 (-y2) x1 y1)=some (x3,y3):=r2.symm.trans r1
   generalize slope x2 (-y2) x1 y1=m at M r3
   unfold third at r3
   have r4:m^2-x2-x1=x3:=by injection r3 with r3;injection r3
   have k1:=M.run.1
   have k2:=L1.run.2
   rw[hd] at e4
   have s2:=sq_mul (d:=x1-x2) (m_sq r4 e4)
   rw[← k1,← k2] at s2
   have k3:=four_of s2
   have hne0:∀ {x y:Fin P},y^2=x^3+7→y≠0:=fun o z=>h7 _ (no_y z o)
   rcases nzd h k3 with e|e
   ·exact four_ne h h2 e
   ·rcases nzd h e with e|e
    ·exact hne0 ha e
    ·exact hne0 hb e
  ·-- the same,from the other side
   have hF:=assoc_far h h2 ha hc L2.swap L1.swap (sw_e e5) (sw_f L2 f5) (sw_e e4) (sw_f L1 f4) hbc hab (fun e=>w4 ⟨e.1.symm,opp_swap e.2⟩) (fun e=>w3 ⟨e.1.symm,opp_swap e.2⟩) hd
   rw[comm _ _ hab hc,comm _ _ ha hbc]
   exact hF.symm
 ·exact assoc_far h h2 hc ha L1 L2 e4 f4 e5 f5 hab hbc w3 w4 hx
end EC
namespace EC
variable {P:Nat} [NeZero P]
structure Cur (P:Nat) [NeZero P]:Prop where
 pr:NT.IsP P
 two:(2:Fin P)≠0
 sev:∀ x:Fin P,x^3+7≠0
theorem Cur.y_ne (C:Cur P) {a b:Fin P} (h:On (some (a,b))):b≠0:=fun e=>C.sev a (no_y e h)
theorem Cur.opp_ne (C:Cur P) {a b:Fin P} (h:On (some (a,b))):¬ (a=a∧b = -b):=fun e=>by
 have h1:2*b=0:=by
  have:=e.2
  grobner
 exact mul_ne C.pr C.two (C.y_ne h) h1
def Jac (x y z:Fin P):Pt P→Prop
 | none=>z=0
 | some (a,b)=>z≠0∧x=a*z^2∧y=b*z^3
def Pair (x y:Fin P):Pt P→Prop
 | none=>x=0∧y=0
 | some (a,b)=>x=a∧y=b
def dbl (n:Fin P):Fin P:=n+n
def twB (x y:Fin P):Fin P:=dbl (dbl (x*(y*y)))
def twS (x:Fin P):Fin P:=dbl (x*x)+x*x
def twX (x y:Fin P):Fin P:=twS x*twS x-dbl (twB x y)
def twY (x y:Fin P):Fin P:=twS x*(twB x y-twX x y)-dbl (dbl (dbl (y*y*(y*y))))
def twZ (y z:Fin P):Fin P:=dbl (y*z)
theorem tw_x {a b l x y z:Fin P} (g:l*(2*b)=3*a^2) (ex:x=a*z^2) (ey:y=b*z^3):twX x y=(l^2-a-a)*twZ y z^2:=by
 subst ex ey
 unfold twX twS twB twZ dbl
 have h1:(l*(2*b))^2=(3*a^2)^2:=by rw[g]
 grobner (ringSteps:=100000000)
theorem tw_y {a b l x y z X:Fin P} (g:l*(2*b)=3*a^2) (ex:x=a*z^2) (ey:y=b*z^3) (hX:twX x y=X*twZ y z^2):twY x y=(l*(a-X)-b)*twZ y z^3:=by
 subst ex ey
 unfold twY
 rw[hX]
 clear hX
 unfold twS twB twZ dbl
 grobner (ringSteps:=100000000)
theorem tw_z (C:Cur P) {b y z:Fin P} (hb:b≠0) (hz:z≠0) (ey:y=b*z^3):twZ y z≠0:=fun e=>by
 have h1:2*b*(z*z*(z*z))=0:=by
  unfold twZ dbl at e
  subst ey
  grobner
 exact mul_ne C.pr (mul_ne C.pr C.two hb) (mul_ne C.pr (mul_ne C.pr hz hz) (mul_ne C.pr hz hz)) h1
theorem Jac.twice (C:Cur P) {x y z:Fin P} {p:Pt P} (h:Jac x y z p) (hp:On p):Jac (twX x y) (twY x y) (twZ y z) (add p p):=by
 match p,h,hp with
 | none,h,_ =>
  have h0:z=0:=h
  show twZ y z=0
  subst h0
  unfold twZ dbl
  grobner
 | some (a,b),h,hp =>
  obtain ⟨hz,ex,ey⟩:=h
  have ho:=C.opp_ne hp
  have L:=slope_line C.pr C.two hp hp ho
  rw[add_line C.pr C.two hp hp ho L]
  have hx:=tw_x L.at ex ey
  exact ⟨tw_z C (C.y_ne hp) hz ey,hx,tw_y L.at ex ey hx⟩
def plAx (x1 z2:Fin P):Fin P:=x1*(z2*z2)
def plAy (y1 z2:Fin P):Fin P:=y1*(z2*z2)*z2
def plX (ax ay bx bY:Fin P):Fin P:=(bY-ay)*(bY-ay)-(bx-ax)*(bx-ax)*(bx-ax)-dbl ((bx-ax)*(bx-ax)*ax)
def plY (ax ay bx bY:Fin P):Fin P:=(bY-ay)*((bx-ax)*(bx-ax)*ax-plX ax ay bx bY)-(bx-ax)*(bx-ax)*(bx-ax)*ay
def plZ (z1 z2 ax bx:Fin P):Fin P:=z1*z2*(bx-ax)
theorem pl_x {a b c d l t ax ay bx bY Z:Fin P} (g:d-b=l*(c-a)) (e1:ax=a*t^2) (e2:ay=b*t^3) (e3:bx=c*t^2) (e4:bY=d*t^3) (eZ:Z=t*(bx-ax)):plX ax ay bx bY=(l^2-a-c)*Z^2:=by
 have e5:d=b+l*(c-a):=by grobner
 subst e5 e1 e2 e3 e4 eZ
 unfold plX dbl
 clear g
 grobner (ringSteps:=100000000)
theorem pl_y {a b c d l t ax ay bx bY Z X:Fin P} (g:d-b=l*(c-a)) (e1:ax=a*t^2) (e2:ay=b*t^3) (e3:bx=c*t^2) (e4:bY=d*t^3) (eZ:Z=t*(bx-ax)) (hX:plX ax ay bx bY=X*Z^2):plY ax ay bx bY=(l*(a-X)-b)*Z^3:=by
 unfold plY
 rw[hX]
 have e5:d=b+l*(c-a):=by grobner
 clear hX
 subst e5 e1 e2 e3 e4 eZ
 clear g
 grobner (ringSteps:=100000000)
theorem pl_same (C : Cur P) {a c t : Fin P} {k : Nat} (ht : t ≠ 0) (e : a * t ^ k = c * t ^ k) : a = c := by
  have hk : ∀ k : Nat, t ^ k ≠ 0 := fun k => by
    induction k with
    | zero => intro h; exact ht (by have h2 : (1 : Fin P) = 0 := by { rw [← h]; grind }; calc t = t * 1 := by grobner
                                    _ = 0 := by rw [h2]; grobner)
    | succ k ih => intro h; exact mul_ne C.pr ih ht (by rw [← h]; grind)
  exact cancel C.pr (hk k) e
theorem Jac.plus (C:Cur P) {x1 y1 z1 x2 y2 z2:Fin P} {p q:Pt P} (h:Jac x1 y1 z1 p) (hp:On p) (h':Jac x2 y2 z2 q) (hq:On q) (n1:z1≠0) (n2:z2≠0) :
 (plAx x1 z2=plAx x2 z1∧plAy y1 z2=plAy y2 z1∧add p q=add p p) ∨
 (¬ (plAx x1 z2=plAx x2 z1∧plAy y1 z2=plAy y2 z1)∧Jac (plX (plAx x1 z2) (plAy y1 z2) (plAx x2 z1) (plAy y2 z1)) (plY (plAx x1 z2) (plAy y1 z2) (plAx x2 z1) (plAy y2 z1)) (plZ z1 z2 (plAx x1 z2) (plAx x2 z1)) (add p q)):=by
 match p,q,h,hp,h',hq with
 | none,_,h,_,_,_=>exact absurd h n1
 | some (a,b),none,_,_,h,_=>exact absurd h n2
 | some (a,b),some (c,d),h,hp,h',hq =>
  obtain ⟨-,ex1,ey1⟩:=h
  obtain ⟨-,ex2,ey2⟩:=h'
  have ht:=mul_ne C.pr n1 n2
  have e1:plAx x1 z2=a*(z1*z2)^2:=by subst ex1;unfold plAx;clear hp hq;grobner
  have e2:plAy y1 z2=b*(z1*z2)^3:=by subst ey1;unfold plAy;clear hp hq;grobner
  have e3:plAx x2 z1=c*(z1*z2)^2:=by subst ex2;unfold plAx;clear hp hq;grobner
  have e4:plAy y2 z1=d*(z1*z2)^3:=by subst ey2;unfold plAy;clear hp hq;grobner
  by_cases hs:plAx x1 z2=plAx x2 z1∧plAy y1 z2=plAy y2 z1
  ·refine Or.inl ⟨hs.1,hs.2,?_⟩
   have h1:a=c:=pl_same C ht (by rw[← e1,← e3];exact hs.1)
   have h2:b=d:=pl_same C ht (by rw[← e2,← e4];exact hs.2)
   rw[h1,h2]
  ·refine Or.inr ⟨hs,?_⟩
   by_cases hac:a=c
   ·have hd:d = -b:=Classical.byContradiction fun hn=>hs ⟨by rw[e1,e3,hac],by
     have:=same_y C.pr (x:=a) hp (by rw[hac];exact hq) hn
     rw[e2,e4,this]⟩
    rw[add_opp ⟨hac,hd⟩]
    show plZ _ _ _ _=0
    rw[e1,e3,hac]
    unfold plZ
    clear hp hq
    grobner
   ·have ho:¬ (a=c∧d = -b):=fun h=>hac h.1
    have L:=slope_line C.pr C.two hp hq ho
    rw[add_line C.pr C.two hp hq ho L]
    have hZ:plZ z1 z2 (plAx x1 z2) (plAx x2 z1)=z1*z2*(plAx x2 z1-plAx x1 z2):=rfl
    have hx:=pl_x L.run.1 e1 e2 e3 e4 hZ
    refine ⟨?_,hx,pl_y L.run.1 e1 e2 e3 e4 hZ hx⟩
    rw[hZ]
    refine mul_ne C.pr ht (fun h=>hac ?_)
    exact pl_same C (k:=2) ht (by rw[← e1,← e3];clear hp hq L hx;grobner)
theorem Jac.zero (C:Cur P) {x y z:Fin P} {p:Pt P} (h:Jac x y z p) (hz:z=0):p=none:=by
 match p,h with
 | none,_=>rfl
 | some (a,b),h=>exact absurd hz h.1
theorem Jac.neg {x y z:Fin P} {p:Pt P} (h:Jac x y z p):Jac x (0-y) z (neg p):=by
 match p,h with
 | none,h=>exact h
 | some (a,b),h=>exact ⟨h.1,h.2.1,by have:=h.2.2;show 0-y = -b*z^3;grobner⟩
theorem inv_zero (C:Cur P):inv (0:Fin P)=0:=by
 apply Fin.ext
 have h2:=C.pr.1
 show (0:Fin P).val^(P-2)%P=_
 rw[val_zero]
 by_cases h:P=2
 ·exact absurd (Fin.ext (by rw[val_zero];show 2%P=0;rw[h])) C.two
 ·rw[Nat.zero_pow (by omega),Nat.zero_mod]
theorem Jac.pair (C:Cur P) {x y z:Fin P} {p:Pt P} (h:Jac x y z p):Pair (x*(inv z*inv z)) (y*(inv z*inv z)*inv z) p:=by
 match p,h with
 | none,h =>
  have h0:z=0:=h
  subst h0
  rw[inv_zero C]
  exact ⟨by grobner,by grobner⟩
 | some (a,b),h =>
  have hi:=inv_mul C.pr h.1
  obtain ⟨-,ex,ey⟩:=h
  generalize inv z=i at hi ⊢
  subst ex ey
  exact ⟨by grobner,by grobner⟩
theorem Pair.jac (C:Cur P) {x y:Fin P} {p:Pt P} (h:Pair x y p) (hn:¬ (x=0∧y=0)):Jac x y 1 p:=by
 match p,h with
 | none,h=>exact absurd h hn
 | some (a,b),h =>
  obtain ⟨ex,ey⟩:=h
  subst ex ey
  refine ⟨fun e=>?_,by grobner,by grobner⟩
  have:=congrArg Fin.val e
  rw[val_zero,val_one C.pr] at this
  omega
theorem Pair.nothing (C:Cur P) {x y:Fin P} {p:Pt P} (h:Pair x y p) (hp:On p) (hn:x=0∧y=0):p=none:=by
 match p,h,hp with
 | none,_,_=>rfl
 | some (a,b),h,hp =>
  obtain ⟨ex,ey⟩:=h
  exact absurd (by rw[← ey];exact hn.2) (C.y_ne hp)
end EC
namespace EC
variable {P:Nat} [NeZero P]
def mul:Nat→Pt P→Pt P
 | 0,_=>none
 | n+1,a=>add (mul n a) a
theorem none_on:On (none:Pt P):=trivial
theorem none_add (a:Pt P):add none a=a:=rfl
theorem Cur.on (C:Cur P) {a b:Pt P} (ha:On a) (hb:On b):On (add a b):=add_on C.pr C.two a b ha hb
theorem Cur.comm (C:Cur P) {a b:Pt P} (ha:On a) (hb:On b):add a b=add b a:=add_comm C.pr C.two a b ha hb
theorem Cur.assoc (C:Cur P) {a b c:Pt P} (ha:On a) (hb:On b) (hc:On c):add (add a b) c=add a (add b c):=add_assoc C.pr C.two C.sev a b c ha hb hc
theorem Cur.neg_l (C:Cur P) {a:Pt P} (ha:On a):add (neg a) a=none:=by
 rw[C.comm (neg_on ha) ha,add_neg]
theorem Cur.swap (C:Cur P) {a b c d:Pt P} (ha:On a) (hb:On b) (hc:On c) (hd:On d):add (add a b) (add c d)=add (add a c) (add b d):=by
 rw[C.assoc ha hb (C.on hc hd),← C.assoc hb hc hd,C.comm hb hc,C.assoc hc hb hd,← C.assoc ha hc (C.on hb hd)]
theorem mul_on (C:Cur P) {a:Pt P} (ha:On a):∀ n,On (mul n a)
 | 0=>none_on
 | n+1=>C.on (mul_on C ha n) ha
theorem mul_add (C:Cur P) {a:Pt P} (ha:On a) (m:Nat):∀ n,mul (m+n) a=add (mul m a) (mul n a)
 | 0=>(add_none _).symm
 | n+1=>by
  show add (mul (m+n) a) a=add (mul m a) (add (mul n a) a)
  rw[mul_add C ha m n,C.assoc (mul_on C ha m) (mul_on C ha n) ha]
def zmul:Int→Pt P→Pt P
 | .ofNat n,a=>mul n a
 | .negSucc n,a=>neg (mul (n+1) a)
theorem zmul_on (C:Cur P) {a:Pt P} (ha:On a):∀ n,On (zmul n a)
 | .ofNat n=>mul_on C ha n
 | .negSucc n=>neg_on (mul_on C ha (n+1))
theorem zmul_succ (C:Cur P) {a:Pt P} (ha:On a):∀ n,zmul (n+1) a=add (zmul n a) a
 | .ofNat n=>rfl
 | .negSucc 0=>by
  show (none:Pt P)=add (neg (add none a)) a
  rw[none_add,C.neg_l ha]
 | .negSucc (n+1)=>by
  show neg (mul (n+1) a)=add (neg (add (mul (n+1) a) a)) a
  have h1:=mul_on C ha (n+1)
  rw[neg_add C.pr C.two h1 ha,C.assoc (neg_on h1) (neg_on ha) ha,C.neg_l ha,add_none]
theorem zmul_pred (C:Cur P) {a:Pt P} (ha:On a) (n:Int):zmul (n-1) a=add (zmul n a) (neg a):=by
 have h:=zmul_succ C ha (n-1)
 rw[Int.sub_add_cancel] at h
 rw[h,C.assoc (zmul_on C ha _) ha (neg_on ha),add_neg,add_none]
theorem zmul_nat (C:Cur P) {a:Pt P} (ha:On a) (m:Int):∀ n:Nat,zmul (m+n) a=add (zmul m a) (zmul n a)
 | 0=>by rw[Int.natCast_zero,Int.add_zero];exact (add_none _).symm
 | n+1=>by
  rw[show m+((n+1:Nat):Int)=(m+n)+1 by omega,zmul_succ C ha,zmul_nat C ha m n,show ((n+1:Nat):Int)=(n:Int)+1 by omega,zmul_succ C ha,
   C.assoc (zmul_on C ha _) (zmul_on C ha _) ha]
theorem zmul_neg (C:Cur P) {a:Pt P} (ha:On a):∀ n:Nat,zmul (-(n:Int)) a=neg (zmul n a)
 | 0=>rfl
 | n+1=>by
  have h1:zmul (((n+1:Nat):Int)) a=add (zmul n a) a:=by rw[show ((n+1:Nat):Int)=(n:Int)+1 by omega,zmul_succ C ha]
  rw[h1,neg_add C.pr C.two (zmul_on C ha _) ha,← zmul_neg C ha n,show -((n+1:Nat):Int) = -(n:Int)-1 by omega,zmul_pred C ha]
theorem zmul_sub (C:Cur P) {a:Pt P} (ha:On a) (m:Int):∀ n:Nat,zmul (m-n) a=add (zmul m a) (zmul (-(n:Int)) a)
 | 0=>by rw[Int.natCast_zero,Int.sub_zero];exact (add_none _).symm
 | n+1=>by
  rw[show m-((n+1:Nat):Int)=(m-n)-1 by omega,zmul_pred C ha,zmul_sub C ha m n,show -((n+1:Nat):Int) = -(n:Int)-1 by omega,zmul_pred C ha,
   C.assoc (zmul_on C ha _) (zmul_on C ha _) (neg_on ha)]
theorem zmul_add (C:Cur P) {a:Pt P} (ha:On a) (m n:Int):zmul (m+n) a=add (zmul m a) (zmul n a):=by
 rcases Int.le_total 0 n with h|h
 ·obtain ⟨k,rfl⟩:=Int.eq_ofNat_of_zero_le h
  exact zmul_nat C ha m k
 ·obtain ⟨k,hk⟩:=Int.eq_ofNat_of_zero_le (show 0≤-n by omega)
  obtain rfl:n = -(k:Int):=by omega
  rw[← zmul_sub C ha m k,Int.sub_eq_add_neg]
theorem zmul_one (a:Pt P):zmul 1 a=a:=none_add a
theorem zmul_zero (a:Pt P):zmul 0 a=none:=rfl
def tot (a:Nat→Pt P):Nat→(Nat→Int)→Pt P
 | 0,_=>none
 | k+1,f=>add (tot a k f) (zmul (f k) (a k))
theorem tot_on (C:Cur P) {a:Nat→Pt P} (f:Nat→Int):∀ k,(∀ i,i<k→On (a i))→On (tot a k f)
 | 0,_=>none_on
 | k+1,h=>C.on (tot_on C f k fun i hi=>h i (by omega)) (zmul_on C (h k (by omega)) _)
theorem tot_congr {a:Nat→Pt P} {f g:Nat→Int}:∀ k,(∀ i,i<k→f i=g i)→tot a k f=tot a k g
 | 0,_=>rfl
 | k+1,h=>by
  show add (tot a k f) _=add (tot a k g) _
  rw[tot_congr k (fun i hi=>h i (by omega)),h k (by omega)]
theorem tot_zero (a:Nat→Pt P) {f:Nat→Int}:∀ k,(∀ i,i<k→f i=0)→tot a k f=none
 | 0,_=>rfl
 | k+1,h=>by
  show add (tot a k f) _=none
  rw[tot_zero a k (fun i hi=>h i (by omega)),h k (by omega)]
  rfl
theorem tot_add (C:Cur P) {a:Nat→Pt P} (f g:Nat→Int):∀ k,(∀ i,i<k→On (a i))→tot a k (fun j=>f j+g j)=add (tot a k f) (tot a k g)
 | 0,_=>rfl
 | k+1,h=>by
  have h1:∀ i,i<k→On (a i):=fun i hi=>h i (by omega)
  have h2:=h k (by omega)
  show add (tot a k _) (zmul (f k+g k) (a k))=add (add (tot a k f) (zmul (f k) (a k))) (add (tot a k g) (zmul (g k) (a k)))
  rw[tot_add C f g k h1,zmul_add C h2,C.swap (tot_on C f k h1) (tot_on C g k h1) (zmul_on C h2 _) (zmul_on C h2 _)]
theorem tot_one (C:Cur P) {a:Nat→Pt P} (i:Nat) (d:Int):∀ k,i<k→(∀ i,i<k→On (a i))→tot a k (fun j=>if j=i then d else 0)=zmul d (a i)
 | k+1,hi,h=>by
  show add (tot a k _) (zmul (if k=i then d else 0) (a k))=_
  by_cases hk:k=i
  ·subst hk
   rw[if_pos rfl,tot_zero a k (fun j hj=>if_neg (by omega))]
   rfl
  ·rw[if_neg hk,tot_one C i d k (by omega) (fun j hj=>h j (by omega))]
   exact add_none _
theorem tot_upd (C:Cur P) {a:Nat→Pt P} (f:Nat→Int) (i:Nat) (d:Int) (k:Nat) (hi:i<k) (h:∀ i,i<k→On (a i)) :
 tot a k (fun j=>if j=i then f j+d else f j)=add (tot a k f) (zmul d (a i)):=by
 rw[← tot_one C i d k hi h,← tot_add C f _ k h]
 refine tot_congr k fun j _=>?_
 by_cases hj:j=i
 ·rw[if_pos hj,if_pos hj]
 ·rw[if_neg hj,if_neg hj,Int.add_zero]
theorem tot_twice (C:Cur P) {a:Nat→Pt P} (f:Nat→Int) (k:Nat) (h:∀ i,i<k→On (a i)):tot a k (fun j=>2*f j)=add (tot a k f) (tot a k f):=by
 rw[← tot_add C f f k h]
 exact tot_congr k fun j _=>by omega
end EC
namespace EC
theorem sev_nat {P c:Nat} (hP:NT.IsP P) (h3:P=3*c+1) (h7:7<P) (hk:(P-7)^c%P≠1) (x:Nat):(x*x*x+7)%P≠0:=fun e=>by
 have hx:¬ P ∣ x:=fun hd=>by
  have h1:P ∣ x*x*x:=Nat.dvd_mul_left_of_dvd hd _
  have h2:P ∣ 7:=(Nat.dvd_add_right h1).1 (Nat.dvd_of_mod_eq_zero e)
  have:=Nat.le_of_dvd (by decide) h2
  omega
 have h1:=hP.fermat1 x hx
 have h2:x*x*x%P=P-7:=by
  have hlt:x*x*x%P<P:=Nat.mod_lt _ (by omega)
  have h4:(x*x*x%P+7)%P=0:=by rw[Nat.mod_add_mod];exact e
  by_cases hq:x*x*x%P+7<P
  ·rw[Nat.mod_eq_of_lt hq] at h4;omega
  ·rw[Nat.mod_eq_sub_mod (by omega),Nat.mod_eq_of_lt (by omega)] at h4
   omega
 apply hk
 rw[← h2,← Nat.pow_mod]
 rw[← h1]
 congr 1
 rw[show P-1=3*c by omega,Nat.pow_mul]
 congr 1
 rw[Nat.pow_succ,Nat.pow_succ,Nat.pow_one]
theorem cur_of {P c:Nat} [NeZero P] (hP:NT.IsP P) (h3:P=3*c+1) (h7:7<P) (hk:(P-7)^c%P≠1):Cur P:=by
 refine ⟨hP,fun e=>?_,fun x e=>?_⟩
 ·have:=congrArg Fin.val e
  rw[val_zero] at this
  have h2:(2:Fin P).val=2%P:=rfl
  rw[h2,Nat.mod_eq_of_lt (by omega)] at this
  omega
 ·have e2:x*x*x+7=0:=by rw[← e];grobner
  have:=congrArg Fin.val e2
  rw[val_zero,Fin.val_add,Fin.val_mul,Fin.val_mul] at this
  have h2:(7:Fin P).val=7%P:=rfl
  rw[h2,Nat.mod_mul_mod,Nat.mod_add_mod,Nat.add_mod_mod] at this
  exact sev_nat hP h3 h7 hk x.val this
theorem no_root:NT.pm 115792089237316195423570985008687907853269984665640564039457584007908834671663 256 (115792089237316195423570985008687907853269984665640564039457584007908834671663-7) 38597363079105398474523661669562635951089994888546854679819194669302944890554 1≠1:=by decide +kernel
theorem pm_ne {P c k:Nat} (hc:c<2^k) (h1:1<P) (h:NT.pm P k (P-7) c 1≠1):(P-7)^c%P≠1:=fun e=>h (by rw[NT.pm_eq P k _ c 1 hc h1,Nat.one_mul];exact e)
theorem cur:∃ (P:Nat) (_:NeZero P),P=115792089237316195423570985008687907853269984665640564039457584007908834671663∧Cur P:=by
 have hp:=NT.pP
 have hk:=no_root
 have h3:115792089237316195423570985008687907853269984665640564039457584007908834671663=3*38597363079105398474523661669562635951089994888546854679819194669302944890554+1:=by decide +kernel
 have hc:38597363079105398474523661669562635951089994888546854679819194669302944890554<2^256:=by decide +kernel
 have h7:7<115792089237316195423570985008687907853269984665640564039457584007908834671663:=by decide +kernel
 generalize 38597363079105398474523661669562635951089994888546854679819194669302944890554=c at *
 generalize 115792089237316195423570985008687907853269984665640564039457584007908834671663=P at *
 have hz:NeZero P:=⟨by omega⟩
 exact ⟨P,hz,rfl,cur_of hp h3 h7 (pm_ne hc (by omega) hk)⟩
end EC
section
open Go.RowKit Go.Sort
structure At4 (w:World) (k a b c d:Nat):Prop where
 c0:w.cell? ⟨k,0,none⟩=some (.int .u64 a)
 c1:w.cell? ⟨k,1,none⟩=some (.int .u64 b)
 c2:w.cell? ⟨k,2,none⟩=some (.int .u64 c)
 c3:w.cell? ⟨k,3,none⟩=some (.int .u64 d)
 f:∀ o,w.frozen? ⟨k,o,none⟩=false
variable {w w1:World} {k a b c d:Nat}
theorem At4.lt (h:At4 w k a b c d):k<w.heap.size:=World.block_lt_of_cell? _ _ h.c0
theorem At4.below {B:Nat} (h:At4 w k a b c d) (hb:Below B w w1) (hk:k<B):At4 w1 k a b c d:=
 ⟨by rw[hb.cell (p:=⟨k,0,none⟩) hk];exact h.c0,by rw[hb.cell (p:=⟨k,1,none⟩) hk];exact h.c1,by rw[hb.cell (p:=⟨k,2,none⟩) hk];exact h.c2,by rw[hb.cell (p:=⟨k,3,none⟩) hk];exact h.c3,
  fun o=>by rw[hb.frozen (p:=⟨k,o,none⟩) hk];exact h.f o⟩
theorem At4.call (h:At4 w k a b c d) (hb:Below w.heap.size w w1):At4 w1 k a b c d:=h.below hb h.lt
theorem At4.alloc (h:At4 w k a b c d) (o:Obj):At4 (w.alloc o) k a b c d:=h.call (below1 w o)
theorem At4.drewN (h:At4 w k a b c d) (q:Nat):At4 (w.drewN q) k a b c d:=⟨h.c0,h.c1,h.c2,h.c3,h.f⟩
theorem At4.new (w:World) (t:TypeId) (a b c d:Nat):At4 (w.alloc (.cells #[.int .u64 a,.int .u64 b,.int .u64 c,.int .u64 d] t)) w.heap.size a b c d:=
 ⟨by rw[World.cell?_alloc_new];rfl,by rw[World.cell?_alloc_new];rfl,by rw[World.cell?_alloc_new];rfl,by rw[World.cell?_alloc_new];rfl,fun o=>World.frozen?_alloc_new _ _ _ _⟩
theorem At4.made (w:World) (t:TypeId) (a b c d:Nat) {k:Nat} (hk:w.heap.size=k):At4 (w.alloc (.cells #[.int .u64 a,.int .u64 b,.int .u64 c,.int .u64 d] t)) k a b c d:=
 hk ▸ At4.new w t a b c d
theorem ne_addr {i j:Nat} {o o':Nat} (h:i≠j∨o≠o'):(⟨i,o,none⟩:Addr)≠⟨j,o',none⟩:=by
 intro e
 simp only[Addr.mk.injEq,and_true] at e
 omega
theorem At4.other {j o : Nat} (h : At4 w k a b c d) (hj : j ≠ k) (v : Value) : At4 (w.setCell ⟨j, o, none⟩ v) k a b c d :=
  ⟨by rw [World.cell?_setCell_other _ _ _ _ (ne_addr (Or.inl hj))]; exact h.c0, by rw [World.cell?_setCell_other _ _ _ _ (ne_addr (Or.inl hj))]; exact h.c1,
   by rw [World.cell?_setCell_other _ _ _ _ (ne_addr (Or.inl hj))]; exact h.c2, by rw [World.cell?_setCell_other _ _ _ _ (ne_addr (Or.inl hj))]; exact h.c3, fun o => by rw [World.frozen?_setCell]; exact h.f o⟩
theorem At4.set0 (h : At4 w k a b c d) (x : Nat) : At4 (w.setCell ⟨k, 0, none⟩ (.int .u64 (x : Int))) k x b c d :=
  ⟨World.cell?_setCell_same _ _ _ h.c0, by rw [World.cell?_setCell_other _ _ _ _ (ne_addr (Or.inr (by decide)))]; exact h.c1,
   by rw [World.cell?_setCell_other _ _ _ _ (ne_addr (Or.inr (by decide)))]; exact h.c2, by rw [World.cell?_setCell_other _ _ _ _ (ne_addr (Or.inr (by decide)))]; exact h.c3, fun o => by rw [World.frozen?_setCell]; exact h.f o⟩
theorem At4.set1 (h : At4 w k a b c d) (x : Nat) : At4 (w.setCell ⟨k, 1, none⟩ (.int .u64 (x : Int))) k a x c d :=
  ⟨by rw [World.cell?_setCell_other _ _ _ _ (ne_addr (Or.inr (by decide)))]; exact h.c0, World.cell?_setCell_same _ _ _ h.c1,
   by rw [World.cell?_setCell_other _ _ _ _ (ne_addr (Or.inr (by decide)))]; exact h.c2, by rw [World.cell?_setCell_other _ _ _ _ (ne_addr (Or.inr (by decide)))]; exact h.c3, fun o => by rw [World.frozen?_setCell]; exact h.f o⟩
theorem At4.set2 (h : At4 w k a b c d) (x : Nat) : At4 (w.setCell ⟨k, 2, none⟩ (.int .u64 (x : Int))) k a b x d :=
  ⟨by rw [World.cell?_setCell_other _ _ _ _ (ne_addr (Or.inr (by decide)))]; exact h.c0, by rw [World.cell?_setCell_other _ _ _ _ (ne_addr (Or.inr (by decide)))]; exact h.c1,
   World.cell?_setCell_same _ _ _ h.c2, by rw [World.cell?_setCell_other _ _ _ _ (ne_addr (Or.inr (by decide)))]; exact h.c3, fun o => by rw [World.frozen?_setCell]; exact h.f o⟩
theorem At4.set3 (h : At4 w k a b c d) (x : Nat) : At4 (w.setCell ⟨k, 3, none⟩ (.int .u64 (x : Int))) k a b c x :=
  ⟨by rw [World.cell?_setCell_other _ _ _ _ (ne_addr (Or.inr (by decide)))]; exact h.c0, by rw [World.cell?_setCell_other _ _ _ _ (ne_addr (Or.inr (by decide)))]; exact h.c1,
   by rw [World.cell?_setCell_other _ _ _ _ (ne_addr (Or.inr (by decide)))]; exact h.c2, World.cell?_setCell_same _ _ _ h.c3, fun o => by rw [World.frozen?_setCell]; exact h.f o⟩
theorem At4.drew (h:At4 w k a b c d):At4 w.drew k a b c d:=⟨h.c0,h.c1,h.c2,h.c3,h.f⟩
def set4 (w:World) (k:Nat) (x y z t:Value):World:=(((w.setCell ⟨k,0,none⟩ x).setCell ⟨k,1,none⟩ y).setCell ⟨k,2,none⟩ z).setCell ⟨k,3,none⟩ t
theorem At4.self4 (h:At4 w k a b c d) (x y z t:Nat):At4 (set4 w k (.int .u64 x) (.int .u64 y) (.int .u64 z) (.int .u64 t)) k x y z t:=(((h.set0 x).set1 y).set2 z).set3 t
theorem At4.other4 {j:Nat} (h:At4 w k a b c d) (hj:j≠k) (x y z t:Value):At4 (set4 w j x y z t) k a b c d:=(((h.other hj x).other hj y).other hj z).other hj t
theorem below_set4 {B j:Nat} {w0:World} (h:Below B w0 w) (hj:B≤j) (x y z t:Value):Below B w0 (set4 w j x y z t):=
 (((h.setCell (p:=⟨j,0,none⟩) hj x).setCell (p:=⟨j,1,none⟩) hj y).setCell (p:=⟨j,2,none⟩) hj z).setCell (p:=⟨j,3,none⟩) hj t
end
section
open Go.RowKit Go.Sort
variable {P:Nat} [NeZero P] {N:Nat}
structure FoldI (w wr:World) (g0 g1 g2 a b c d p q r s:Nat):Prop where
 bl:Below w.heap.size w wr
 pr:At4 wr w.heap.size g0 g1 g2 0
 lo:At4 wr (w.heap.size+1) a b c d
 hi:At4 wr (w.heap.size+1+1) p q r s
 re:At4 wr (w.heap.size+1+1+1) 0 0 0 0
 ha:a<18446744073709551616
 hb:b<18446744073709551616
 hc:c<18446744073709551616
 hd:d<18446744073709551616
 hp:p<18446744073709551616
 hq:q<18446744073709551616
 hr:r<18446744073709551616
 hs:s<18446744073709551616
theorem fold_end {a b c d p q r s g0 g1 g2 t k P gk:Nat} (hP:P+val g0 g1 g2 0=top) (hP2:top<2*P) (hlt:val a b c d<top) (hg:gk=val a b c d+top*val 0 0 0 0)
 (he:t+top*k=val a b c d+val g0 g1 g2 0) (hk:k≤1) (es:t=val p q r s) (ht:t<top):(k=0→val a b c d=gk%P)∧(k=1→val p q r s=gk%P):=by
 have hg':gk=val a b c d:=by rw[hg];rfl
 rw[hg']
 generalize val a b c d=x at *
 generalize val g0 g1 g2 0=g at *
 refine ⟨fun h=>?_,fun h=>?_⟩
 ·subst h
  rw[Nat.mod_eq_of_lt (by omega)]
 ·subst h
  rw[← es,Nat.mod_eq_sub_mod (by omega),Nat.mod_eq_of_lt (by omega)]
  omega
theorem val_pos {p q r s:Nat} (h:¬ (p=0∧q=0∧r=0∧s=0)):0<val p q r s:=by unfold val;omega
theorem fold_less {x h g P gk:Nat} (hpos:0<h) (hP:P+g=top) (hP2:top<2*P) (hg:gk=x+top*h):x+g*h<gk∧(x+g*h)%P=gk%P:=by
 have e:gk=x+g*h+P*h:=by rw[hg,← hP,Nat.add_mul];omega
 rw[e,Nat.add_mul_mod_self_left]
 have:0<P*h:=Nat.mul_pos (by omega) hpos
 exact ⟨by omega,rfl⟩
theorem fold_one {l t a b c d g h x:Nat} (h1:g*h+x=l+18446744073709551616*t) (h2:t=val a b c d):val l a b c+top*val d 0 0 0=x+val g 0 0 0*h:=by
 have e:val g 0 0 0=g:=by unfold val;omega
 rw[e]
 generalize g*h=y at *
 unfold val at *
 unfold top
 omega
theorem val_mul (g0 g1 g2 h:Nat):val g0 g1 g2 0*h=g0*h+18446744073709551616*(g1*h)+340282366920938463463374607431768211456*(g2*h):=by
 unfold val
 rw[Nat.add_mul,Nat.add_mul,Nat.add_mul,Nat.mul_assoc,Nat.mul_assoc]
 omega
theorem fold_three {l0 l1 l2 g0 g1 g2 h x a b c d a' b' c' d' a'' b'' c'' d'':Nat} (h1:l0+18446744073709551616*val a b c d=g0*h+x)
 (h2:l1+18446744073709551616*val a' b' c' d'=g1*h+val a b c d) (h3:l2+18446744073709551616*val a'' b'' c'' d''=g2*h+val a' b' c' d') :
 val l0 l1 l2 a''+top*val b'' c'' d'' 0=x+val g0 g1 g2 0*h:=by
 rw[val_mul]
 generalize g0*h=y0 at *
 generalize g1*h=y1 at *
 generalize g2*h=y2 at *
 generalize val a b c d=v1 at *
 generalize val a' b' c' d'=v2 at *
 unfold val at *
 unfold top
 omega
theorem fold_any (g0 g1 g2:Nat) (x y:Value) (m n P:Nat) (hg0:g0<18446744073709551616) (hg1:g1<18446744073709551616) (hg2:g2<18446744073709551616)
 (hor:(g1=0∧g2=0)∨∃ o:Nat,bits .or .u64 (g1:Int) (g2:Int)=(o:Int)∧o≠0) (hP:P+val g0 g1 g2 0=top) (hP2:top<2*P) (hx:Four x m) (hy:Four y n) (w:World) :
 Calls Tryz.prog 173 #[.agg #[.int .u64 g0,.int .u64 g1,.int .u64 g2,.int .u64 0],x,y] w (Ret fun e w'=>Below w.heap.size w w'∧Four e ((m+top*n)%P)):=by
 obtain ⟨a,b,c,d,rfl,ha,hb,hc,hd,em⟩:=hx
 obtain ⟨p,q,r,s,rfl,hp,hq,hr,hs,en⟩:=hy
 go_enter Tryz.func173,Tryz.ntmps173
 go_wp2
 go_loopg [] (val a b c d+top*val p q r s) (fun g wr=>∃ (a b c d p q r s:Nat),FoldI w wr g0 g1 g2 a b c d p q r s∧g=val a b c d+top*val p q r s∧Hid (g%P=(m+top*n)%P))
 case atStart =>
  have b4:=below4 w (.cells #[.int .u64 g0,.int .u64 g1,.int .u64 g2,.int .u64 0] 111) (.cells #[.int .u64 a,.int .u64 b,.int .u64 c,.int .u64 d] 109) (.cells #[.int .u64 p,.int .u64 q,.int .u64 r,.int .u64 s] 109) (.cells #[.int .u64 0,.int .u64 0,.int .u64 0,.int .u64 0] 109)
  refine ⟨a,b,c,d,p,q,r,s,⟨b4,?_,?_,?_,?_,ha,hb,hc,hd,hp,hq,hr,hs⟩,rfl,?_⟩
  ·exact (((At4.new w 111 g0 g1 g2 0).alloc _).alloc _).alloc _
  ·exact ((At4.made (w.alloc _) 109 a b c d (World.size_alloc _ _)).alloc _).alloc _
  ·exact (At4.made ((w.alloc _).alloc _) 109 p q r s (by simp)).alloc _
  ·exact At4.made (((w.alloc _).alloc _).alloc _) 109 0 0 0 0 (by simp)
  ·rw[em,en];rfl
 case round =>
  obtain ⟨a,b,c,d,p,q,r,s,hI,hg,HE⟩:=hrel
  clear em en ha hb hc hd hp hq hr hs
  obtain ⟨bl,pr,lo,hi,re,ha,hb,hc,hd,hp,hq,hr,hs⟩:=hI
  have HB:Hid (Below w.heap.size w wr):=bl
  clear bl
  generalize h3:w.heap.size+1+1+1=k3 at re ⊢
  generalize h2:w.heap.size+1+1=k2 at hi ⊢
  generalize h1:w.heap.size+1=k1 at lo ⊢
  have H:Hid (w.heap.size+1=k1∧w.heap.size+1+1=k2∧w.heap.size+1+1+1=k3):=⟨h1,h2,h3⟩
  generalize h0:w.heap.size=k0 at pr HB ⊢
  have H0:Hid (w.heap.size=k0):=h0
  have Q01:Hid (k0≤k1):=by unfold Hid;omega
  have n01:k0≠k1:=by omega
  have n02:k0≠k2:=by omega
  have n03:k0≠k3:=by omega
  have n12:k1≠k2:=by omega
  have n13:k1≠k3:=by omega
  have n23:k2≠k3:=by omega
  have z0:=pr.lt
  have z1:=lo.lt
  have z2:=hi.lt
  have z3:=re.lt
  clear h0 h1 h2 h3
  by_cases hz:p=0∧q=0∧r=0∧s=0
  ·obtain ⟨rfl,rfl,rfl,rfl⟩:=hz
   obtain ⟨p0,p1,p2,p3,pf⟩:=id pr
   obtain ⟨l0,l1,l2,l3,lf⟩:=id lo
   obtain ⟨h0,h1,h2,h3,hf⟩:=id hi
   obtain ⟨r0,r1,r2,r3,rf⟩:=id re
   go_wp2_with fail
   refine (plus_any _ _ _ _ (Four.mk ha hb hc hd rfl) (Four.mk hg0 hg1 hg2 (by decide) rfl) _).mono ?_
   rintro e w1 ⟨v,rfl,hb1,v4,t,k,rfl,⟨a',b',c',d',rfl,ha',hb',hc',hd',es⟩,hk,he⟩
   have hfin:=fold_end hP hP2 (val_lt ha hb hc hd) hg he hk es (es ▸ val_lt ha' hb' hc' hd')
   rw[HE.out] at hfin
   have HF:Hid _:=hfin
   clear hfin
   clear p0 p1 p2 p3 pf l0 l1 l2 l3 lf h0 h1 h2 h3 hf r0 r1 r2 r3 rf he es hg HE
   have lo1:=lo.call hb1
   have re1:=re.call hb1
   have z3:=re1.lt
   have z1:=lo1.lt
   have HB1:Hid (Below k0 w w1):=HB.out.trans (hb1.mono (by omega))
   obtain ⟨l0,l1,l2,l3,lf⟩:=id lo1
   obtain ⟨r0,r1,r2,r3,rf⟩:=id re1
   have hk':k=0∨k=1:=by omega
   rcases hk' with rfl|rfl
   ·go_wp2
    have rf1:=((((re1.set0 a).set1 b).set2 c).set3 d).alloc (.cells #[.int .u64 a',.int .u64 b',.int .u64 c',.int .u64 d'] 109)
    refine bodyPost_ret (v:=?v0) ?hr0 rfl ?hR0
    case hr0=>simp[results,Tryz.results173,go_sem,rf1.c0,rf1.c1,rf1.c2,rf1.c3];rfl
    refine ⟨_,rfl,?_,Four.mk ha hb hc hd (HF.out.1 trivial).symm⟩
    rw[H0.out]
    have q0:k0≤k3:=by have:=H.out;have:=H0.out;omega
    have q1:=(((HB1.out.setCell (p:=⟨k3,0,none⟩) q0 (.int .u64 a)).setCell (p:=⟨k3,1,none⟩) q0 (.int .u64 b)).setCell (p:=⟨k3,2,none⟩) q0 (.int .u64 c)).setCell (p:=⟨k3,3,none⟩) q0 (.int .u64 d)
    exact q1.alloc (by simp;omega) _
   ·go_wp2
    have rf1:=((((re1.set0 a').set1 b').set2 c').set3 d').alloc (.cells #[.int .u64 a',.int .u64 b',.int .u64 c',.int .u64 d'] 109)
    refine bodyPost_ret (v:=?v1) ?hr1 rfl ?hR1
    case hr1=>simp[results,Tryz.results173,go_sem,rf1.c0,rf1.c1,rf1.c2,rf1.c3];rfl
    refine ⟨_,rfl,?_,Four.mk ha' hb' hc' hd' (HF.out.2 trivial).symm⟩
    rw[H0.out]
    have q0:k0≤k3:=by have:=H.out;have:=H0.out;omega
    have q1:=(((HB1.out.setCell (p:=⟨k3,0,none⟩) q0 (.int .u64 a')).setCell (p:=⟨k3,1,none⟩) q0 (.int .u64 b')).setCell (p:=⟨k3,2,none⟩) q0 (.int .u64 c')).setCell (p:=⟨k3,3,none⟩) q0 (.int .u64 d')
    exact q1.alloc (by simp;omega) _
  ·go_upto_region 1 with fail
   go_cut [12] from 10 to 72 (fun c wx=>c=.bool true∧wr=wx)
   case first =>
    obtain ⟨h0,h1,h2,h3,hf⟩:=id hi
    go_wp2_with fail
    all_goals (go_meet;exact ⟨rfl,rfl⟩)
   case rest =>
    obtain ⟨rfl,rfl⟩:=hcut
    have hlt:=fold_less (val_pos hz) hP hP2 hg
    clear hz
    obtain ⟨p0,p1,p2,p3,pf⟩:=id pr
    obtain ⟨l0,l1,l2,l3,lf⟩:=id lo
    obtain ⟨h0,h1,h2,h3,hf⟩:=id hi
    rcases hor with ⟨rfl,rfl⟩|⟨o,ho,hne⟩
    ·have hor:bits .or .u64 0 0=0:=by decide +kernel
     go_wp2_with fail
     refine (row_any g0 _ _ _ _ hg0 (Four.mk hp hq hr hs rfl) (Four.mk ha hb hc hd rfl) _).mono ?_
     rintro e w1 ⟨v,rfl,hb1,l,v4,t,rfl,hl,⟨a',b',c',d',rfl,ha',hb',hc',hd',es⟩,he⟩
     have lo1:=(lo.alloc _).call hb1
     have hi1:=(hi.alloc _).call hb1
     have pr1:=(pr.alloc _).call hb1
     have re1:=(re.alloc _).call hb1
     have tm1:=(At4.new wr 109 0 0 0 0).call hb1
     have HB1:Hid (Below k0 w w1):=(HB.out.alloc (by omega) _).trans (hb1.mono (by simp;omega))
     clear hb1 p0 p1 p2 p3 pf l0 l1 l2 l3 lf h0 h1 h2 h3 hf lo hi pr re
     generalize hk4:wr.heap.size=k4 at tm1 z0 z1 z2 z3 ⊢
     clear hk4
     have m0:k0≠k4:=by omega
     have m1:k1≠k4:=by omega
     have m2:k2≠k4:=by omega
     have m3:k3≠k4:=by omega
     have M:Hid (k0<k4):=z0
     clear z0 z1 z2 z3
     have z0:=pr1.lt
     have z1:=lo1.lt
     have z2:=hi1.lt
     have z3:=re1.lt
     have z4:=tm1.lt
     have HQ:Hid (g0*val p q r s+val a b c d=l+18446744073709551616*t∧t=val a' b' c' d'):=⟨he.symm,es⟩
     have HL:Hid (_∧_):=hlt
     clear he es hlt hg
     obtain ⟨p0,p1,p2,p3,pf⟩:=id pr1
     obtain ⟨l0,l1,l2,l3,lf⟩:=id lo1
     obtain ⟨h0,h1,h2,h3,hf⟩:=id hi1
     obtain ⟨t0,t1,t2,t3,tf⟩:=id tm1
     go_wp2
     go_region
     go_wp2
     obtain ⟨q1,q2,q3⟩:=H.out
     have q0:=H0.out
     subst q1 q2 q3 q0
     go_roundg (val l a' b' c'+top*val d' 0 0 0)
     case measure=>rw[fold_one HQ.out.1 HQ.out.2];exact HL.out.1
     case rel =>
      refine ⟨l,a',b',c',d',0,0,0,⟨?_,?_,?_,?_,?_,hl,ha',hb',hc',hd',by decide,by decide,by decide⟩,rfl,?_⟩
      ·have s1:=(HB1.out.setCell (p:=⟨w.heap.size+1,0,none⟩) (Nat.le_succ _) (.int .u64 l))
       exact (below_set4 (below_set4 (below_set4 s1 (Nat.le_of_lt M.out) _ _ _ _) (Nat.le_succ _) _ _ _ _) (by omega) _ _ _ _).drew
      ·exact ((((pr1.other n01.symm _).other4 m0.symm _ _ _ _).other4 n01.symm _ _ _ _).other4 n02.symm _ _ _ _).drew
      ·exact ((((lo1.set0 l).other4 m1.symm _ _ _ _).self4 l a' b' c').other4 n12.symm _ _ _ _).drew
      ·exact ((((hi1.other n12 _).other4 m2.symm _ _ _ _).other4 n12 _ _ _ _).self4 d' 0 0 0).drew
      ·exact ((((re1.other n13 _).other4 m3.symm _ _ _ _).other4 n13 _ _ _ _).other4 n23 _ _ _ _).drew
      ·unfold Hid
       rw[fold_one HQ.out.1 HQ.out.2,← HE.out]
       exact HL.out.2
    ·go_wp2_with fail
     refine (row_any g0 _ _ _ _ hg0 (Four.mk hp hq hr hs rfl) (Four.mk ha hb hc hd rfl) _).mono ?_
     rintro e w1 ⟨v,rfl,hb1,l,v4,t,rfl,hl,⟨a',b',c',d',rfl,ha',hb',hc',hd',es⟩,he⟩
     have lo1:=(lo.alloc _).call hb1
     have hi1:=(hi.alloc _).call hb1
     have pr1:=(pr.alloc _).call hb1
     have re1:=(re.alloc _).call hb1
     have tm1:=(At4.new wr 109 0 0 0 0).call hb1
     have HB1:Hid (Below k0 w w1):=(HB.out.alloc (by omega) _).trans (hb1.mono (by simp;omega))
     clear hb1 p0 p1 p2 p3 pf l0 l1 l2 l3 lf h0 h1 h2 h3 hf lo hi pr re
     generalize hk4:wr.heap.size=k4 at tm1 z0 z1 z2 z3 ⊢
     clear hk4
     have m0:k0≠k4:=by omega
     have m1:k1≠k4:=by omega
     have m2:k2≠k4:=by omega
     have m3:k3≠k4:=by omega
     have M:Hid (k0<k4):=z0
     clear z0 z1 z2 z3
     have HQ1:Hid (l+18446744073709551616*val a' b' c' d'=g0*val p q r s+val a b c d):=by unfold Hid;rw[← es];exact he
     have HL:Hid (_∧_):=hlt
     clear he es hlt hg
     have z0:=pr1.lt
     have z1:=lo1.lt
     have z2:=hi1.lt
     have z3:=re1.lt
     have z4:=tm1.lt
     obtain ⟨p0,p1,p2,p3,pf⟩:=id pr1
     obtain ⟨l0,l1,l2,l3,lf⟩:=id lo1
     obtain ⟨h0,h1,h2,h3,hf⟩:=id hi1
     obtain ⟨t0,t1,t2,t3,tf⟩:=id tm1
     go_wp2_with fail
     refine (row_any g1 _ _ _ _ hg1 (Four.mk hp hq hr hs rfl) (Four.mk ha' hb' hc' hd' rfl) _).mono ?_
     rintro e w2 ⟨v,rfl,hb2,l',v5,t,rfl,hl',⟨a2,b2,c2,d2,rfl,ha2,hb2',hc2,hd2,es⟩,he⟩
     have lo2:=((lo1.set0 l).other4 m1.symm _ _ _ _).call hb2
     have hi2:=((hi1.other n12 _).other4 m2.symm _ _ _ _).call hb2
     have pr2:=((pr1.other n01.symm _).other4 m0.symm _ _ _ _).call hb2
     have re2:=((re1.other n13 _).other4 m3.symm _ _ _ _).call hb2
     have tm2:=((tm1.other m1 _).self4 a' b' c' d').call hb2
     have HB2:Hid (Below k0 w w2):=((below_set4 (HB1.out.setCell (p:=⟨k1,0,none⟩) Q01.out _) (Nat.le_of_lt M.out) _ _ _ _).trans (hb2.mono (by simp;omega)))
     clear hb2 p0 p1 p2 p3 pf l0 l1 l2 l3 lf h0 h1 h2 h3 hf t0 t1 t2 t3 tf lo1 hi1 pr1 re1 tm1 HB1 z0 z1 z2 z3 z4
     have HQ2:Hid (l'+18446744073709551616*val a2 b2 c2 d2=g1*val p q r s+val a' b' c' d'):=by unfold Hid;rw[← es];exact he
     clear he es
     have z0:=pr2.lt
     have z1:=lo2.lt
     have z2:=hi2.lt
     have z3:=re2.lt
     have z4:=tm2.lt
     obtain ⟨p0,p1,p2,p3,pf⟩:=id pr2
     obtain ⟨l0,l1,l2,l3,lf⟩:=id lo2
     obtain ⟨h0,h1,h2,h3,hf⟩:=id hi2
     obtain ⟨t0,t1,t2,t3,tf⟩:=id tm2
     go_wp2_with fail
     refine (row_any g2 _ _ _ _ hg2 (Four.mk hp hq hr hs rfl) (Four.mk ha2 hb2' hc2 hd2 rfl) _).mono ?_
     rintro e w3 ⟨v,rfl,hb3,l'',v6,t,rfl,hl'',⟨a3,b3,c3,d3,rfl,ha3,hb3',hc3,hd3,es⟩,he⟩
     have lo3:=((lo2.set1 l').other4 m1.symm _ _ _ _).call hb3
     have hi3:=((hi2.other n12 _).other4 m2.symm _ _ _ _).call hb3
     have pr3:=((pr2.other n01.symm _).other4 m0.symm _ _ _ _).call hb3
     have re3:=((re2.other n13 _).other4 m3.symm _ _ _ _).call hb3
     have tm3:=((tm2.other m1 _).self4 a2 b2 c2 d2).call hb3
     have HB3:Hid (Below k0 w w3):=((below_set4 (HB2.out.setCell (p:=⟨k1,1,none⟩) Q01.out _) (Nat.le_of_lt M.out) _ _ _ _).trans (hb3.mono (by simp;omega)))
     clear hb3 p0 p1 p2 p3 pf l0 l1 l2 l3 lf h0 h1 h2 h3 hf t0 t1 t2 t3 tf lo2 hi2 pr2 re2 tm2 HB2 z0 z1 z2 z3 z4
     have HQ3:Hid (l''+18446744073709551616*val a3 b3 c3 d3=g2*val p q r s+val a2 b2 c2 d2):=by unfold Hid;rw[← es];exact he
     clear he es
     have z0:=pr3.lt
     have z1:=lo3.lt
     have z2:=hi3.lt
     have z3:=re3.lt
     have z4:=tm3.lt
     obtain ⟨l0,l1,l2,l3,lf⟩:=id lo3
     obtain ⟨h0,h1,h2,h3,hf⟩:=id hi3
     obtain ⟨t0,t1,t2,t3,tf⟩:=id tm3
     go_wp2
     go_region
     go_wp2
     clear l0 l1 l2 l3 lf h0 h1 h2 h3 hf t0 t1 t2 t3 tf
     obtain ⟨q1,q2,q3⟩:=H.out
     have q0:=H0.out
     subst q1 q2 q3 q0
     go_roundg (val l l' l'' a3+top*val b3 c3 d3 0)
     case measure=>rw[fold_three HQ1.out HQ2.out HQ3.out];exact HL.out.1
     case rel =>
      refine ⟨l,l',l'',a3,b3,c3,d3,0,⟨?_,?_,?_,?_,?_,hl,hl',hl'',ha3,hb3',hc3,hd3,by decide⟩,rfl,?_⟩
      ·have s1:=(HB3.out.setCell (p:=⟨w.heap.size+1,2,none⟩) (Nat.le_succ _) (.int .u64 l''))
       have s2:=(below_set4 s1 (Nat.le_of_lt M.out) (.int .u64 a3) (.int .u64 b3) (.int .u64 c3) (.int .u64 d3))
       exact (below_set4 (s2.setCell (p:=⟨w.heap.size+1,3,none⟩) (Nat.le_succ _) (.int .u64 a3)) (by omega) _ _ _ _).drew
      ·exact ((((pr3.other n01.symm _).other4 m0.symm _ _ _ _).other n01.symm _).other4 n02.symm _ _ _ _).drew
      ·exact ((((lo3.set2 l'').other4 m1.symm _ _ _ _).set3 a3).other4 n12.symm _ _ _ _).drew
      ·exact ((((hi3.other n12 _).other4 m2.symm _ _ _ _).other n12 _).self4 b3 c3 d3 0).drew
      ·exact ((((re3.other n13 _).other4 m3.symm _ _ _ _).other n13 _).other4 n23 _ _ _ _).drew
      ·unfold Hid
       rw[fold_three HQ1.out HQ2.out HQ3.out,← HE.out]
       exact HL.out.2
end
section
open Go.RowKit Go.Sort
structure At8 (w:World) (k a b c d e f g h:Nat):Prop where
 c0:w.cell? ⟨k,0,none⟩=some (.int .u64 a)
 c1:w.cell? ⟨k,1,none⟩=some (.int .u64 b)
 c2:w.cell? ⟨k,2,none⟩=some (.int .u64 c)
 c3:w.cell? ⟨k,3,none⟩=some (.int .u64 d)
 c4:w.cell? ⟨k,4,none⟩=some (.int .u64 e)
 c5:w.cell? ⟨k,5,none⟩=some (.int .u64 f)
 c6:w.cell? ⟨k,6,none⟩=some (.int .u64 g)
 c7:w.cell? ⟨k,7,none⟩=some (.int .u64 h)
 fz:∀ o,w.frozen? ⟨k,o,none⟩=false
variable {w w1:World} {k a b c d e f g h:Nat}
theorem At8.made (w:World) (t:TypeId) (a b c d e f g h:Nat) {k:Nat} (hk:w.heap.size=k):At8 (w.alloc (.cells #[.int .u64 a,.int .u64 b,.int .u64 c,.int .u64 d,.int .u64 e,.int .u64 f,.int .u64 g,.int .u64 h] t)) k a b c d e f g h:=by
 subst hk
 exact ⟨by rw[World.cell?_alloc_new];rfl,by rw[World.cell?_alloc_new];rfl,by rw[World.cell?_alloc_new];rfl,by rw[World.cell?_alloc_new];rfl,by rw[World.cell?_alloc_new];rfl,by rw[World.cell?_alloc_new];rfl,by rw[World.cell?_alloc_new];rfl,by rw[World.cell?_alloc_new];rfl,fun o=>World.frozen?_alloc_new _ _ _ _⟩
theorem belowDrewN {B:Nat} {w0:World} (H:Below B w0 w) (q:Nat):Below B w0 (w.drewN q):=⟨H.os,H.tape,H.output,H.size,H.block⟩
end
section
open Go.RowKit Go.Sort
variable {P:Nat} [NeZero P] {N:Nat}
structure Gap (g0 g1 g2 P:Nat):Prop where
 h0:g0<18446744073709551616
 h1:g1<18446744073709551616
 h2:g2<18446744073709551616
 hor:(g1=0∧g2=0)∨∃ o:Nat,bits .or .u64 (g1:Int) (g2:Int)=(o:Int)∧o≠0
 hP:P+val g0 g1 g2 0=top
 hP2:top<2*P
 hg:0<val g0 g1 g2 0
theorem blcall {k a b c d:Nat} {w W w1:World} (h:Hid (Below k w W)) (pr:At4 W k a b c d) (hb:Below W.heap.size W w1):Hid (Below k w w1):=h.out.trans (hb.mono (Nat.le_of_lt pr.lt))
end
section
open Go.RowKit Go.Sort
structure Blk where
 k:Nat
 o:Nat
 a:Nat
 b:Nat
 c:Nat
 d:Nat
structure Blk.at (x:Blk) (w:World):Prop where
 c0:w.cell? ⟨x.k,x.o,none⟩=some (.int .u64 (x.a:Int))
 c1:w.cell? ⟨x.k,x.o+1,none⟩=some (.int .u64 (x.b:Int))
 c2:w.cell? ⟨x.k,x.o+2,none⟩=some (.int .u64 (x.c:Int))
 c3:w.cell? ⟨x.k,x.o+3,none⟩=some (.int .u64 (x.d:Int))
 f:∀ o,w.frozen? ⟨x.k,o,none⟩=false
structure Kept (w:World) (k0:Nat) (l:List Blk) (W:World):Prop where
 bl:Below k0 w W
 le:k0≤W.heap.size
 at':∀ x∈l,x.at W
variable {w W w1:World} {k0:Nat} {l:List Blk} {x:Blk}
theorem Blk.at.lt (h:x.at W):x.k<W.heap.size:=World.block_lt_of_cell? _ _ h.c0
theorem Blk.at.call (h:x.at W) (hb:Below W.heap.size W w1):x.at w1:=
 ⟨by rw[hb.cell (p:=⟨x.k,x.o,none⟩) h.lt];exact h.c0,by rw[hb.cell (p:=⟨x.k,x.o+1,none⟩) h.lt];exact h.c1,by rw[hb.cell (p:=⟨x.k,x.o+2,none⟩) h.lt];exact h.c2,by rw[hb.cell (p:=⟨x.k,x.o+3,none⟩) h.lt];exact h.c3,
  fun o=>by rw[hb.frozen (p:=⟨x.k,o,none⟩) h.lt];exact h.f o⟩
theorem Blk.at.other {j i : Nat} (h : x.at W) (hj : j ≠ x.k) (v : Value) : x.at (W.setCell ⟨j, i, none⟩ v) :=
  ⟨by rw [World.cell?_setCell_other _ _ _ _ (ne_addr (Or.inl hj))]; exact h.c0, by rw [World.cell?_setCell_other _ _ _ _ (ne_addr (Or.inl hj))]; exact h.c1,
   by rw [World.cell?_setCell_other _ _ _ _ (ne_addr (Or.inl hj))]; exact h.c2, by rw [World.cell?_setCell_other _ _ _ _ (ne_addr (Or.inl hj))]; exact h.c3, fun o => by rw [World.frozen?_setCell]; exact h.f o⟩
theorem Kept.call (h:Kept w k0 l W) (hb:Below W.heap.size W w1):Kept w k0 l w1:=
 ⟨h.bl.trans (hb.mono h.le),Nat.le_trans h.le hb.size,fun x hx=>(h.at' x hx).call hb⟩
theorem Kept.drew (h:Kept w k0 l W):Kept w k0 l W.drew:=⟨h.bl.drew,h.le,fun x hx=>⟨(h.at' x hx).c0,(h.at' x hx).c1,(h.at' x hx).c2,(h.at' x hx).c3,(h.at' x hx).f⟩⟩
theorem Kept.undrew (h:Kept w k0 l W.drew):Kept w k0 l W:=
 ⟨⟨h.bl.os,h.bl.tape,h.bl.output,h.bl.size,h.bl.block⟩,h.le,fun x hx=>⟨(h.at' x hx).c0,(h.at' x hx).c1,(h.at' x hx).c2,(h.at' x hx).c3,(h.at' x hx).f⟩⟩
theorem Kept.alloc (h:Kept w k0 l W) (o:Obj):Kept w k0 l (W.alloc o):=h.call (below1 W o)
theorem Kept.set {j i:Nat} (h:Kept w k0 l W) (hj:k0≤j) (hl:∀ x∈l,j≠x.k) (v:Value):Kept w k0 l (W.setCell ⟨j,i,none⟩ v):=
 ⟨h.bl.setCell (p:=⟨j,i,none⟩) hj v,by simpa using h.le,fun x hx=>(h.at' x hx).other (hl x hx) v⟩
theorem Kept.set4 {j:Nat} (h:Kept w k0 l W) (hj:k0≤j) (hl:∀ x∈l,j≠x.k) (p q r s:Value):Kept w k0 l (Go.Proofs.YtnfpdihkjkimiaaGreat.set4 W j p q r s):=
 (((h.set hj hl p).set hj hl q).set hj hl r).set hj hl s
theorem Kept.set4' {j:Nat} (h:Kept w k0 l W) (hj:k0≤j) (hl:∀ x∈l,j≠x.k) (p q r s:Value) :
 Kept w k0 l ((((W.setCell ⟨j,0,none⟩ p).setCell ⟨j,1,none⟩ q).setCell ⟨j,2,none⟩ r).setCell ⟨j,3,none⟩ s):=h.set4 hj hl p q r s
theorem Kept.lts (h:Kept w k0 l W):∀ x∈l,x.k<W.heap.size:=fun x hx=>(h.at' x hx).lt
theorem Kept.head (h:Kept w k0 (x :: l) W):x.at W:=h.at' x (List.mem_cons_self)
theorem Kept.tail (h:Kept w k0 (x :: l) W):Kept w k0 l W:=⟨h.bl,h.le,fun y hy=>h.at' y (List.mem_cons_of_mem _ hy)⟩
theorem At4.blk {k a b c d:Nat} (h:At4 W k a b c d):(Blk.mk k 0 a b c d).at W:=⟨h.c0,h.c1,h.c2,h.c3,h.f⟩
theorem Blk.at.at4 {k a b c d:Nat} (h:(Blk.mk k 0 a b c d).at W):At4 W k a b c d:=⟨h.c0,h.c1,h.c2,h.c3,h.f⟩
theorem Kept.mk1 (hb:Below k0 w W) (hl:k0≤W.heap.size):Kept w k0 [] W:=⟨hb,hl,fun _ h=>by cases h⟩
theorem Kept.cons (h:Kept w k0 l W) (hx:x.at W):Kept w k0 (x :: l) W:=
 ⟨h.bl,h.le,fun y hy=>by rcases List.mem_cons.1 hy with rfl|h2;exact hx;exact h.at' y h2⟩
theorem Kept.put {j a b c d:Nat} (h:Kept w k0 (⟨j,0,a,b,c,d⟩ :: l) W) (hj:k0≤j) (hl:∀ x∈l,j≠x.k) (x y z t:Nat) :
 Kept w k0 (⟨j,0,x,y,z,t⟩ :: l) ((((W.setCell ⟨j,0,none⟩ (.int .u64 x)).setCell ⟨j,1,none⟩ (.int .u64 y)).setCell ⟨j,2,none⟩ (.int .u64 z)).setCell ⟨j,3,none⟩ (.int .u64 t)):=
 (h.tail.set4' hj hl _ _ _ _).cons (h.head.at4.self4 x y z t).blk
end
section
open Go.RowKit Go.Sort
variable {P:Nat} [NeZero P] {N:Nat}
theorem kept4 (w:World) (t0 t1 t2 t3:TypeId) (a b c d e f g h i j k l m n o p:Nat) :
 Kept w w.heap.size [⟨w.heap.size,0,a,b,c,d⟩,⟨w.heap.size+1,0,e,f,g,h⟩,⟨w.heap.size+1+1,0,i,j,k,l⟩,⟨w.heap.size+1+1+1,0,m,n,o,p⟩]
  ((((w.alloc (.cells #[.int .u64 a,.int .u64 b,.int .u64 c,.int .u64 d] t0)).alloc (.cells #[.int .u64 e,.int .u64 f,.int .u64 g,.int .u64 h] t1)).alloc (.cells #[.int .u64 i,.int .u64 j,.int .u64 k,.int .u64 l] t2)).alloc (.cells #[.int .u64 m,.int .u64 n,.int .u64 o,.int .u64 p] t3)):=by
 refine ((((Kept.mk1 (below4 w _ _ _ _) (below4 w _ _ _ _).size).cons ?_).cons ?_).cons ?_).cons ?_
 ·exact (At4.made _ t3 m n o p (by simp)).blk
 ·exact ((At4.made _ t2 i j k l (by simp)).alloc _).blk
 ·exact (((At4.made _ t1 e f g h (by simp)).alloc _).alloc _).blk
 ·exact ((((At4.made _ t0 a b c d rfl).alloc _).alloc _).alloc _).blk
theorem plus_lo {g0 g1 g2 P m n s l:Nat} (hG:Gap g0 g1 g2 P) (h1:s+top*0=m+n) (h2:l+top*0=s+val g0 g1 g2 0) (hl:l<top):(m+n)%P=s:=by
 have:=hG.hP
 rw[← h1,Nat.mul_zero,Nat.add_zero,Nat.mod_eq_of_lt (by omega)]
theorem plus_hi {g0 g1 g2 P m n s l k j:Nat} (hG:Gap g0 g1 g2 P) (hm:m<P) (hn:n<P) (h1:s+top*k=m+n) (h2:l+top*j=s+val g0 g1 g2 0) (hk:k≤1) (hj:j≤1) (hz:¬ (k=0∧j=0)) (hs:s<top) (_:l<top):(m+n)%P=l:=by
 have h3:=hG.hP
 have h4:=hG.hP2
 have hk':k=0∨k=1:=by omega
 have hj':j=0∨j=1:=by omega
 have:m+n=l+P:=by
  rcases hk' with h|h<;>rcases hj' with h'|h'<;>rw[h] at h1<;>rw[h'] at h2<;>first|omega|(exfalso;exact hz ⟨h,h'⟩)
 rw[this,Nat.add_mod_right,Nat.mod_eq_of_lt (by omega)]
theorem or2 (a b:Nat) (ha:a≤1) (hb:b≤1):∃ o:Nat,bits .or .u64 (a:Int) (b:Int)=(o:Int)∧(o=0↔(a=0∧b=0)):=by
 have h1:a=0∨a=1:=by omega
 have h2:b=0∨b=1:=by omega
 rcases h1 with rfl|rfl<;>rcases h2 with rfl|rfl
 ·exact ⟨0,by decide +kernel,by decide⟩
 ·exact ⟨1,by decide +kernel,by decide⟩
 ·exact ⟨1,by decide +kernel,by decide⟩
 ·exact ⟨1,by decide +kernel,by decide⟩
theorem minus_lo {P m n s:Nat} (hm:m<P) (hn:n<P) (h1:s+n=m+top*0):(m+P-n)%P=s:=by
 rw[show m+P-n=s+P by omega,Nat.add_mod_right,Nat.mod_eq_of_lt (by omega)]
theorem minus_hi {g0 g1 g2 P m n s l j:Nat} (hG:Gap g0 g1 g2 P) (_:m<P) (hn:n<P) (h1:s+n=m+top*1) (h2:l+val g0 g1 g2 0=s+top*j) (hj:j≤1) (hl:l<top) (hs:s<top):(m+P-n)%P=l:=by
 have h3:=hG.hP
 have hj':j=0∨j=1:=by omega
 have:m+P-n=l:=by
  rcases hj' with h'|h'<;>rw[h'] at h2<;>omega
 rw[this,Nat.mod_eq_of_lt (by omega)]
theorem sum_any (g0 g1 g2 P:Nat) (x y:Value) (m n:Nat) (hG:Gap g0 g1 g2 P) (hx:Four x m) (hy:Four y n) (hm:m<P) (hn:n<P) (w:World) :
 Calls Tryz.prog 158 #[.agg #[.int .u64 g0,.int .u64 g1,.int .u64 g2,.int .u64 0],x,y] w (Ret fun e w'=>Below w.heap.size w w'∧Four e ((m+n)%P)):=by
 obtain ⟨a,b,c,d,rfl,ha,hb,hc,hd,em⟩:=id hx
 obtain ⟨p,q,r,s,rfl,hp,hq,hr,hs,en⟩:=id hy
 clear em en ha hb hc hd hp hq hr hs
 go_enter Tryz.func158,Tryz.ntmps158
 go_wp2_with fail
 have KP:=kept4 w 111 109 109 109 g0 g1 g2 0 a b c d p q r s 0 0 0 0
 simp only[Int.natCast_zero] at KP
 generalize World.alloc _ _=W0 at KP ⊢
 generalize h3:w.heap.size+1+1+1=k3 at KP ⊢
 generalize h2:w.heap.size+1+1=k2 at KP ⊢
 generalize h1:w.heap.size+1=k1 at KP ⊢
 have Q3:Hid (w.heap.size≤k3):=by unfold Hid;omega
 generalize h0:w.heap.size=k0 at KP Q3 ⊢
 have H0:Hid (w.heap.size=k0):=h0
 have n03:k0≠k3:=by omega
 clear h0 h1 h2 h3
 refine (plus_any _ _ _ _ hx hy _).mono ?_
 rintro e w1 ⟨v,rfl,hb1,v2,t,k,rfl,⟨a1,b1,c1,d1,rfl,ha1,hb1',hc1,hd1,es⟩,hk,he⟩
 have HE:Hid (val a1 b1 c1 d1+top*k=m+n):=by unfold Hid;rw[← es];exact he
 clear es he
 replace KP:=KP.call hb1
 clear hb1
 have KP4:=(KP.alloc (.cells #[.int .u64 a1,.int .u64 b1,.int .u64 c1,.int .u64 d1] 109)).cons (At4.made w1 109 a1 b1 c1 d1 rfl).blk
 have m0:k0≠w1.heap.size:=Nat.ne_of_lt KP.head.lt
 have m3:k3≠w1.heap.size:=Nat.ne_of_lt KP.tail.tail.tail.head.lt
 clear KP
 obtain ⟨pc0,pc1,pc2,pc3,pf⟩:=KP4.tail.head.at4
 have z0:=KP4.tail.head.lt
 go_wp2_with fail
 generalize World.alloc _ _=W1 at KP4 z0 pc0 pc1 pc2 pc3 pf ⊢
 refine (plus_any _ _ _ _ (Four.mk ha1 hb1' hc1 hd1 rfl) (Four.mk hG.h0 hG.h1 hG.h2 (by decide) rfl) _).mono ?_
 rintro e w2 ⟨v,rfl,hb2,v3,t2,j,rfl,⟨a2,b2,c2,d2,rfl,ha2,hb2',hc2,hd2,es⟩,hj,he⟩
 have HE2:Hid (val a2 b2 c2 d2+top*j=val a1 b1 c1 d1+val g0 g1 g2 0):=by unfold Hid;rw[← es];exact he
 clear es he pc0 pc1 pc2 pc3 pf z0
 replace KP4:=KP4.call hb2
 clear hb2
 have HG:Hid (Gap g0 g1 g2 P):=hG
 have HM:Hid (m<P∧n<P):=⟨hm,hn⟩
 clear hG hm hn hx hy m0 n03
 generalize w1.heap.size=k4 at KP4 m3 ⊢
 obtain ⟨sc0,sc1,sc2,sc3,sf⟩:=KP4.head.at4
 obtain ⟨rc0,rc1,rc2,rc3,rf⟩:=KP4.tail.tail.tail.tail.head.at4
 have z4:=KP4.head.lt
 have z3:=KP4.tail.tail.tail.tail.head.lt
 obtain ⟨o,ho,hoz⟩:=or2 k j hk hj
 by_cases hz:k=0∧j=0
 ·obtain ⟨rfl,rfl⟩:=hz
  obtain rfl:o=0:=hoz.2 ⟨rfl,rfl⟩
  clear hoz
  replace ho:bits .or .u64 0 0=0:=ho
  go_wp2
  have RF:=(KP4.tail.tail.tail.tail.head.at4.self4 a1 b1 c1 d1).alloc (.cells #[.int .u64 a2,.int .u64 b2,.int .u64 c2,.int .u64 d2] 109)
  unfold set4 at RF
  refine bodyPost_ret (v:=?v0) ?hr0 rfl ?hR0
  case hr0=>simp[results,Tryz.results158,go_sem,RF.c0,RF.c1,RF.c2,RF.c3];rfl
  refine ⟨_,rfl,?_,Four.mk ha1 hb1' hc1 hd1 (plus_lo HG.out HE.out HE2.out (val_lt ha2 hb2' hc2 hd2))⟩
  rw[H0.out]
  exact (below_set4 KP4.bl Q3.out _ _ _ _).alloc (by simpa[set4] using KP4.le) _
 ·have ho0:¬ o=0:=fun h=>hz (hoz.1 h)
  clear hoz
  go_wp2
  have RF:=(KP4.tail.tail.tail.tail.head.at4.self4 a2 b2 c2 d2).alloc (.cells #[.int .u64 a2,.int .u64 b2,.int .u64 c2,.int .u64 d2] 109)
  unfold set4 at RF
  refine bodyPost_ret (v:=?v1) ?hr1 rfl ?hR1
  case hr1=>simp[results,Tryz.results158,go_sem,RF.c0,RF.c1,RF.c2,RF.c3];rfl
  refine ⟨_,rfl,?_,Four.mk ha2 hb2' hc2 hd2 (plus_hi HG.out HM.out.1 HM.out.2 HE.out HE2.out hk hj hz (val_lt ha1 hb1' hc1 hd1) (val_lt ha2 hb2' hc2 hd2))⟩
  rw[H0.out]
  exact (below_set4 KP4.bl Q3.out _ _ _ _).alloc (by simpa[set4] using KP4.le) _
theorem difference_any (g0 g1 g2 P:Nat) (x y:Value) (m n:Nat) (hG:Gap g0 g1 g2 P) (hx:Four x m) (hy:Four y n) (hm:m<P) (hn:n<P) (w:World) :
 Calls Tryz.prog 159 #[.agg #[.int .u64 g0,.int .u64 g1,.int .u64 g2,.int .u64 0],x,y] w (Ret fun e w'=>Below w.heap.size w w'∧Four e ((m+P-n)%P)):=by
 obtain ⟨a,b,c,d,rfl,ha,hb,hc,hd,em⟩:=id hx
 obtain ⟨p,q,r,s,rfl,hp,hq,hr,hs,en⟩:=id hy
 clear em en ha hb hc hd hp hq hr hs
 go_enter Tryz.func159,Tryz.ntmps159
 go_wp2_with fail
 have KP:=kept4 w 111 109 109 109 g0 g1 g2 0 a b c d p q r s 0 0 0 0
 simp only[Int.natCast_zero] at KP
 generalize World.alloc _ _=W0 at KP ⊢
 generalize h3:w.heap.size+1+1+1=k3 at KP ⊢
 generalize h2:w.heap.size+1+1=k2 at KP ⊢
 generalize h1:w.heap.size+1=k1 at KP ⊢
 have Q3:Hid (w.heap.size≤k3):=by unfold Hid;omega
 generalize h0:w.heap.size=k0 at KP Q3 ⊢
 have H0:Hid (w.heap.size=k0):=h0
 have n03:k0≠k3:=by omega
 clear h0 h1 h2 h3
 refine (minus_any _ _ _ _ hx hy _).mono ?_
 rintro e w1 ⟨v,rfl,hb1,v2,t,k,rfl,⟨a1,b1,c1,d1,rfl,ha1,hb1',hc1,hd1,es⟩,hk,he⟩
 have HE:Hid (val a1 b1 c1 d1+n=m+top*k):=by unfold Hid;rw[← es];exact he
 clear es he
 replace KP:=KP.call hb1
 clear hb1
 have KP4:=(KP.alloc (.cells #[.int .u64 a1,.int .u64 b1,.int .u64 c1,.int .u64 d1] 109)).cons (At4.made w1 109 a1 b1 c1 d1 rfl).blk
 have m0:k0≠w1.heap.size:=Nat.ne_of_lt KP.head.lt
 have m3:k3≠w1.heap.size:=Nat.ne_of_lt KP.tail.tail.tail.head.lt
 have HG:Hid (Gap g0 g1 g2 P):=hG
 have HM:Hid (m<P∧n<P):=⟨hm,hn⟩
 have Q4:Hid (k0≤w1.heap.size):=KP.le
 clear hG hm hn hx hy
 have hk':k=0∨k=1:=by omega
 obtain ⟨rc0,rc1,rc2,rc3,rf⟩:=KP.tail.tail.tail.head.at4
 have z3:=KP.tail.tail.tail.head.lt
 rcases hk' with rfl|rfl
 ·clear KP4
  go_wp2
  have RF:=(KP.tail.tail.tail.head.at4.self4 a1 b1 c1 d1).alloc (.cells #[.int .u64 a1,.int .u64 b1,.int .u64 c1,.int .u64 d1] 109)
  unfold set4 at RF
  refine bodyPost_ret (v:=?v0) ?hr0 rfl ?hR0
  case hr0=>simp[results,Tryz.results159,go_sem,RF.c0,RF.c1,RF.c2,RF.c3];rfl
  refine ⟨_,rfl,?_,Four.mk ha1 hb1' hc1 hd1 (minus_lo HM.out.1 HM.out.2 HE.out)⟩
  rw[H0.out]
  exact (below_set4 KP.bl Q3.out _ _ _ _).alloc (by simpa[set4] using KP.le) _
 ·clear KP rc0 rc1 rc2 rc3 rf z3
  obtain ⟨pc0,pc1,pc2,pc3,pf⟩:=KP4.tail.head.at4
  have z0:=KP4.tail.head.lt
  go_wp2_with fail
  generalize World.alloc _ _=W1 at KP4 z0 pc0 pc1 pc2 pc3 pf ⊢
  refine (minus_any _ _ _ _ (Four.mk ha1 hb1' hc1 hd1 rfl) (Four.mk HG.out.h0 HG.out.h1 HG.out.h2 (by decide) rfl) _).mono ?_
  rintro e w2 ⟨v,rfl,hb2,v3,t2,j,rfl,⟨a2,b2,c2,d2,rfl,ha2,hb2',hc2,hd2,es⟩,hj,he⟩
  have HE2:Hid (val a2 b2 c2 d2+val g0 g1 g2 0=val a1 b1 c1 d1+top*j):=by unfold Hid;rw[← es];exact he
  clear es he pc0 pc1 pc2 pc3 pf z0
  replace KP4:=KP4.call hb2
  clear hb2
  generalize w1.heap.size=k4 at KP4 m0 m3 Q4 ⊢
  obtain ⟨sc0,sc1,sc2,sc3,sf⟩:=KP4.head.at4
  obtain ⟨rc0,rc1,rc2,rc3,rf⟩:=KP4.tail.tail.tail.tail.head.at4
  have z4:=KP4.head.lt
  have z3:=KP4.tail.tail.tail.tail.head.lt
  go_wp2
  have RF:=(KP4.tail.tail.tail.tail.head.at4.other4 m3.symm (.int .u64 a2) (.int .u64 b2) (.int .u64 c2) (.int .u64 d2)).self4 a2 b2 c2 d2
  unfold set4 at RF
  refine bodyPost_ret (v:=?v1) ?hr1 rfl ?hR1
  case hr1=>simp[results,Tryz.results159,go_sem,RF.c0,RF.c1,RF.c2,RF.c3];rfl
  refine ⟨_,rfl,?_,Four.mk ha2 hb2' hc2 hd2 (minus_hi HG.out HM.out.1 HM.out.2 HE.out HE2.out hj (val_lt ha2 hb2' hc2 hd2) (val_lt ha1 hb1' hc1 hd1))⟩
  rw[H0.out]
  exact below_set4 (below_set4 KP4.bl Q4.out _ _ _ _) Q3.out _ _ _ _
theorem rows_sum {a b c d n m r0 s0 t0 u0 y0 y1 y2 y3:Nat} (em:m=val a b c d)
 (e0:r0+18446744073709551616*y0=a*n+val 0 0 0 0)
 (e1:s0+18446744073709551616*y1=b*n+y0)
 (e2:t0+18446744073709551616*y2=c*n+y1)
 (e3:u0+18446744073709551616*y3=d*n+y2) :
 val r0 s0 t0 u0+top*y3=m*n:=by
 have hm:val a b c d*n=val (a*n) (b*n) (c*n) (d*n):=by
  rw[Nat.mul_comm,mul_val,Nat.mul_comm n a,Nat.mul_comm n b,Nat.mul_comm n c,Nat.mul_comm n d]
 rw[em,hm]
 generalize a*n=x0 at *
 generalize b*n=x1 at *
 generalize c*n=x2 at *
 generalize d*n=x3 at *
 unfold val at *
 unfold top
 omega
theorem product_any (g0 g1 g2 P:Nat) (x y:Value) (m n:Nat) (hG:Gap g0 g1 g2 P) (hx:Four x m) (hy:Four y n) (w:World) :
 Calls Tryz.prog 155 #[.agg #[.int .u64 g0,.int .u64 g1,.int .u64 g2,.int .u64 0],x,y] w (Ret fun e w'=>Below w.heap.size w w'∧Four e (m*n%P)):=by
 obtain ⟨a,b,c,d,rfl,ha,hb,hc,hd,em⟩:=hx
 obtain ⟨p,q,r,s,rfl,hp,hq,hr,hs,en⟩:=id hy
 have HM:Hid (m=val a b c d):=em
 clear em en
 go_enter Tryz.func155,Tryz.ntmps155
 go_wp2_with fail
 have KP:=kept4 w 111 109 109 109 g0 g1 g2 0 a b c d p q r s 0 0 0 0
 simp only[Int.natCast_zero] at KP
 have PR:=KP.head.at4
 have X:=KP.tail.head.at4
 have Y:=KP.tail.tail.head.at4
 have RE:=KP.tail.tail.tail.head.at4
 have BL:Hid (Below w.heap.size w _):=KP.bl
 clear KP
 generalize World.alloc _ _=w1 at X Y PR RE BL ⊢
 generalize h3:w.heap.size+1+1+1=k3 at RE ⊢
 generalize h2:w.heap.size+1+1=k4 at Y ⊢
 generalize h1:w.heap.size+1=k1 at X ⊢
 have Q3:Hid (w.heap.size≤k3):=by unfold Hid;omega
 generalize h0:w.heap.size=k0 at PR BL Q3 ⊢
 have n03:k0≠k3:=by omega
 have n13:k1≠k3:=by omega
 have H0:Hid (w.heap.size=k0):=h0
 clear h0 h1 h2 h3
 refine (row_any a _ _ _ _ ha hy (Four.mk (a:=0) (b:=0) (c:=0) (d:=0) (by decide) (by decide) (by decide) (by decide) rfl) _).mono ?_
 rintro e w2 ⟨v,rfl,hb2,l0,v2,t0,rfl,hl0,⟨a0,b0,c0,d0,rfl,ha0,hb0,hc0,hd0,es⟩,he⟩
 have HQ0:Hid (l0+18446744073709551616*val a0 b0 c0 d0=a*n+val 0 0 0 0):=by unfold Hid;rw[← es];exact he
 clear he es
 replace BL:Hid (Below k0 w w2):=blcall BL PR hb2
 replace X:=X.call hb2
 replace Y:=Y.call hb2
 replace RE:=RE.call hb2
 replace PR:=PR.call hb2
 clear hb2
 obtain ⟨xc0,xc1,xc2,xc3,xf⟩:=id X
 have z1:=X.lt
 obtain ⟨yc0,yc1,yc2,yc3,yf⟩:=id Y
 have z4:=Y.lt
 obtain ⟨rc0,rc1,rc2,rc3,rf⟩:=id RE
 have z3:=RE.lt
 obtain ⟨pc0,pc1,pc2,pc3,pf⟩:=id PR
 have z0:=PR.lt
 go_wp2_with fail
 refine (row_any b _ _ _ _ hb hy (Four.mk ha0 hb0 hc0 hd0 rfl) _).mono ?_
 rintro e w3 ⟨v,rfl,hb3,l1,v3,t1,rfl,hl1,⟨a1,b1,c1,d1,rfl,ha1,hb1,hc1,hd1,es⟩,he⟩
 clear xc0 xc1 xc2 xc3 xf z1 yc0 yc1 yc2 yc3 yf z4 rc0 rc1 rc2 rc3 rf z3 pc0 pc1 pc2 pc3 pf z0
 have HQ1:Hid (l1+18446744073709551616*val a1 b1 c1 d1=b*n+val a0 b0 c0 d0):=by unfold Hid;rw[← es];exact he
 clear he es
 have j0:k0≠w2.heap.size:=Nat.ne_of_lt PR.lt
 have j1:k1≠w2.heap.size:=Nat.ne_of_lt X.lt
 have j3:k3≠w2.heap.size:=Nat.ne_of_lt RE.lt
 have j4:k4≠w2.heap.size:=Nat.ne_of_lt Y.lt
 have J0:Hid (k0≤w2.heap.size):=Nat.le_of_lt PR.lt
 have T:=(At4.made w2 109 a0 b0 c0 d0 rfl).call hb3
 replace BL:Hid (Below k0 w w3):=blcall (W:=w2.alloc (.cells #[.int .u64 a0,.int .u64 b0,.int .u64 c0,.int .u64 d0] 109)) (BL.out.alloc (Nat.le_of_lt PR.lt) _) (PR.alloc _) hb3
 replace X:=(X.alloc _).call hb3
 replace Y:=(Y.alloc _).call hb3
 replace RE:=(RE.alloc _).call hb3
 replace PR:=(PR.alloc _).call hb3
 clear hb3
 generalize w2.heap.size=k5 at T j0 j1 j3 j4 J0 ⊢
 obtain ⟨xc0,xc1,xc2,xc3,xf⟩:=id X
 have z1:=X.lt
 obtain ⟨yc0,yc1,yc2,yc3,yf⟩:=id Y
 have z4:=Y.lt
 obtain ⟨rc0,rc1,rc2,rc3,rf⟩:=id RE
 have z3:=RE.lt
 obtain ⟨pc0,pc1,pc2,pc3,pf⟩:=id PR
 have z0:=PR.lt
 obtain ⟨tc0,tc1,tc2,tc3,tf⟩:=id T
 have z5:=T.lt
 go_wp2_with fail
 refine (row_any c _ _ _ _ hc hy (Four.mk ha1 hb1 hc1 hd1 rfl) _).mono ?_
 rintro e w4 ⟨v,rfl,hbb,l2,v4,t4,rfl,hl2,⟨a2,b2,c2,d2,rfl,ha2,hb2,hc2,hd2,es⟩,he⟩
 clear xc0 xc1 xc2 xc3 xf z1 yc0 yc1 yc2 yc3 yf z4 rc0 rc1 rc2 rc3 rf z3 pc0 pc1 pc2 pc3 pf z0 tc0 tc1 tc2 tc3 tf z5
 have HQ2:Hid (l2+18446744073709551616*val a2 b2 c2 d2=c*n+val a1 b1 c1 d1):=by unfold Hid;rw[← es];exact he
 clear he es
 replace BL:Hid (Below k0 w w4):=blcall (below_set4 BL.out J0.out _ _ _ _) (PR.other4 j0.symm _ _ _ _) hbb
 replace X:=(X.other4 j1.symm _ _ _ _).call hbb
 replace Y:=(Y.other4 j4.symm _ _ _ _).call hbb
 replace RE:=(RE.other4 j3.symm _ _ _ _).call hbb
 replace PR:=(PR.other4 j0.symm _ _ _ _).call hbb
 replace T:=(T.self4 a1 b1 c1 d1).call hbb
 clear hbb
 obtain ⟨xc0,xc1,xc2,xc3,xf⟩:=id X
 have z1:=X.lt
 obtain ⟨yc0,yc1,yc2,yc3,yf⟩:=id Y
 have z4:=Y.lt
 obtain ⟨rc0,rc1,rc2,rc3,rf⟩:=id RE
 have z3:=RE.lt
 obtain ⟨pc0,pc1,pc2,pc3,pf⟩:=id PR
 have z0:=PR.lt
 obtain ⟨tc0,tc1,tc2,tc3,tf⟩:=id T
 have z5:=T.lt
 go_wp2_with fail
 refine (row_any d _ _ _ _ hd hy (Four.mk ha2 hb2 hc2 hd2 rfl) _).mono ?_
 rintro e w5 ⟨v,rfl,hbb,l3,v4,t4,rfl,hl3,⟨a3,b3,c3,d3,rfl,ha3,hb3,hc3,hd3,es⟩,he⟩
 clear xc0 xc1 xc2 xc3 xf z1 yc0 yc1 yc2 yc3 yf z4 rc0 rc1 rc2 rc3 rf z3 pc0 pc1 pc2 pc3 pf z0 tc0 tc1 tc2 tc3 tf z5
 have HQ3:Hid (l3+18446744073709551616*val a3 b3 c3 d3=d*n+val a2 b2 c2 d2):=by unfold Hid;rw[← es];exact he
 clear he es
 replace BL:Hid (Below k0 w w5):=blcall (below_set4 BL.out J0.out _ _ _ _) (PR.other4 j0.symm _ _ _ _) hbb
 replace X:=(X.other4 j1.symm _ _ _ _).call hbb
 replace Y:=(Y.other4 j4.symm _ _ _ _).call hbb
 replace RE:=(RE.other4 j3.symm _ _ _ _).call hbb
 replace PR:=(PR.other4 j0.symm _ _ _ _).call hbb
 replace T:=(T.self4 a2 b2 c2 d2).call hbb
 clear hbb
 obtain ⟨rc0,rc1,rc2,rc3,rf⟩:=id RE
 have z3:=RE.lt
 obtain ⟨pc0,pc1,pc2,pc3,pf⟩:=id PR
 have z0:=PR.lt
 obtain ⟨tc0,tc1,tc2,tc3,tf⟩:=id T
 have z5:=T.lt
 go_wp2_with fail
 refine (fold_any g0 g1 g2 _ _ _ _ P hG.h0 hG.h1 hG.h2 hG.hor hG.hP hG.hP2 (Four.mk hl0 hl1 hl2 hl3 rfl) (Four.mk ha3 hb3 hc3 hd3 rfl) _).mono ?_
 rintro e w6 ⟨v,rfl,hbb,hv⟩
 rw[rows_sum HM.out HQ0.out HQ1.out HQ2.out HQ3.out] at hv
 clear rc0 rc1 rc2 rc3 rf z3 pc0 pc1 pc2 pc3 pf z0 tc0 tc1 tc2 tc3 tf z5
 replace BL:Hid (Below k0 w w6):=blcall (below_set4 BL.out J0.out _ _ _ _) (PR.other4 j0.symm _ _ _ _) hbb
 replace RE:=(RE.other4 j3.symm _ _ _ _).call hbb
 replace PR:=(PR.other4 j0.symm _ _ _ _).call hbb
 clear hbb T X Y HQ0 HQ1 HQ2 HQ3 HM
 obtain ⟨a7,b7,c7,d7,rfl,ha7,hb7,hc7,hd7,hv7⟩:=id hv
 have HV:Hid (Four _ _):=hv
 clear hv hv7
 obtain ⟨rc0,rc1,rc2,rc3,rf⟩:=id RE
 have z3:=RE.lt
 go_wp2
 have RF:=RE.self4 a7 b7 c7 d7
 unfold set4 at RF
 refine bodyPost_ret (v:=?v) ?hr rfl ?hR
 case hr=>simp[results,Tryz.results155,go_sem,RF.c0,RF.c1,RF.c2,RF.c3];rfl
 refine ⟨_,rfl,?_,HV.out⟩
 rw[H0.out]
 exact below_set4 BL.out Q3.out _ _ _ _
theorem wrS_of {w W:World} {k0 k1 k2 a b c d p q r s g0 g1 g2:Nat} (h:Kept w k0 [⟨k0,0,g0,g1,g2,0⟩,⟨k1,0,a,b,c,d⟩,⟨k2,0,p,q,r,s⟩] W):W.cell? ⟨k0,0,none⟩=some (.int .u64 g0)∧W.cell? ⟨k0,1,none⟩=some (.int .u64 g1)∧W.cell? ⟨k0,2,none⟩=some (.int .u64 g2)∧W.cell? ⟨k0,3,none⟩=some (.int .u64 0)∧W.cell? ⟨k1,0,none⟩=some (.int .u64 a)∧W.cell? ⟨k1,1,none⟩=some (.int .u64 b)∧W.cell? ⟨k1,2,none⟩=some (.int .u64 c)∧W.cell? ⟨k1,3,none⟩=some (.int .u64 d)∧W.cell? ⟨k2,0,none⟩=some (.int .u64 p)∧W.cell? ⟨k2,1,none⟩=some (.int .u64 q)∧W.cell? ⟨k2,2,none⟩=some (.int .u64 r)∧W.cell? ⟨k2,3,none⟩=some (.int .u64 s)∧Kept w k0 [⟨k0,0,g0,g1,g2,0⟩,⟨k1,0,a,b,c,d⟩,⟨k2,0,p,q,r,s⟩] W:=
 ⟨h.head.c0,h.head.c1,h.head.c2,h.head.c3,h.tail.head.c0,h.tail.head.c1,h.tail.head.c2,h.tail.head.c3,h.tail.tail.head.c0,h.tail.tail.head.c1,h.tail.tail.head.c2,h.tail.tail.head.c3,h⟩
theorem three_any (g0 g1 g2:Nat) (x y:Value) (m n R:Nat) (hx:Four x m) (hy:Four y n) (w:World):((∀ w,Calls Tryz.prog 158 #[.agg #[.int .u64 g0,.int .u64 g1,.int .u64 g2,.int .u64 0],x,y] w (Ret fun e w'=>Below w.heap.size w w'∧Four e R))→Calls Tryz.prog 128 #[.agg #[.int .u64 g0,.int .u64 g1,.int .u64 g2,.int .u64 0],x,y] w (Ret fun e w'=>Below w.heap.size w w'∧Four e R))∧((∀ w,Calls Tryz.prog 159 #[.agg #[.int .u64 g0,.int .u64 g1,.int .u64 g2,.int .u64 0],x,y] w (Ret fun e w'=>Below w.heap.size w w'∧Four e R))→Calls Tryz.prog 163 #[.agg #[.int .u64 g0,.int .u64 g1,.int .u64 g2,.int .u64 0],x,y] w (Ret fun e w'=>Below w.heap.size w w'∧Four e R))∧((∀ w,Calls Tryz.prog 155 #[.agg #[.int .u64 g0,.int .u64 g1,.int .u64 g2,.int .u64 0],x,y] w (Ret fun e w'=>Below w.heap.size w w'∧Four e R))→Calls Tryz.prog 113 #[.agg #[.int .u64 g0,.int .u64 g1,.int .u64 g2,.int .u64 0],x,y] w (Ret fun e w'=>Below w.heap.size w w'∧Four e R)):=by
 obtain ⟨a,b,c,d,rfl,ha,hb,hc,hd,em⟩:=id hx
 obtain ⟨p,q,r,s,rfl,hp,hq,hr,hs,en⟩:=id hy
 have HX:Hid (Four _ m):=hx
 have HY:Hid (Four _ n):=hy
 refine ⟨fun HO=>?_,fun HO=>?_,fun HO=>?_⟩
 all_goals replace HO:Hid _:=HO
 all_goals clear em en hx hy ha hb hc hd hp hq hr hs
 case' refine_1=>go_enter Tryz.func128,Tryz.ntmps128
 case' refine_2=>go_enter Tryz.func163,Tryz.ntmps163
 case' refine_3=>go_enter Tryz.func113,Tryz.ntmps113
 all_goals
  go_wp2_with fail
  have KP0:=kept4 w 111 50 50 50 g0 g1 g2 0 a b c d p q r s 0 0 0 0
  simp only[Int.natCast_zero] at KP0
  generalize World.alloc _ _=W0 at KP0 ⊢
  generalize h3:w.heap.size+1+1+1=k3 at KP0 ⊢
  generalize h2:w.heap.size+1+1=k2 at KP0 ⊢
  generalize h1:w.heap.size+1=k1 at KP0 ⊢
  have Q3:Hid (w.heap.size≤k3):=by unfold Hid;omega
  generalize h0:w.heap.size=k0 at KP0 Q3 ⊢
  have H0:Hid (w.heap.size=k0):=h0
  have hl3:∀ x∈([⟨k0,0,g0,g1,g2,0⟩,⟨k1,0,a,b,c,d⟩,⟨k2,0,p,q,r,s⟩]:List Blk),k3≠x.k:=by simp only[List.mem_cons,List.not_mem_nil,or_false];rintro x (rfl|rfl|rfl)<;>simp only<;>omega
  clear h0 h1 h2 h3
  have KP:Kept w k0 [⟨k0,0,g0,g1,g2,0⟩,⟨k1,0,a,b,c,d⟩,⟨k2,0,p,q,r,s⟩] W0:=(((Kept.mk1 KP0.bl KP0.le).cons KP0.tail.tail.head).cons KP0.tail.head).cons KP0.head
  have T3:=KP0.tail.tail.tail.head.at4
  clear KP0
  obtain ⟨tc0,tc1,tc2,tc3,tf⟩:=id T3
  have zt:=T3.lt
  go_region_held3 (fun w'=>w'.cell? ⟨k0,0,none⟩=some (.int .u64 g0)∧w'.cell? ⟨k0,1,none⟩=some (.int .u64 g1)∧w'.cell? ⟨k0,2,none⟩=some (.int .u64 g2)∧w'.cell? ⟨k0,3,none⟩=some (.int .u64 0)∧w'.cell? ⟨k1,0,none⟩=some (.int .u64 a)∧w'.cell? ⟨k1,1,none⟩=some (.int .u64 b)∧w'.cell? ⟨k1,2,none⟩=some (.int .u64 c)∧w'.cell? ⟨k1,3,none⟩=some (.int .u64 d)∧w'.cell? ⟨k2,0,none⟩=some (.int .u64 p)∧w'.cell? ⟨k2,1,none⟩=some (.int .u64 q)∧w'.cell? ⟨k2,2,none⟩=some (.int .u64 r)∧w'.cell? ⟨k2,3,none⟩=some (.int .u64 s)∧Kept w k0 [⟨k0,0,g0,g1,g2,0⟩,⟨k1,0,a,b,c,d⟩,⟨k2,0,p,q,r,s⟩] w') (first|(with_reducible exact wrS_of KP)|(with_reducible exact wrS_of KP.drew)|(with_reducible exact wrS_of (KP.set4' Q3.out hl3 _ _ _ _))|(with_reducible exact wrS_of (KP.set4' Q3.out hl3 _ _ _ _).drew)|fail) (first|(go_at_call_of 97 (Value.agg #[Value.int .u64 a,Value.int .u64 b,Value.int .u64 c,Value.int .u64 d]);refine (four_any _ _ HX.out _).mono ?_;rintro e w1 ⟨v,rfl,hb1,rfl⟩;(first|(with_reducible (have KP1:=KP.drew.call hb1))|(with_reducible (have KP1:=KP.call hb1))|fail);(first|(with_reducible (have T1:=T3.drew.call hb1))|(with_reducible (have T1:=T3.call hb1))|fail);clear KP T3 hb1;have KP:=KP1;have T3:=T1;clear KP1 T1;obtain ⟨tc0,tc1,tc2,tc3,tf⟩:=id T3;have zt:=T3.lt)|(go_at_call_of 97 (Value.agg #[Value.int .u64 p,Value.int .u64 q,Value.int .u64 r,Value.int .u64 s]);refine (four_any _ _ HY.out _).mono ?_;rintro e w1 ⟨v,rfl,hb1,rfl⟩;(first|(with_reducible (have KP1:=KP.drew.call hb1))|(with_reducible (have KP1:=KP.call hb1))|fail);(first|(with_reducible (have T1:=T3.drew.call hb1))|(with_reducible (have T1:=T3.call hb1))|fail);clear KP T3 hb1;have KP:=KP1;have T3:=T1;clear KP1 T1;obtain ⟨tc0,tc1,tc2,tc3,tf⟩:=id T3;have zt:=T3.lt)|((first|go_at_call 158|go_at_call 159|go_at_call 155);refine (HO.out _).mono ?_;rintro e w1 ⟨v,rfl,hb1,hF3⟩;obtain ⟨a',b',c',d',rfl,ha',hb',hc',hd',es3⟩:=id hF3;clear es3;have HF3:Hid (Four _ _):=hF3;clear hF3;(first|(with_reducible (have KP1:=KP.drew.call hb1))|(with_reducible (have KP1:=KP.call hb1))|fail);(first|(with_reducible (have T1:=T3.drew.call hb1))|(with_reducible (have T1:=T3.call hb1))|fail);clear KP T3 hb1;have KP:=KP1;have T3:=T1;clear KP1 T1;obtain ⟨tc0,tc1,tc2,tc3,tf⟩:=id T3;have zt:=T3.lt)|(go_at_call 156;refine (number_any _ _ HF3.out _).mono ?_;rintro e w1 ⟨v,rfl,hb1,rfl⟩;(first|(with_reducible (have KP1:=KP.drew.call hb1))|(with_reducible (have KP1:=KP.call hb1))|fail);(first|(with_reducible (have T1:=T3.drew.call hb1))|(with_reducible (have T1:=T3.call hb1))|fail);clear KP T3 hb1;have KP:=KP1;have T3:=T1;clear KP1 T1;obtain ⟨tc0,tc1,tc2,tc3,tf⟩:=id T3;have zt:=T3.lt))
  all_goals (try go_wp2)
  all_goals (have RF:=T3.self4 a' b' c' d')
  all_goals unfold set4 at RF
  all_goals (refine bodyPost_ret (v:=(.agg #[.int .u64 a',.int .u64 b',.int .u64 c',.int .u64 d'])) ?_ rfl ?_)
  all_goals first|(refine ⟨_,rfl,?_,HF3.out⟩;rw[H0.out];exact below_set4 KP.bl Q3.out _ _ _ _)|(simp[results,Tryz.results128,Tryz.results163,Tryz.results113,go_sem,RF.c0,RF.c1,RF.c2,RF.c3];done)|fail
theorem Plus_any (g0 g1 g2 P:Nat) (x y:Value) (m n:Nat) (hG:Gap g0 g1 g2 P) (hx:Four x m) (hy:Four y n) (hm:m<P) (hn:n<P) (w:World) :
 Calls Tryz.prog 128 #[.agg #[.int .u64 g0,.int .u64 g1,.int .u64 g2,.int .u64 0],x,y] w (Ret fun e w'=>Below w.heap.size w w'∧Four e ((m+n)%P)):=
 (three_any g0 g1 g2 x y m n _ hx hy w).1 (fun w=>sum_any g0 g1 g2 P _ _ m n hG hx hy hm hn w)
theorem Minus_any (g0 g1 g2 P:Nat) (x y:Value) (m n:Nat) (hG:Gap g0 g1 g2 P) (hx:Four x m) (hy:Four y n) (hm:m<P) (hn:n<P) (w:World) :
 Calls Tryz.prog 163 #[.agg #[.int .u64 g0,.int .u64 g1,.int .u64 g2,.int .u64 0],x,y] w (Ret fun e w'=>Below w.heap.size w w'∧Four e ((m+P-n)%P)):=
 (three_any g0 g1 g2 x y m n _ hx hy w).2.1 (fun w=>difference_any g0 g1 g2 P _ _ m n hG hx hy hm hn w)
theorem Times_any (g0 g1 g2 P:Nat) (x y:Value) (m n:Nat) (hG:Gap g0 g1 g2 P) (hx:Four x m) (hy:Four y n) (w:World) :
 Calls Tryz.prog 113 #[.agg #[.int .u64 g0,.int .u64 g1,.int .u64 g2,.int .u64 0],x,y] w (Ret fun e w'=>Below w.heap.size w w'∧Four e (m*n%P)):=
 (three_any g0 g1 g2 x y m n _ hx hy w).2.2 (fun w=>product_any g0 g1 g2 P _ _ m n hG hx hy w)
end
section
variable {P:Nat} [NeZero P] {N:Nat}
theorem bit_step (m i s:Nat):m/2^i%2^(s+1)=2*(m/2^(i+1)%2^s)+m/2^i%2:=by
 have e:m/2^(i+1)=m/2^i/2:=by rw[Nat.pow_succ,Nat.div_div_eq_div_mul]
 rw[e,Nat.pow_succ,Nat.mul_comm (2^s),Nat.mod_mul]
 omega
theorem low_bit (y z r:Nat) (hr:r<64) (hz:z=y%18446744073709551616):z/2^r%2=y/2^r%2:=by
 have e:(18446744073709551616:Nat)=2^r*(2*2^(63-r)):=by
  rw[← Nat.mul_assoc,← Nat.pow_succ,← Nat.pow_add,show r+1+(63-r)=64 by omega]
 have h2:0<2^r:=Nat.pow_pos (by decide)
 have h3:y/2^r=2*(2^(63-r)*(y/18446744073709551616))+z/2^r:=by
  have h4:y=2^r*(2*(2^(63-r)*(y/18446744073709551616)))+z:=by
   have:=Nat.div_add_mod y 18446744073709551616
   rw[hz]
   rw[e] at this ⊢
   rw[Nat.mul_assoc,Nat.mul_assoc] at this
   exact this.symm
  conv=>lhs;rw[h4]
  rw[Nat.mul_add_div h2]
 omega
def wd (a b c d q:Nat):Nat:=if q=0 then a else if q=1 then b else if q=2 then c else d
theorem wd_lt {a b c d:Nat} (q:Nat) (ha:a<18446744073709551616) (hb:b<18446744073709551616) (hc:c<18446744073709551616) (hd:d<18446744073709551616):wd a b c d q<18446744073709551616:=by
 unfold wd;split;exact ha;split;exact hb;split;exact hc;exact hd
theorem wd_eq {a b c d:Nat} (q:Nat) (hq:q<4) (ha:a<18446744073709551616) (hb:b<18446744073709551616) (hc:c<18446744073709551616) (hd:d<18446744073709551616) :
 wd a b c d q=val a b c d/2^(64*q)%18446744073709551616:=by
 have h:q=0∨q=1∨q=2∨q=3:=by omega
 rcases h with rfl|rfl|rfl|rfl
 ·show a=val a b c d/1%_;unfold val;omega
 ·show b=val a b c d/18446744073709551616%_;unfold val;omega
 ·show c=val a b c d/340282366920938463463374607431768211456%_;unfold val;omega
 ·show d=val a b c d/6277101735386680763835789423207666416102355444464034512896%_;unfold val;omega
theorem wd_bit {a b c d:Nat} (i:Nat) (hi:i<256) (ha:a<18446744073709551616) (hb:b<18446744073709551616) (hc:c<18446744073709551616) (hd:d<18446744073709551616) :
 wd a b c d (i/64)/2^(i%64)%2=val a b c d/2^i%2:=by
 rw[low_bit _ _ (i%64) (by omega) (wd_eq (i/64) (by omega) ha hb hc hd),Nat.div_div_eq_div_mul,← Nat.pow_add,show 64*(i/64)+i%64=i by omega]
theorem pow_two_mod (a P k:Nat):a^k%P*(a^k%P)%P=a^(2*k)%P:=by
 rw[← Nat.mul_mod,← Nat.pow_add,Nat.two_mul]
theorem pow_add_mod (a P k l:Nat):a^k%P*(a^l%P)%P=a^(k+l)%P:=by
 rw[← Nat.mul_mod,← Nat.pow_add]
theorem pow_step_mod (a P k:Nat):a^k%P*a%P=a^(k+1)%P:=by
 rw[Nat.pow_succ,Nat.mul_mod,Nat.mod_mod,← Nat.mul_mod]
theorem div_win (e i:Nat):e/2^i=16*(e/2^(i+4))+e/2^i%2^4:=by
 rw[Nat.pow_add,← Nat.div_div_eq_div_mul]
 have:=Nat.div_add_mod (e/2^i) (2^4)
 omega
theorem quarter_eq (a b c d:Nat) :
 val (a/4+b*4611686018427387904%18446744073709551616) (b/4+c*4611686018427387904%18446744073709551616) (c/4+d*4611686018427387904%18446744073709551616) (d/4)=val a b c d/4:=by
 unfold val
 omega
end
section
open Go.RowKit Go.Sort
variable {P:Nat} [NeZero P] {N:Nat}
theorem At4.wd {w:World} {k a b c d:Nat} (h:At4 w k a b c d) (q:Nat) (hq:q<4):w.cell? ⟨k,q,none⟩=some (.int .u64 (wd a b c d q:Int)):=by
 have h':q=0∨q=1∨q=2∨q=3:=by omega
 rcases h' with rfl|rfl|rfl|rfl
 ·exact h.c0
 ·exact h.c1
 ·exact h.c2
 ·exact h.c3
theorem wrap_i (n:Nat) (h:n<9223372036854775808):IntKind.i64.wrap (n:Int)=(n:Int):=by rw[IntKind.wrap_i64];omega
theorem or_bit (b t:Nat) (hb:b<4294967296) (ht:t<2):bits .or .i64 ((2*b:Nat):Int) (t:Int)=((2*b+t:Nat):Int):=by
 rw[(bits_nat .i64 40 (by decide) (fun n h0 h1=>by rw[IntKind.wrap_i64];omega) (2*b) t (by omega) (by omega)).2]
 have:=Nat.two_pow_add_eq_or_of_lt (i:=1) (b:=t) (by omega) b
 rw[show 2^1*b=2*b from rfl] at this
 rw[← this]
theorem and_one (v:Nat) (hv:v<18446744073709551616):bits .and .u64 (v:Int) 1=((v%2:Nat):Int):=by
 have:=bits_and_u64_nat v 1 hv (by omega)
 rw[show v &&& 1=v%2 from Nat.and_one_is_mod v] at this
 exact this
theorem bits_start {m f c g:Nat} (hm:m<top) (h:g=c∨f+g=256):m/2^(f+g)%2^(c-g)=0:=by
 rcases h with rfl|h
 ·rw[Nat.sub_self,Nat.pow_zero,Nat.mod_one]
 ·rw[h,Nat.div_eq_of_lt (by exact hm),Nat.zero_mod]
theorem bits_next {m f g c:Nat} (hg:0<g) (hc:g≤c):m/2^(f+(g-1))%2^(c-(g-1))=2*(m/2^(f+g)%2^(c-g))+m/2^(f+(g-1))%2:=by
 rw[show c-(g-1)=c-g+1 by omega,bit_step,show f+(g-1)+1=f+g by omega]
theorem Bits_any (x:Value) (m f c:Nat) (hx:Four x m) (hf:f≤256) (hc:c≤32) (w:World) :
 Calls Tryz.prog 157 #[x,.int .i64 f,.int .i64 c] w (Ret fun e w'=>Below w.heap.size w w'∧e=.int .i64 ((m/2^f%2^c:Nat):Int)):=by
 obtain ⟨x0,x1,x2,x3,rfl,hx0,hx1,hx2,hx3,em⟩:=id hx
 have HX:Hid (Four _ m):=hx
 have HL:Hid (x0<18446744073709551616∧x1<18446744073709551616∧x2<18446744073709551616∧x3<18446744073709551616∧m=val x0 x1 x2 x3):=⟨hx0,hx1,hx2,hx3,em⟩
 clear hx hx0 hx1 hx2 hx3 em
 have HM:Hid (m<top):=HX.out.lt
 clear HX
 obtain ⟨R,hR⟩:∃ R,m/2^f%2^c=R:=⟨_,rfl⟩
 have HR:Hid (m/2^f%2^c=R):=hR
 rw[hR]
 clear hR
 by_cases hle:(f:Int)+(c:Int)≤256
 ·have hle2:¬ (256:Int)<(f:Int)+(c:Int):=by omega
  go_enter Tryz.func157,Tryz.ntmps157
  go_wp2
  have X:=At4.made w 50 x0 x1 x2 x3 rfl
  have BL:Hid (Below w.heap.size w _):=below1 w (.cells #[.int .u64 x0,.int .u64 x1,.int .u64 x2,.int .u64 x3] 50)
  generalize World.alloc _ _=W0 at X BL ⊢
  go_loopg [7,8] (c) (fun gk s7 s8 wr=>gk≤c∧f+gk≤256∧s7=.int .i64 ((m/2^(f+gk)%2^(c-gk):Nat):Int)∧s8=.int .i64 ((f:Int)+(gk:Int)-1)∧W0=wr)
  case atStart=>exact ⟨by omega,by omega,by rw[bits_start HM.out (Or.inl rfl)];rfl,by congr 1<;>omega,rfl⟩
  case round =>
   obtain ⟨hg1,hg2,rfl,rfl,rfl⟩:=hrel
   by_cases hz:gk=0
   ·subst hz
    have d1:¬ (f:Int)≤(f:Int)+((0:Nat):Int)-1:=by omega
    rw[Nat.add_zero,Nat.sub_zero,HR.out]
    go_wp2
    go_ret
    exact ⟨_,rfl,BL.out,rfl⟩
   ·obtain ⟨i,hi⟩:∃ i,f+(gk-1)=i:=⟨_,rfl⟩
    have e1:(f:Int)+(gk:Int)-1=(i:Int):=by omega
    have d1:(f:Int)≤(i:Int):=by omega
    have hi2:i<256:=by omega
    have xw:=X.wd (i/64) (by omega)
    have hwl:wd x0 x1 x2 x3 (i/64)<18446744073709551616:=wd_lt _ HL.out.1 HL.out.2.1 HL.out.2.2.1 HL.out.2.2.2.1
    have hbit:wd x0 x1 x2 x3 (i/64)/2^(i%64)%2=m/2^i%2:=by rw[HL.out.2.2.2.2];exact wd_bit i hi2 HL.out.1 HL.out.2.1 HL.out.2.2.1 HL.out.2.2.2.1
    have i2:(i:Int).tdiv 64=((i/64:Nat):Int):=by rw[Int.tdiv_eq_ediv_of_nonneg (by omega)];omega
    have i3:(i:Int).tmod 64=((i%64:Nat):Int):=by rw[Int.tmod_eq_emod_of_nonneg (by omega)];omega
    have i4:(i/64:Nat)<4:=by omega
    generalize wd x0 x1 x2 x3 (i/64)=v at xw hwl hbit
    have hvl:v/2^(i%64)<18446744073709551616:=Nat.lt_of_le_of_lt (Nat.div_le_self _ _) hwl
    have hand:bits .and .u64 ((v:Int)/2^(i%64)) 1=((m/2^i%2:Nat):Int):=by
     have:=and_one (v/2^(i%64)) hvl
     rw[hbit] at this
     rw[← this,Int.natCast_ediv,Int.natCast_pow]
     rfl
    obtain ⟨t,ht⟩:∃ t,m/2^i%2=t:=⟨_,rfl⟩
    have ht2:t<2:=by omega
    have hN:=bits_next (m:=m) (f:=f) (g:=gk) (c:=c) (by omega) hg1
    rw[hi,ht] at hN
    have hbl:m/2^(f+gk)%2^(c-gk)<4294967296:=Nat.lt_of_lt_of_le (Nat.mod_lt _ (Nat.pow_pos (by decide))) (show 2^(c-gk)≤2^32 from Nat.pow_le_pow_right (by decide) (by omega))
    rw[ht] at hand
    generalize m/2^(f+gk)%2^(c-gk)=B at hN hbl ⊢
    have hor:=or_bit B t hbl ht2
    have hsh:IntKind.i64.wrap ((B:Int)*2)=((2*B:Nat):Int):=by rw[show (B:Int)*2=((2*B:Nat):Int) by omega];exact wrap_i _ (by omega)
    have hct:IntKind.i64.wrap (t:Int)=(t:Int):=wrap_i _ (by omega)
    have HN:Hid (_=_):=hN
    have HI:Hid (f+(gk-1)=i):=hi
    have zx:=X.lt
    clear hN hi hbit ht hvl
    rw[e1]
    clear e1
    go_wp2
    go_roundg (gk-1)
    case measure=>omega
    case rel =>
     refine ⟨by omega,by omega,?_,?_,rfl⟩
     ·rw[HI.out,HN.out,← hor,Int.natCast_mul];rfl
     ·congr 1;have:=HI.out;omega
 ·have hlt:(256:Int)<(f:Int)+(c:Int):=by omega
  go_enter Tryz.func157,Tryz.ntmps157
  go_wp2
  have X:=At4.made w 50 x0 x1 x2 x3 rfl
  have BL:Hid (Below w.heap.size w _):=below1 w (.cells #[.int .u64 x0,.int .u64 x1,.int .u64 x2,.int .u64 x3] 50)
  generalize World.alloc _ _=W0 at X BL ⊢
  go_loopg [7,8] (256-f) (fun gk s7 s8 wr=>gk≤c∧f+gk≤256∧s7=.int .i64 ((m/2^(f+gk)%2^(c-gk):Nat):Int)∧s8=.int .i64 ((f:Int)+(gk:Int)-1)∧W0=wr)
  case atStart=>exact ⟨by omega,by omega,by rw[bits_start HM.out (Or.inr (by omega))];rfl,by congr 1<;>omega,rfl⟩
  case round =>
   obtain ⟨hg1,hg2,rfl,rfl,rfl⟩:=hrel
   by_cases hz:gk=0
   ·subst hz
    have d1:¬ (f:Int)≤(f:Int)+((0:Nat):Int)-1:=by omega
    rw[Nat.add_zero,Nat.sub_zero,HR.out]
    go_wp2
    go_ret
    exact ⟨_,rfl,BL.out,rfl⟩
   ·obtain ⟨i,hi⟩:∃ i,f+(gk-1)=i:=⟨_,rfl⟩
    have e1:(f:Int)+(gk:Int)-1=(i:Int):=by omega
    have d1:(f:Int)≤(i:Int):=by omega
    have hi2:i<256:=by omega
    have xw:=X.wd (i/64) (by omega)
    have hwl:wd x0 x1 x2 x3 (i/64)<18446744073709551616:=wd_lt _ HL.out.1 HL.out.2.1 HL.out.2.2.1 HL.out.2.2.2.1
    have hbit:wd x0 x1 x2 x3 (i/64)/2^(i%64)%2=m/2^i%2:=by rw[HL.out.2.2.2.2];exact wd_bit i hi2 HL.out.1 HL.out.2.1 HL.out.2.2.1 HL.out.2.2.2.1
    have i2:(i:Int).tdiv 64=((i/64:Nat):Int):=by rw[Int.tdiv_eq_ediv_of_nonneg (by omega)];omega
    have i3:(i:Int).tmod 64=((i%64:Nat):Int):=by rw[Int.tmod_eq_emod_of_nonneg (by omega)];omega
    have i4:(i/64:Nat)<4:=by omega
    generalize wd x0 x1 x2 x3 (i/64)=v at xw hwl hbit
    have hvl:v/2^(i%64)<18446744073709551616:=Nat.lt_of_le_of_lt (Nat.div_le_self _ _) hwl
    have hand:bits .and .u64 ((v:Int)/2^(i%64)) 1=((m/2^i%2:Nat):Int):=by
     have:=and_one (v/2^(i%64)) hvl
     rw[hbit] at this
     rw[← this,Int.natCast_ediv,Int.natCast_pow]
     rfl
    obtain ⟨t,ht⟩:∃ t,m/2^i%2=t:=⟨_,rfl⟩
    have ht2:t<2:=by omega
    have hN:=bits_next (m:=m) (f:=f) (g:=gk) (c:=c) (by omega) hg1
    rw[hi,ht] at hN
    have hbl:m/2^(f+gk)%2^(c-gk)<4294967296:=Nat.lt_of_lt_of_le (Nat.mod_lt _ (Nat.pow_pos (by decide))) (show 2^(c-gk)≤2^32 from Nat.pow_le_pow_right (by decide) (by omega))
    rw[ht] at hand
    generalize m/2^(f+gk)%2^(c-gk)=B at hN hbl ⊢
    have hor:=or_bit B t hbl ht2
    have hsh:IntKind.i64.wrap ((B:Int)*2)=((2*B:Nat):Int):=by rw[show (B:Int)*2=((2*B:Nat):Int) by omega];exact wrap_i _ (by omega)
    have hct:IntKind.i64.wrap (t:Int)=(t:Int):=wrap_i _ (by omega)
    have HN:Hid (_=_):=hN
    have HI:Hid (f+(gk-1)=i):=hi
    have zx:=X.lt
    clear hN hi hbit ht hvl
    rw[e1]
    clear e1
    go_wp2
    go_roundg (gk-1)
    case measure=>omega
    case rel =>
     refine ⟨by omega,by omega,?_,?_,rfl⟩
     ·rw[HI.out,HN.out,← hor,Int.natCast_mul];rfl
     ·congr 1;have:=HI.out;omega
end
section
open Go
section
variable {P:Program} {ops:Array Oper} {Q:Exit→Act→World→Prop} {S:World→Prop} {p:Nat}
def anyTill (P:Program) (ops:Array Oper) (Q:Exit→Act→World→Prop) (S:World→Prop) (p:Nat):Nat→Array Bool→Act→World→Prop
 | 0,listed,a,w=>Region.ready .any ops listed=[]∧Q .normal a w
 | fuel+1,listed,a,w=>(Region.ready .any ops listed=[]→Q .normal a w) ∧
  ∀ i∈Region.ready .any ops listed,wpOp P ops Q i (fun a' w'=>((listed.setIfInBounds i true).getD p false=false→S w')∧anyTill P ops Q S p fuel (listed.setIfInBounds i true) a' w') a w
theorem anyTill.any:∀ (fuel:Nat) (listed:Array Bool) (a:Act) (w:World),anyTill P ops Q S p fuel listed a w→wpAny P .any ops Q fuel listed a w
 | 0,_,_,_,h=>h
 | fuel+1,_,_,_,h=>⟨h.1,fun i hi=>wpOp_mono (fun a' w' h'=>anyTill.any fuel _ a' w' h'.2) (h.2 i hi)⟩
theorem anyTill.first {i:Nat} {oi op:Oper} {v:Value} (hi:ops[i]? = some oi) (hp:ops[p]? = some op) (hpi:∃ e∈op.after,Region.binds .any e=true∧e.on=i) (hne:p≠i)
 (hsel:∀ (j:Nat) (o:Oper) cs b,ops[j]? = some o→o.op≠.select cs b) (hQ:∀ c a w,Q (.panic c) (a.put oi.dst v) w→Q (.panic c) a w) :
 ∀ (fuel:Nat) (listed:Array Bool) (a:Act) (w:World),listed.getD p false=false →
  (∀ j oj,ops[j]? = some oj→j≠i→listed.getD j true=false→(∀ e∈oj.after,Region.binds .any e=true→e.on≠i)→oi.apart ops oj=true) →
  i∈Region.ready .any ops listed→YieldsIf P ops S oi v a→S w →
  anyTill P ops Q S p fuel (listed.setIfInBounds i true) (a.put oi.dst v) w→anyTill P ops Q S p (fuel+1) listed a w:=by
 intro fuel
 induction fuel with
 | zero =>
  intro listed a w _ _ hr hy hS H
  refine ⟨fun h=>absurd hr (by rw[h];exact List.not_mem_nil),fun j hj=>?_⟩
  by_cases hji:j=i
  ·subst hji;exact hy.wpOp hi hS ⟨fun _=>hS,H⟩
  ·exact absurd (ready_mono hj hji) (by rw[H.1];exact List.not_mem_nil)
 | succ fuel ih =>
  intro listed a w hl hfree hr hy hS H
  refine ⟨fun h=>absurd hr (by rw[h];exact List.not_mem_nil),fun j hj=>?_⟩
  by_cases hji:j=i
  ·subst hji;exact hy.wpOp hi hS ⟨fun _=>hS,H⟩
  ·obtain ⟨hjun,oj,hoj,hall⟩:=mem_ready.1 hj
   have hnot:∀ e∈oj.after,Region.binds .any e=true→e.on≠i:=fun e he hb heq=>by
    have h1:=hall e he hb
    have h0:=(mem_ready.1 hr).1
    rw[heq] at h1
    rcases Nat.lt_or_ge i listed.size with h'|h'
    ·simp[h'] at h0 h1;rw[h0] at h1;cases h1
    ·simp[Array.getElem?_eq_none h'] at h1
   have hjp:j≠p:=by
    intro h
    subst h
    rw[hp] at hoj
    obtain ⟨e,he,hb,hon⟩:=hpi
    injection hoj with hoj
    subst hoj
    exact hnot e he hb hon
   have h2:=wpOp_putIf hoj (hfree j oj hoj hji hjun hnot) (fun cs b=>hsel i oi cs b hi) (fun cs b=>hsel j oj cs b hoj) hQ hy (H.2 j (ready_mono hj hji))
   have hl':(listed.setIfInBounds j true).getD p false=false:=by rw[getD_set_ne false hjp];exact hl
   refine wpOp_mono (fun a' w' h3=>?_) h2
   have hS':S w':=h3.2.1 (by rw[getD_set_ne false hjp,getD_set_ne false (Ne.symm hne)];exact hl)
   refine ⟨fun _=>hS',ih (listed.setIfInBounds j true) a' w' hl' (fun k ok hk hki hun hno=>?_) (ready_mono hr (Ne.symm hji)) h3.1 hS' ?_⟩
   ·refine hfree k ok hk hki ?_ hno
    by_cases hjk:j=k
    ·subst hjk;exact hjun
    ·rw[getD_set_ne true hjk] at hun;exact hun
   ·rw[Array.setIfInBounds_comm _ _ hji]
    exact h3.2.2
def waits (ops:Array Oper) (p i:Nat):Bool:=match ops[p]? with
 | some o=>o.after.any (fun e=>Region.binds .any e && e.on == i)
 | none=>false
theorem anyTill.take {i:Nat} {oi:Oper} {v:Value} {fuel:Nat} {listed:Array Bool} {a:Act} {w:World} (hi:ops[i]? = some oi) (hp:waits ops p i=true) (hs:Region.noSelect ops=true)
 (hl:(listed.getD p false || p == i)=false) (hf:Region.free .any ops listed i=true) (hr:(Region.ready .any ops listed).contains i=true)
 (hQ:∀ c a w,Q (.panic c) (a.put oi.dst v) w→Q (.panic c) a w) (hy:YieldsIf P ops S oi v a) (hS:S w)
 (h:anyTill P ops Q S p fuel (listed.setIfInBounds i true) (a.put oi.dst v) w):anyTill P ops Q S p (fuel+1) listed a w:=by
 rw[Bool.or_eq_false_iff] at hl
 unfold waits at hp
 cases ho:ops[p]? with
 | none=>rw[ho] at hp;cases hp
 | some op =>
  rw[ho] at hp
  obtain ⟨e,he,hb⟩:=Array.any_eq_true'.1 hp
  simp only[Bool.and_eq_true,beq_iff_eq] at hb
  exact anyTill.first hi ho ⟨e,he,hb.1,hb.2⟩ (by simpa using hl.2) (Region.noSelect_spec hs) hQ fuel listed a w hl.1 (Region.free_spec hi hf) (by simpa using hr) hy hS h
theorem anyTill.tk {i:Nat} {oi:Oper} {v:Value} {fuel:Nat} {listed:Array Bool} {a:Act} {w:World} (hi:ops[i]? = some oi) (hy:YieldsIf P ops S oi v a) (hS:S w)
 (h:anyTill P ops Q S p fuel (listed.setIfInBounds i true) (a.put oi.dst v) w) (hp:waits ops p i=true:=by kernel_rfl) (hs:Region.noSelect ops=true:=by kernel_rfl)
 (hl:(listed.getD p false || p == i)=false:=by kernel_rfl) (hf:Region.free .any ops listed i=true:=by kernel_rfl) (hr:(Region.ready .any ops listed).contains i=true:=by kernel_rfl)
 (hQ:∀ c a w,Q (.panic c) (a.put oi.dst v) w→Q (.panic c) a w:=by exact fun _ _ _ h=>h):anyTill P ops Q S p (fuel+1) listed a w:=anyTill.take hi hp hs hl hf hr hQ hy hS h
theorem anyTill.step {i:Nat} {o:Oper} {fuel:Nat} {listed:Array Bool} {a:Act} {w:World} (ho:ops[i]? = some o) (hr:Region.ready .any ops listed=[i])
 (h:∀ K':Act→World→Prop,Shut (∀ a w,((listed.setIfInBounds i true).getD p false=false→S w)→anyTill P ops Q S p fuel (listed.setIfInBounds i true) a w→K' a w) →
  if Region.wanted o (yielded ops a.tmps)=true then Oper.wp P o a w K' Q else K' (a.put o.dst undef) w):anyTill P ops Q S p (fuel+1) listed a w:=by
 refine ⟨fun h0=>(by rw[hr] at h0;cases h0),fun j hj=>?_⟩
 rw[hr,List.mem_singleton] at hj
 subst hj
 exact wpOp_step ho (fun K' hK=>h K' (fun a w hS hW=>hK a w ⟨hS,hW⟩))
theorem anyTill.done {listed:Array Bool} {a:Act} {w:World} (hr:Region.ready .any ops listed=[]) (h:Q .normal a w):∀ fuel,anyTill P ops Q S p fuel listed a w
 | 0=>⟨hr,h⟩
 | _+1=>⟨fun _=>h,by rw[hr];intro i hi;cases hi⟩
theorem anyTill.begin {id:Nat} {a:Act} {w:World} (S:World→Prop) (p:Nat) (hm:P.follows .mixedOrders=true) (hS:S w.drew)
 (h:S w.drew→anyTill P ops Q S p ops.size (Array.replicate ops.size false) a w.drew):(Code.region id ops true).wp P Q a w:=
 wp_region_any hm ((h hS).any)
end
end
section
open Go.RowKit Go.Sort
variable {P:Nat} [NeZero P] {N:Nat}
def pw0:Array Value:=#[.int .u64 1]++Array.replicate 63 (.int .u64 0)
def pwz:Array Value:=Array.replicate 64 (.int .u64 0)
theorem zeroT:∀ w:World,(zeroValue 241).run Tryz.prog w=.ok (.agg pwz) w:=fun _=>by kernel_rfl
theorem sizeT:(Tryz.prog.info? 241).map (·.size)=some pw0.size:=by kernel_rfl
theorem oneT:pw0.all (·.oneCell')=true:=by kernel_rfl
def Tab (W:World) (k m P i:Nat):Prop:=∀ j,j<16→∃ a b c d:Nat,(Blk.mk k (j*4) a b c d).at W∧(j<i→Four (.agg #[.int .u64 a,.int .u64 b,.int .u64 c,.int .u64 d]) (m^j%P))
theorem Tab.call {W w1:World} {k m P i:Nat} (h:Tab W k m P i) (hb:Below W.heap.size W w1):Tab w1 k m P i:=fun j hj=>by
 obtain ⟨a,b,c,d,h1,h2⟩:=h j hj
 exact ⟨a,b,c,d,h1.call hb,h2⟩
theorem Tab.drew {W:World} {k m P i:Nat} (h:Tab W k m P i):Tab W.drew k m P i:=fun j hj=>by
 obtain ⟨a,b,c,d,h1,h2⟩:=h j hj
 exact ⟨a,b,c,d,⟨h1.c0,h1.c1,h1.c2,h1.c3,h1.f⟩,h2⟩
theorem Tab.other {W:World} {k m P i g o:Nat} (h:Tab W k m P i) (hg:g≠k) (v:Value):Tab (W.setCell ⟨g,o,none⟩ v) k m P i:=fun j hj=>by
 obtain ⟨a,b,c,d,h1,h2⟩:=h j hj
 exact ⟨a,b,c,d,h1.other hg v,h2⟩
theorem Blk.at.off {W : World} {x : Blk} {i : Nat} (h : x.at W) (hi : i < x.o ∨ x.o + 3 < i) (v : Value) : x.at (W.setCell ⟨x.k, i, none⟩ v) :=
  ⟨by rw [World.cell?_setCell_other _ _ _ _ (ne_addr (Or.inr (by omega)))]; exact h.c0, by rw [World.cell?_setCell_other _ _ _ _ (ne_addr (Or.inr (by omega)))]; exact h.c1,
   by rw [World.cell?_setCell_other _ _ _ _ (ne_addr (Or.inr (by omega)))]; exact h.c2, by rw [World.cell?_setCell_other _ _ _ _ (ne_addr (Or.inr (by omega)))]; exact h.c3, fun o => by rw [World.frozen?_setCell]; exact h.f o⟩
theorem Blk.at.put {W:World} {k o a b c d:Nat} (h:(Blk.mk k o a b c d).at W) (x y z t:Nat) :
 (Blk.mk k o x y z t).at ((((W.setCell ⟨k,o,none⟩ (.int .u64 x)).setCell ⟨k,o+1,none⟩ (.int .u64 y)).setCell ⟨k,o+2,none⟩ (.int .u64 z)).setCell ⟨k,o+3,none⟩ (.int .u64 t)):=by
 have s0:=World.cell?_setCell_same W ⟨k,o,none⟩ (.int .u64 x) h.c0
 have o1:∀ (W:World) (i j:Nat) (v:Value),i≠j→(W.setCell ⟨k,i,none⟩ v).cell? ⟨k,j,none⟩=W.cell? ⟨k,j,none⟩:=fun W i j v hij=>World.cell?_setCell_other _ _ _ _ (ne_addr (Or.inr hij))
 refine ⟨?_,?_,?_,?_,fun i=>?_⟩
 ·show World.cell? _ ⟨k,o,none⟩=_
  rw[o1 _ _ _ _ (by omega),o1 _ _ _ _ (by omega),o1 _ _ _ _ (by omega)];exact s0
 ·show World.cell? _ ⟨k,o+1,none⟩=_
  rw[o1 _ _ _ _ (by omega),o1 _ _ _ _ (by omega)]
  exact World.cell?_setCell_same _ _ _ (by rw[o1 _ _ _ _ (by omega)];exact h.c1)
 ·show World.cell? _ ⟨k,o+2,none⟩=_
  rw[o1 _ _ _ _ (by omega)]
  exact World.cell?_setCell_same _ _ _ (by rw[o1 _ _ _ _ (by omega),o1 _ _ _ _ (by omega)];exact h.c2)
 ·show World.cell? _ ⟨k,o+3,none⟩=_
  exact World.cell?_setCell_same _ _ _ (by rw[o1 _ _ _ _ (by omega),o1 _ _ _ _ (by omega),o1 _ _ _ _ (by omega)];exact h.c3)
 ·rw[World.frozen?_setCell,World.frozen?_setCell,World.frozen?_setCell,World.frozen?_setCell];exact h.f i
theorem Tab.put {W:World} {k m P i x y z t:Nat} (h:Tab W k m P i) (hi:i<16) (hF:Four (.agg #[.int .u64 x,.int .u64 y,.int .u64 z,.int .u64 t]) (m^i%P)) :
 Tab ((((W.setCell ⟨k,i*4,none⟩ (.int .u64 x)).setCell ⟨k,i*4+1,none⟩ (.int .u64 y)).setCell ⟨k,i*4+2,none⟩ (.int .u64 z)).setCell ⟨k,i*4+3,none⟩ (.int .u64 t)) k m P (i+1):=fun j hj=>by
 obtain ⟨a,b,c,d,h1,h2⟩:=h j hj
 by_cases hji:j=i
 ·subst hji
  exact ⟨x,y,z,t,h1.put x y z t,fun _=>hF⟩
 ·refine ⟨a,b,c,d,?_,fun h3=>h2 (by omega)⟩
  exact (((h1.off (by simp only;omega) _).off (by simp only;omega) _).off (by simp only;omega) _).off (by simp only;omega) _
theorem newest (w:World) (o:Obj):(w.alloc o).heap[w.heap.size]? = some o:=by
 show (w.heap.push o)[w.heap.size]? = some o
 simp
theorem pw0_at (j:Nat):pw0[j]? = if j=0 then some (.int .u64 1) else if j<64 then some (.int .u64 0) else none:=by
 match j with
 | 0=>rfl
 | j+1 =>
  rw[if_neg (by omega)]
  unfold pw0
  rw[Array.getElem?_append_right (by simp)]
  by_cases h:j+1<64
  ·rw[if_pos h];simp[Array.getElem?_replicate];omega
  ·rw[if_neg h];simp[Array.getElem?_replicate];omega
theorem Tab.new (w:World) (m P:Nat) (hP:1<P):Tab ((w.alloc (.cells pwz 241)).setRow w.heap.size pw0) w.heap.size m P 1:=fun j hj=>by
 have hg:(w.alloc (.cells pwz 241)).heap[w.heap.size]? = some (.cells pwz 241 (0,0)):=newest w _
 have hc:=fun i=>cell_setRow_same (w.alloc (.cells pwz 241)) w.heap.size i pwz pw0 241 (0,0) hg
 have hf:∀ o,((w.alloc (.cells pwz 241)).setRow w.heap.size pw0).frozen? ⟨w.heap.size,o,none⟩=false:=fun o=>by
  have h1:=setRow_heap _ _ _ pw0 _ _ hg
  unfold World.frozen?
  dsimp only
  rw[h1]
  simp
 by_cases h0:j=0
 ·subst h0
  refine ⟨1,0,0,0,⟨?_,?_,?_,?_,hf⟩,fun _=>?_⟩
  ·rw[hc,pw0_at];rfl
  ·rw[hc,pw0_at];rfl
  ·rw[hc,pw0_at];rfl
  ·rw[hc,pw0_at];rfl
  ·rw[Nat.pow_zero,Nat.mod_eq_of_lt hP]
   exact Four.mk (by decide) (by decide) (by decide) (by decide) rfl
 ·refine ⟨0,0,0,0,⟨?_,?_,?_,?_,hf⟩,fun h=>by omega⟩
  ·rw[hc,pw0_at,if_neg (by simp only;omega),if_pos (by simp only;omega)];rfl
  ·rw[hc,pw0_at,if_neg (by simp only;omega),if_pos (by simp only;omega)];rfl
  ·rw[hc,pw0_at,if_neg (by simp only;omega),if_pos (by simp only;omega)];rfl
  ·rw[hc,pw0_at,if_neg (by simp only;omega),if_pos (by simp only;omega)];rfl
theorem below_setRow {B:Nat} {w W:World} (h:Below B w W) {g:Nat} (hg:B≤g) (cs:Array Value):Below B w (W.setRow g cs):=
 ⟨h.os,h.tape,h.output,by rw[setRow_size];exact h.size,fun k hk=>by rw[setRow_other W g k cs (by omega)];exact h.block k hk⟩
theorem below_tab (W:World):Below W.heap.size W ((W.alloc (.cells pwz 241)).setRow W.heap.size pw0):=below_setRow (below1 W _) (Nat.le_refl _) _
end
end Go.Proofs.YtnfpdihkjkimiaaGreat
