import Derived.Deep.RegionHeld3
import Derived.Deep.LoopGhost
import Derived.Laws.BitsLemmas
import Derived.OrdersHeld
import Derived.Deep.RegionHeld
import Derived.Deep.CutRange
import Derived.Deep.DeepCutAuto
import Derived.Laws.Tables
import Derived.LoopN
import Derived.Deep.RegionWith
import Derived.Deep.Draws
import Derived.Deep.OwnRows
import Derived.Lib.LazyBuf
import Derived.Lib.ConvBytes
import Derived.Test.YtlofhpkoaljmeaaGreatat1
set_option linter.unusedVariables false
set_option linter.constructorNameAsVariable false
set_option linter.unusedSimpArgs false
set_option maxRecDepth 1000000
set_option maxHeartbeats 4000000
namespace Go.Proofs.YtlofhpkoaljmeaaGreat
section
open Go.RowKit Go.Sort
variable {P:Nat} [NeZero P] {N:Nat}
theorem kept4 (w:World) (t0 t1 t2 q:TypeId) (a b c d e f g h i j k l m n o p:Nat) :
 Kept w w.heap.size [⟨w.heap.size,0,a,b,c,d⟩,⟨w.heap.size+1,0,e,f,g,h⟩,⟨w.heap.size+1+1,0,i,j,k,l⟩,⟨w.heap.size+1+1+1,0,m,n,o,p⟩]
  ((((w.alloc (.cells #[.int .u64 a,.int .u64 b,.int .u64 c,.int .u64 d] t0)).alloc (.cells #[.int .u64 e,.int .u64 f,.int .u64 g,.int .u64 h] t1)).alloc (.cells #[.int .u64 i,.int .u64 j,.int .u64 k,.int .u64 l] t2)).alloc (.cells #[.int .u64 m,.int .u64 n,.int .u64 o,.int .u64 p] q)):=by
 refine ((((Kept.mk1 (below4 w _ _ _ _) (below4 w _ _ _ _).size).cons ?_).cons ?_).cons ?_).cons ?_
 ·exact (At4.made _ q m n o p (by simp)).blk
 ·exact ((At4.made _ t2 i j k l (by simp)).alloc _).blk
 ·exact (((At4.made _ t1 e f g h (by simp)).alloc _).alloc _).blk
 ·exact ((((At4.made _ t0 a b c d rfl).alloc _).alloc _).alloc _).blk
theorem plus_lo {c k b P m n s l:Nat} (hG:Gap c k b P) (d:s+top*0=m+n) (e:l+top*0=s+val c k b 0) (f:l<top):(m+n)%P=s:=by
 have:=hG.hP
 rw[← d,Nat.mul_zero,Nat.add_zero,Nat.mod_eq_of_lt oM]
theorem plus_hi {g e f P m n s l k j:Nat} (hG:Gap g e f P) (t:m<P) (v:n<P) (o:s+top*k=m+n) (i:l+top*j=s+val g e f 0) (r:k≤1) (x:j≤1) (p:¬ (k=0∧j=0)) (w:s<top) (_:l<top):(m+n)%P=l:=by
 have u:=hG.hP
 have q:=hG.hP2
 have c:k=0∨k=1:=oM
 have d:j=0∨j=1:=oM
 have:m+n=l+P:=by
  rcases c with h|h<;>rcases d with b|b<;>rw[h] at o<;>rw[b] at i<;>first|omega|(exfalso;exact p ⟨h,b⟩)
 rw[this,Nat.add_mod_right,Nat.mod_eq_of_lt oM]
theorem or2 (a b:Nat) (e:a≤1) (d:b≤1):∃ o:Nat,bits .or .u64 (a:Int) (b:Int)=(o:Int)∧(o=0↔(a=0∧b=0)):=by
 have c:a=0∨a=1:=oM
 have k:b=0∨b=1:=oM
 rcases c with rfl|rfl<;>rcases k with rfl|rfl
 ·exact ⟨0,dK,dC⟩
 ·exact ⟨1,dK,dC⟩
 ·exact ⟨1,dK,dC⟩
 ·exact ⟨1,dK,dC⟩
theorem minus_lo {P m n s:Nat} (b:m<P) (k:n<P) (c:s+n=m+top*0):(m+P-n)%P=s:=by
 rw[show m+P-n=s+P by omega,Nat.add_mod_right,Nat.mod_eq_of_lt oM]
theorem minus_hi {e b d P m n s l j:Nat} (hG:Gap e b d P) (_:m<P) (p:n<P) (o:s+n=m+top*1) (f:l+val e b d 0=s+top*j) (r:j≤1) (g:l<top) (q:s<top):(m+P-n)%P=l:=by
 have i:=hG.hP
 have k:j=0∨j=1:=oM
 have:m+P-n=l:=by
  rcases k with c|c<;>rw[c] at f<;>omega
 rw[this,Nat.mod_eq_of_lt oM]
theorem sum_any (L O K P:Nat) (x y:Value) (m n:Nat) (hG:Gap L O K P) (hx:Four x m) (T:Four y n) (hm:m<P) (Z:n<P) (w:World) :
 Calls Tryz.prog 98 #[.agg #[.int .u64 L,.int .u64 O,.int .u64 K,.int .u64 0],x,y] w (Ret fun e w'=>Below w.heap.size w w'∧Four e ((m+n)%P)):=by
 obtain ⟨a,b,c,d,rfl,ha,hb,hc,hd,em⟩:=id hx
 obtain ⟨p,q,r,s,rfl,hp,hq,hr,hs,en⟩:=id T
 clear em en ha hb hc hd hp hq hr hs
 go_enter Tryz.func98,Tryz.ntmps98
 go_wp2_with fail
 have i:=kept4 w 78 76 76 76 L O K 0 a b c d p q r s 0 0 0 0
 simp only[Int.natCast_zero] at i
 generalize World.alloc _ _=W0 at i ⊢
 generalize h3:w.heap.size+1+1+1=k3 at i ⊢
 generalize h2:w.heap.size+1+1=k2 at i ⊢
 generalize h1:w.heap.size+1=k1 at i ⊢
 have U:Hid (w.heap.size≤k3):=by unfold Hid;omega
 generalize h0:w.heap.size=k0 at i U ⊢
 have H0:Hid (w.heap.size=k0):=h0
 have W:k0≠k3:=oM
 clear h0 h1 h2 h3
 refine (plus_any _ _ _ _ hx T _).mono ?_
 rintro e w1 ⟨v,rfl,V,v2,t,k,rfl,⟨G,b1,c1,H,rfl,C,u,E,z,Q⟩,hk,M⟩
 have HE:Hid (val G b1 c1 H+top*k=m+n):=by unfold Hid;rw[← Q];exact M
 clear Q M
 replace i:=i.call V
 have f:=(i.alloc (.cells #[.int .u64 G,.int .u64 b1,.int .u64 c1,.int .u64 H] 76)).cons (At4.made w1 76 G b1 c1 H rfl).blk
 have m0:=Nat.ne_of_lt i.head.lt
 have m3:=Nat.ne_of_lt i.tail.tail.tail.head.lt
 obtain ⟨k5,hw,h7,hl,pf⟩:=f.tail.head.at4
 have z0:=f.tail.head.lt
 go_wp2_with fail
 refine (plus_any _ _ _ _ (Four.mk C u E z rfl) (Four.mk hG.h0 hG.h1 hG.h2 dC rfl) _).mono ?_
 rintro e w2 ⟨v,rfl,R,v3,t2,j,rfl,⟨a2,J,c2,N,rfl,A,l,F,B,Q⟩,X,M⟩
 have I:Hid (val a2 J c2 N+top*j=val G b1 c1 H+val L O K 0):=by unfold Hid;rw[← Q];exact M
 replace f:=f.call R
 have HG:=mk1 (hG)
 have Y:=mk2 hm Z
 clear hG hm Z hx T m0 W
 generalize w1.heap.size=k4 at f m3 ⊢
 obtain ⟨h9,hi,h4,ht,sf⟩:=f.head.at4
 obtain ⟨hu,h5,h8,hg,rf⟩:=f.tail.tail.tail.tail.head.at4
 have z4:=f.head.lt
 have z3:=f.tail.tail.tail.tail.head.lt
 obtain ⟨o,ho,D⟩:=or2 k j hk X
 by_cases S:k=0∧j=0
 ·obtain ⟨rfl,rfl⟩:=S
  obtain rfl:o=0:=D.2 ⟨rfl,rfl⟩
  clear D
  replace ho:bits .or .u64 0 0=0:=ho
  go_wp2
  have g:=(f.tail.tail.tail.tail.head.at4.self4 G b1 c1 H).alloc (.cells #[.int .u64 a2,.int .u64 J,.int .u64 c2,.int .u64 N] 76)
  unfold set4 at g
  refine bodyPost_ret (v:=?v0) ?hr0 rfl ?hR0
  case hr0=>simp[results,Tryz.results98,go_sem,g.c0,g.c1,g.c2,g.c3];rfl
  refine ⟨_,rfl,?_,Four.mk C u E z (plus_lo HG.out HE.out I.out (val_lt A l F B))⟩
  rw[H0.out]
  exact (below_set4 f.bl U.out _ _ _ _).alloc (by simpa[set4] using f.le) _
 ·have h6:¬ o=0:=fun h=>S (D.1 h)
  go_wp2
  have g:=(f.tail.tail.tail.tail.head.at4.self4 a2 J c2 N).alloc (.cells #[.int .u64 a2,.int .u64 J,.int .u64 c2,.int .u64 N] 76)
  unfold set4 at g
  refine bodyPost_ret (v:=?v1) ?hr1 rfl ?hR1
  case hr1=>simp[results,Tryz.results98,go_sem,g.c0,g.c1,g.c2,g.c3];rfl
  refine ⟨_,rfl,?_,Four.mk A l F B (plus_hi HG.out Y.1 Y.2 HE.out I.out hk X S (val_lt C u E z) (val_lt A l F B))⟩
  rw[H0.out]
  exact (below_set4 f.bl U.out _ _ _ _).alloc (by simpa[set4] using f.le) _
theorem difference_any (M N K P:Nat) (x y:Value) (m n:Nat) (hG:Gap M N K P) (hx:Four x m) (Z:Four y n) (hm:m<P) (hn:n<P) (w:World) :
 Calls Tryz.prog 178 #[.agg #[.int .u64 M,.int .u64 N,.int .u64 K,.int .u64 0],x,y] w (Ret fun e w'=>Below w.heap.size w w'∧Four e ((m+P-n)%P)):=by
 obtain ⟨a,b,c,d,rfl,ha,hb,hc,hd,em⟩:=id hx
 obtain ⟨p,q,r,s,rfl,hp,hq,hr,hs,en⟩:=id Z
 clear em en ha hb hc hd hp hq hr hs
 go_enter Tryz.func178,Tryz.ntmps178
 go_wp2_with fail
 have g:=kept4 w 78 76 76 76 M N K 0 a b c d p q r s 0 0 0 0
 simp only[Int.natCast_zero] at g
 generalize World.alloc _ _=W0 at g ⊢
 generalize h3:w.heap.size+1+1+1=k3 at g ⊢
 generalize h2:w.heap.size+1+1=k2 at g ⊢
 generalize h1:w.heap.size+1=k1 at g ⊢
 have S:Hid (w.heap.size≤k3):=by unfold Hid;omega
 generalize h0:w.heap.size=k0 at g S ⊢
 have H0:=mk1 (h0)
 refine (minus_any _ _ _ _ hx Z _).mono ?_
 rintro e w1 ⟨v,rfl,T,v2,t,k,rfl,⟨B,b1,c1,C,rfl,z,l,A,u,W⟩,hk,U⟩
 have HE:Hid (val B b1 c1 C+n=m+top*k):=by unfold Hid;rw[← W];exact U
 replace g:=g.call T
 have f:=(g.alloc (.cells #[.int .u64 B,.int .u64 b1,.int .u64 c1,.int .u64 C] 76)).cons (At4.made w1 76 B b1 c1 C rfl).blk
 have m0:=Nat.ne_of_lt g.head.lt
 have m3:=Nat.ne_of_lt g.tail.tail.tail.head.lt
 have O:=mk1 (hG)
 have L:=mk2 hm hn
 have Q4:=mk1 (g.le)
 have Y:k=0∨k=1:=oM
 obtain ⟨I,D,F,G,rf⟩:=g.tail.tail.tail.head.at4
 have z3:=g.tail.tail.tail.head.lt
 rcases Y with rfl|rfl
 ·clear f
  go_wp2
  have i:=(g.tail.tail.tail.head.at4.self4 B b1 c1 C).alloc (.cells #[.int .u64 B,.int .u64 b1,.int .u64 c1,.int .u64 C] 76)
  unfold set4 at i
  refine bodyPost_ret (v:=?v0) ?hr0 rfl ?hR0
  case hr0=>simp[results,Tryz.results178,go_sem,i.c0,i.c1,i.c2,i.c3];rfl
  refine ⟨_,rfl,?_,Four.mk z l A u (minus_lo L.1 L.2 HE.out)⟩
  rw[H0.out]
  exact (below_set4 g.bl S.out _ _ _ _).alloc (by simpa[set4] using g.le) _
 ·clear g I D F G rf z3
  obtain ⟨hi,hg,h5,h8,pf⟩:=f.tail.head.at4
  have z0:=f.tail.head.lt
  go_wp2_with fail
  refine (minus_any _ _ _ _ (Four.mk z l A u rfl) (Four.mk O.h0 O.h1 O.h2 dC rfl) _).mono ?_
  rintro e w2 ⟨v,rfl,R,v3,t2,j,rfl,⟨a2,Q,c2,V,rfl,E,o,J,H,W⟩,hj,U⟩
  have X:Hid (val a2 Q c2 V+val M N K 0=val B b1 c1 C+top*j):=by unfold Hid;rw[← W];exact U
  replace f:=f.call R
  obtain ⟨h6,h7,h4,h9,sf⟩:=f.head.at4
  obtain ⟨I,D,F,G,rf⟩:=f.tail.tail.tail.tail.head.at4
  have z4:=f.head.lt
  have z3:=f.tail.tail.tail.tail.head.lt
  go_wp2
  have i:=(f.tail.tail.tail.tail.head.at4.other4 m3.symm (.int .u64 a2) (.int .u64 Q) (.int .u64 c2) (.int .u64 V)).self4 a2 Q c2 V
  unfold set4 at i
  refine bodyPost_ret (v:=?v1) ?hr1 rfl ?hR1
  case hr1=>simp[results,Tryz.results178,go_sem,i.c0,i.c1,i.c2,i.c3];rfl
  refine ⟨_,rfl,?_,Four.mk E o J H (minus_hi O.out L.1 L.2 HE.out X.out hj (val_lt E o J H) (val_lt z l A u))⟩
  rw[H0.out]
  exact below_set4 (below_set4 f.bl Q4.out _ _ _ _) S.out _ _ _ _
theorem rows_sum {a b c d n m k s0 t0 u0 g e i f:Nat} (j:m=val a b c d)
 (o:k+18446744073709551616*g=a*n+val 0 0 0 0)
 (l:s0+18446744073709551616*e=b*n+g)
 (p:t0+18446744073709551616*i=c*n+e)
 (e3:u0+18446744073709551616*f=d*n+i) :
 val k s0 t0 u0+top*f=m*n:=by
 have l:val a b c d*n=val (a*n) (b*n) (c*n) (d*n):=by
  rw[Nat.mul_comm,mul_val,Nat.mul_comm n a,Nat.mul_comm n b,Nat.mul_comm n c,Nat.mul_comm n d]
 rw[j,l]
 unfold val at *
 unfold top
 omega
theorem product_any (g0 g1 g2 P:Nat) (x y:Value) (m n:Nat) (hG:Gap g0 g1 g2 P) (hx:Four x m) (I:Four y n) (w:World) :
 Calls Tryz.prog 100 #[.agg #[.int .u64 g0,.int .u64 g1,.int .u64 g2,.int .u64 0],x,y] w (Ret fun e w'=>Below w.heap.size w w'∧Four e (m*n%P)):=by
 obtain ⟨a,b,c,d,rfl,ha,hb,hc,hd,em⟩:=hx
 obtain ⟨p,q,r,s,rfl,hp,hq,hr,hs,en⟩:=id I
 have HM:Hid (m=val a b c d):=em
 clear em en
 go_enter Tryz.func100,Tryz.ntmps100
 go_wp2_with fail
 have B:=kept4 w 78 76 76 76 g0 g1 g2 0 a b c d p q r s 0 0 0 0
 simp only[Int.natCast_zero] at B
 have PR:=B.head.at4
 have X:=B.tail.head.at4
 have Y:=B.tail.tail.head.at4
 have f:=B.tail.tail.tail.head.at4
 have BL:Hid (Below w.heap.size w _):=B.bl
 clear B
 generalize World.alloc _ _=w1 at X Y PR f BL ⊢
 generalize h3:w.heap.size+1+1+1=k3 at f ⊢
 generalize h2:w.heap.size+1+1=k4 at Y ⊢
 generalize h1:w.heap.size+1=k1 at X ⊢
 have Q3:Hid (w.heap.size≤k3):=by unfold Hid;omega
 generalize h0:w.heap.size=D at PR BL Q3 ⊢
 have kf:D≠k3:=oM
 have kd:k1≠k3:=oM
 have H0:Hid (w.heap.size=D):=h0
 clear h0 h1 h2 h3
 refine (row_any a _ _ _ _ ha I (Four.mk (a:=0) (b:=0) (c:=0) (d:=0) dC dC dC dC rfl) _).mono ?_
 rintro e w2 ⟨v,rfl,i,l0,v2,t0,rfl,hi,⟨a0,b0,c0,d0,rfl,h8,hz,ht,hk,z⟩,u⟩
 have hm:Hid (l0+18446744073709551616*val a0 b0 c0 d0=a*n+val 0 0 0 0):=by unfold Hid;rw[← z];exact u
 clear u z
 replace BL:Hid (Below D w w2):=blcall BL PR i
 replace X:=X.call i
 replace Y:=Y.call i
 replace f:=f.call i
 replace PR:=PR.call i
 obtain ⟨U,L,V,S,xf⟩:=id X
 have z1:=X.lt
 obtain ⟨R,Q,N,J,yf⟩:=id Y
 have z4:=Y.lt
 obtain ⟨t,j,l,o,rf⟩:=id f
 have z3:=f.lt
 obtain ⟨F,E,A,C,pf⟩:=id PR
 have z0:=PR.lt
 go_wp2_with fail
 refine (row_any b _ _ _ _ hb I (Four.mk h8 hz ht hk rfl) _).mono ?_
 rintro e w3 ⟨v,rfl,g,l1,v3,t1,rfl,h6,⟨a1,b1,c1,d1,rfl,hw,h9,k5,h4,z⟩,u⟩
 have hj:Hid (l1+18446744073709551616*val a1 b1 c1 d1=b*n+val a0 b0 c0 d0):=by unfold Hid;rw[← z];exact u
 have G:=Nat.ne_of_lt PR.lt
 have j1:=Nat.ne_of_lt X.lt
 have j3:=Nat.ne_of_lt f.lt
 have j4:=Nat.ne_of_lt Y.lt
 have J0:=mk1 (Nat.le_of_lt PR.lt)
 have T:=(At4.made w2 76 a0 b0 c0 d0 rfl).call g
 replace BL:Hid (Below D w w3):=blcall (W:=w2.alloc (.cells #[.int .u64 a0,.int .u64 b0,.int .u64 c0,.int .u64 d0] 76)) (BL.alloc (Nat.le_of_lt PR.lt) _) (PR.alloc _) g
 replace X:=(X.alloc _).call g
 replace Y:=(Y.alloc _).call g
 replace f:=(f.alloc _).call g
 replace PR:=(PR.alloc _).call g
 obtain ⟨U,L,V,S,xf⟩:=id X
 have z1:=X.lt
 obtain ⟨R,Q,N,J,yf⟩:=id Y
 have z4:=Y.lt
 obtain ⟨t,j,l,o,rf⟩:=id f
 have z3:=f.lt
 obtain ⟨F,E,A,C,pf⟩:=id PR
 have z0:=PR.lt
 obtain ⟨H,K,M,Z,tf⟩:=id T
 have z5:=T.lt
 go_wp2_with fail
 refine (row_any c _ _ _ _ hc I (Four.mk hw h9 k5 h4 rfl) _).mono ?_
 rintro e w4 ⟨v,rfl,k,l2,v4,t4,rfl,k8,⟨a2,b2,c2,d2,rfl,h7,i,k7,hl,z⟩,u⟩
 have hg:Hid (l2+18446744073709551616*val a2 b2 c2 d2=c*n+val a1 b1 c1 d1):=by unfold Hid;rw[← z];exact u
 replace BL:Hid (Below D w w4):=blcall (below_set4 BL.out J0.out _ _ _ _) (PR.other4 G.symm _ _ _ _) k
 replace X:=(X.other4 j1.symm _ _ _ _).call k
 replace Y:=(Y.other4 j4.symm _ _ _ _).call k
 replace f:=(f.other4 j3.symm _ _ _ _).call k
 replace PR:=(PR.other4 G.symm _ _ _ _).call k
 replace T:=(T.self4 a1 b1 c1 d1).call k
 obtain ⟨U,L,V,S,xf⟩:=id X
 have z1:=X.lt
 obtain ⟨R,Q,N,J,yf⟩:=id Y
 have z4:=Y.lt
 obtain ⟨t,j,l,o,rf⟩:=id f
 have z3:=f.lt
 obtain ⟨F,E,A,C,pf⟩:=id PR
 have z0:=PR.lt
 obtain ⟨H,K,M,Z,tf⟩:=id T
 have z5:=T.lt
 go_wp2_with fail
 refine (row_any d _ _ _ _ hd I (Four.mk h7 i k7 hl rfl) _).mono ?_
 rintro e w5 ⟨v,rfl,k,l3,v4,t4,rfl,h5,⟨a3,b3,c3,d3,rfl,hn,g,k6,hu,z⟩,u⟩
 have k2:Hid (l3+18446744073709551616*val a3 b3 c3 d3=d*n+val a2 b2 c2 d2):=by unfold Hid;rw[← z];exact u
 replace BL:Hid (Below D w w5):=blcall (below_set4 BL.out J0.out _ _ _ _) (PR.other4 G.symm _ _ _ _) k
 replace X:=(X.other4 j1.symm _ _ _ _).call k
 replace Y:=(Y.other4 j4.symm _ _ _ _).call k
 replace f:=(f.other4 j3.symm _ _ _ _).call k
 replace PR:=(PR.other4 G.symm _ _ _ _).call k
 replace T:=(T.self4 a2 b2 c2 d2).call k
 obtain ⟨t,j,l,o,rf⟩:=id f
 have z3:=f.lt
 obtain ⟨F,E,A,C,pf⟩:=id PR
 have z0:=PR.lt
 obtain ⟨H,K,M,Z,tf⟩:=id T
 have z5:=T.lt
 go_wp2_with fail
 refine (fold_any g0 g1 g2 _ _ _ _ P hG.h0 hG.h1 hG.h2 hG.hor hG.hP hG.hP2 (Four.mk hi h6 k8 h5 rfl) (Four.mk hn g k6 hu rfl) _).mono ?_
 rintro e w6 ⟨v,rfl,k,hv⟩
 rw[rows_sum HM.out hm.out hj.out hg.out k2.out] at hv
 replace BL:Hid (Below D w w6):=blcall (below_set4 BL.out J0.out _ _ _ _) (PR.other4 G.symm _ _ _ _) k
 replace f:=(f.other4 j3.symm _ _ _ _).call k
 replace PR:=(PR.other4 G.symm _ _ _ _).call k
 obtain ⟨a7,b7,c7,d7,rfl,kc,ke,kb,k9,ka⟩:=id hv
 have HV:=mk1 (hv)
 obtain ⟨t,j,l,o,rf⟩:=id f
 have z3:=f.lt
 go_wp2
 have O:=f.self4 a7 b7 c7 d7
 unfold set4 at O
 refine bodyPost_ret (v:=?v) ?hr rfl ?hR
 case hr=>simp[results,Tryz.results100,go_sem,O.c0,O.c1,O.c2,O.c3];rfl
 refine ⟨_,rfl,?_,HV.out⟩
 rw[H0.out]
 exact below_set4 BL.out Q3.out _ _ _ _
theorem wrS_of {w W:World} {k f e a b c d p q r s j g i:Nat} (h:Kept w k [⟨k,0,j,g,i,0⟩,⟨f,0,a,b,c,d⟩,⟨e,0,p,q,r,s⟩] W):W.cell? ⟨k,0,none⟩=some (.int .u64 j)∧W.cell? ⟨k,1,none⟩=some (.int .u64 g)∧W.cell? ⟨k,2,none⟩=some (.int .u64 i)∧W.cell? ⟨k,3,none⟩=some (.int .u64 0)∧W.cell? ⟨f,0,none⟩=some (.int .u64 a)∧W.cell? ⟨f,1,none⟩=some (.int .u64 b)∧W.cell? ⟨f,2,none⟩=some (.int .u64 c)∧W.cell? ⟨f,3,none⟩=some (.int .u64 d)∧W.cell? ⟨e,0,none⟩=some (.int .u64 p)∧W.cell? ⟨e,1,none⟩=some (.int .u64 q)∧W.cell? ⟨e,2,none⟩=some (.int .u64 r)∧W.cell? ⟨e,3,none⟩=some (.int .u64 s)∧Kept w k [⟨k,0,j,g,i,0⟩,⟨f,0,a,b,c,d⟩,⟨e,0,p,q,r,s⟩] W:=
 ⟨h.head.c0,h.head.c1,h.head.c2,h.head.c3,h.tail.head.c0,h.tail.head.c1,h.tail.head.c2,h.tail.head.c3,h.tail.tail.head.c0,h.tail.tail.head.c1,h.tail.tail.head.c2,h.tail.tail.head.c3,h⟩
theorem three_any (t l o:Nat) (x y:Value) (m n R:Nat) (hx:Four x m) (P:Four y n) (w:World):((∀ w,Calls Tryz.prog 98 #[.agg #[.int .u64 t,.int .u64 l,.int .u64 o,.int .u64 0],x,y] w (Ret fun e w'=>Below w.heap.size w w'∧Four e R))→Calls Tryz.prog 50 #[.agg #[.int .u64 t,.int .u64 l,.int .u64 o,.int .u64 0],x,y] w (Ret fun e w'=>Below w.heap.size w w'∧Four e R))∧((∀ w,Calls Tryz.prog 178 #[.agg #[.int .u64 t,.int .u64 l,.int .u64 o,.int .u64 0],x,y] w (Ret fun e w'=>Below w.heap.size w w'∧Four e R))→Calls Tryz.prog 121 #[.agg #[.int .u64 t,.int .u64 l,.int .u64 o,.int .u64 0],x,y] w (Ret fun e w'=>Below w.heap.size w w'∧Four e R))∧((∀ w,Calls Tryz.prog 100 #[.agg #[.int .u64 t,.int .u64 l,.int .u64 o,.int .u64 0],x,y] w (Ret fun e w'=>Below w.heap.size w w'∧Four e R))→Calls Tryz.prog 51 #[.agg #[.int .u64 t,.int .u64 l,.int .u64 o,.int .u64 0],x,y] w (Ret fun e w'=>Below w.heap.size w w'∧Four e R)):=by
 obtain ⟨a,b,c,d,rfl,ha,hb,hc,hd,X⟩:=id hx
 obtain ⟨p,q,r,s,rfl,Z,hq,hr,hs,en⟩:=id P
 have HX:=mk1 (hx)
 have HY:=mk1 (P)
 refine ⟨fun I=>?_,fun I=>?_,fun I=>?_⟩
 all_goals replace I:Hid _:=I
 all_goals clear X en hx P ha hb hc hd Z hq hr hs
 case' refine_1=>go_enter Tryz.func50,Tryz.ntmps50
 case' refine_2=>go_enter Tryz.func121,Tryz.ntmps121
 case' refine_3=>go_enter Tryz.func51,Tryz.ntmps51
 all_goals
  go_wp2_with fail
  have g:=kept4 w 78 42 42 42 t l o 0 a b c d p q r s 0 0 0 0
  simp only[Int.natCast_zero] at g
  generalize h3:w.heap.size+1+1+1=Q at g ⊢
  generalize h2:w.heap.size+1+1=E at g ⊢
  generalize h1:w.heap.size+1=F at g ⊢
  have M:Hid (w.heap.size≤Q):=by unfold Hid;omega
  generalize h0:w.heap.size=C at g M ⊢
  have W:Hid (w.heap.size=C):=h0
  have G:∀ x∈([⟨C,0,t,l,o,0⟩,⟨F,0,a,b,c,d⟩,⟨E,0,p,q,r,s⟩]:List Blk),Q≠x.k:=by simp only[List.mem_cons,List.not_mem_nil,or_false];rintro x (rfl|rfl|rfl)<;>simp only<;>omega
  have i:=(((Kept.mk1 g.bl g.le).cons g.tail.tail.head).cons g.tail.head).cons g.head
  have T3:=g.tail.tail.tail.head.at4
  obtain ⟨u,B,z,A,L⟩:=id T3
  have K:=T3.lt
  go_region_held3 (fun w'=>w'.cell? ⟨C,0,none⟩=some (.int .u64 t)∧w'.cell? ⟨C,1,none⟩=some (.int .u64 l)∧w'.cell? ⟨C,2,none⟩=some (.int .u64 o)∧w'.cell? ⟨C,3,none⟩=some (.int .u64 0)∧w'.cell? ⟨F,0,none⟩=some (.int .u64 a)∧w'.cell? ⟨F,1,none⟩=some (.int .u64 b)∧w'.cell? ⟨F,2,none⟩=some (.int .u64 c)∧w'.cell? ⟨F,3,none⟩=some (.int .u64 d)∧w'.cell? ⟨E,0,none⟩=some (.int .u64 p)∧w'.cell? ⟨E,1,none⟩=some (.int .u64 q)∧w'.cell? ⟨E,2,none⟩=some (.int .u64 r)∧w'.cell? ⟨E,3,none⟩=some (.int .u64 s)∧Kept w C [⟨C,0,t,l,o,0⟩,⟨F,0,a,b,c,d⟩,⟨E,0,p,q,r,s⟩] w') (first|(with_reducible exact wrS_of i)|(with_reducible exact wrS_of i.drew)|(with_reducible exact wrS_of (i.set4' M.out G _ _ _ _))|(with_reducible exact wrS_of (i.set4' M.out G _ _ _ _).drew)|fail) (first|(go_at_call_of 55 (Value.agg #[Value.int .u64 a,Value.int .u64 b,Value.int .u64 c,Value.int .u64 d]);refine (four_any _ _ HX.out _).mono ?_;rintro e O ⟨v,rfl,k,rfl⟩;(first|(with_reducible (have f:=i.drew.call k))|(with_reducible (have f:=i.call k))|fail);(first|(with_reducible (have j:=T3.drew.call k))|(with_reducible (have j:=T3.call k))|fail);clear i T3 k;have i:=f;have T3:=j;clear f j;obtain ⟨u,B,z,A,L⟩:=id T3;have K:=T3.lt)|(go_at_call_of 55 (Value.agg #[Value.int .u64 p,Value.int .u64 q,Value.int .u64 r,Value.int .u64 s]);refine (four_any _ _ HY.out _).mono ?_;rintro e O ⟨v,rfl,k,rfl⟩;(first|(with_reducible (have f:=i.drew.call k))|(with_reducible (have f:=i.call k))|fail);(first|(with_reducible (have j:=T3.drew.call k))|(with_reducible (have j:=T3.call k))|fail);clear i T3 k;have i:=f;have T3:=j;clear f j;obtain ⟨u,B,z,A,L⟩:=id T3;have K:=T3.lt)|((first|go_at_call 98|go_at_call 178|go_at_call 100);refine (I _).mono ?_;rintro e O ⟨v,rfl,k,D⟩;obtain ⟨S,T,V,U,rfl,h6,h4,Y,h5,N⟩:=id D;clear N;have J:Hid (Four _ _):=D;clear D;(first|(with_reducible (have f:=i.drew.call k))|(with_reducible (have f:=i.call k))|fail);(first|(with_reducible (have j:=T3.drew.call k))|(with_reducible (have j:=T3.call k))|fail);clear i T3 k;have i:=f;have T3:=j;clear f j;obtain ⟨u,B,z,A,L⟩:=id T3;have K:=T3.lt)|(go_at_call 99;refine (number_any _ _ J.out _).mono ?_;rintro e O ⟨v,rfl,k,rfl⟩;(first|(with_reducible (have f:=i.drew.call k))|(with_reducible (have f:=i.call k))|fail);(first|(with_reducible (have j:=T3.drew.call k))|(with_reducible (have j:=T3.call k))|fail);clear i T3 k;have i:=f;have T3:=j;clear f j;obtain ⟨u,B,z,A,L⟩:=id T3;have K:=T3.lt))
  all_goals (try go_wp2)
  all_goals (have H:=T3.self4 S T V U)
  all_goals unfold set4 at H
  all_goals (refine bodyPost_ret (v:=(.agg #[.int .u64 S,.int .u64 T,.int .u64 V,.int .u64 U])) ?_ rfl ?_)
  all_goals first|(refine ⟨_,rfl,?_,J.out⟩;rw[W.out];exact below_set4 i.bl M.out _ _ _ _)|(simp[results,Tryz.results50,Tryz.results121,Tryz.results51,go_sem,H.c0,H.c1,H.c2,H.c3];done)|fail
theorem Plus_any (c k b P:Nat) (x y:Value) (m n:Nat) (hG:Gap c k b P) (hx:Four x m) (d:Four y n) (g:m<P) (f:n<P) (w:World) :
 Calls Tryz.prog 50 #[.agg #[.int .u64 c,.int .u64 k,.int .u64 b,.int .u64 0],x,y] w (Ret fun e w'=>Below w.heap.size w w'∧Four e ((m+n)%P)):=
 (three_any c k b x y m n _ hx d w).1 (fun w=>sum_any c k b P _ _ m n hG hx d g f w)
theorem Minus_any (c k b P:Nat) (x y:Value) (m n:Nat) (hG:Gap c k b P) (hx:Four x m) (d:Four y n) (g:m<P) (f:n<P) (w:World) :
 Calls Tryz.prog 121 #[.agg #[.int .u64 c,.int .u64 k,.int .u64 b,.int .u64 0],x,y] w (Ret fun e w'=>Below w.heap.size w w'∧Four e ((m+P-n)%P)):=
 (three_any c k b x y m n _ hx d w).2.1 (fun w=>difference_any c k b P _ _ m n hG hx d g f w)
theorem Times_any (c k b P:Nat) (x y:Value) (m n:Nat) (hG:Gap c k b P) (hx:Four x m) (d:Four y n) (w:World) :
 Calls Tryz.prog 51 #[.agg #[.int .u64 c,.int .u64 k,.int .u64 b,.int .u64 0],x,y] w (Ret fun e w'=>Below w.heap.size w w'∧Four e (m*n%P)):=
 (three_any c k b x y m n _ hx d w).2.2 (fun w=>product_any c k b P _ _ m n hG hx d w)
end
section
variable {P:Nat} [NeZero P] {N:Nat}
theorem bit_step (m i s:Nat):m/2^i%2^(s+1)=2*(m/2^(i+1)%2^s)+m/2^i%2:=by
 have e:m/2^(i+1)=m/2^i/2:=by rw[Nat.pow_succ,Nat.div_div_eq_div_mul]
 rw[e,Nat.pow_succ,Nat.mul_comm (2^s),Nat.mod_mul]
 omega
theorem low_bit (y z r:Nat) (d:r<64) (k:z=y%18446744073709551616):z/2^r%2=y/2^r%2:=by
 have e:(18446744073709551616:Nat)=2^r*(2*2^(63-r)):=by
  rw[← Nat.mul_assoc,← Nat.pow_succ,← Nat.pow_add,show r+1+(63-r)=64 by omega]
 have b:0<2^r:=Nat.pow_pos dC
 have f:y/2^r=2*(2^(63-r)*(y/18446744073709551616))+z/2^r:=by
  have c:y=2^r*(2*(2^(63-r)*(y/18446744073709551616)))+z:=by
   have:=Nat.div_add_mod y 18446744073709551616
   rw[k]
   rw[e] at this ⊢
   rw[Nat.mul_assoc,Nat.mul_assoc] at this
   exact this.symm
  conv=>lhs;rw[c]
  rw[Nat.mul_add_div b]
 omega
def wd (a b c d q:Nat):Nat:=if q=0 then a else if q=1 then b else if q=2 then c else d
theorem wd_lt {a b c d:Nat} (q:Nat) (e:a<18446744073709551616) (k:b<18446744073709551616) (f:c<18446744073709551616) (hd:d<18446744073709551616):wd a b c d q<18446744073709551616:=by
 unfold wd;split;exact e;split;exact k;split;exact f;exact hd
theorem wd_eq {a b c d:Nat} (q:Nat) (g:q<4) (e:a<18446744073709551616) (k:b<18446744073709551616) (f:c<18446744073709551616) (hd:d<18446744073709551616) :
 wd a b c d q=val a b c d/2^(64*q)%18446744073709551616:=by
 have h:q=0∨q=1∨q=2∨q=3:=oM
 rcases h with rfl|rfl|rfl|rfl
 ·show a=val a b c d/1%_;unfold val;omega
 ·show b=val a b c d/18446744073709551616%_;unfold val;omega
 ·show c=val a b c d/340282366920938463463374607431768211456%_;unfold val;omega
 ·show d=val a b c d/6277101735386680763835789423207666416102355444464034512896%_;unfold val;omega
theorem wd_bit {a b c d:Nat} (i:Nat) (g:i<256) (e:a<18446744073709551616) (k:b<18446744073709551616) (f:c<18446744073709551616) (hd:d<18446744073709551616) :
 wd a b c d (i/64)/2^(i%64)%2=val a b c d/2^i%2:=by
 rw[low_bit _ _ (i%64) oM (wd_eq (i/64) oM e k f hd),Nat.div_div_eq_div_mul,← Nat.pow_add,show 64*(i/64)+i%64=i by omega]
theorem pow_two_mod (a P k:Nat):a^k%P*(a^k%P)%P=a^(2*k)%P:=by
 rw[← Nat.mul_mod,← Nat.pow_add,Nat.two_mul]
theorem pow_add_mod (a P k l:Nat):a^k%P*(a^l%P)%P=a^(k+l)%P:=by
 rw[← Nat.mul_mod,← Nat.pow_add]
theorem pow_step_mod (a P k:Nat):a^k%P*a%P=a^(k+1)%P:=by
 rw[Nat.pow_succ,Nat.mul_mod,Nat.mod_mod,← Nat.mul_mod]
theorem div_win (e i:Nat):e/2^i=16*(e/2^(i+4))+e/2^i%2^4:=by
 rw[Nat.pow_add,← Nat.div_div_eq_div_mul]
 have:=Nat.div_add_mod (e/2^i) (2^4)
 omega
theorem quarter_eq (a b c d:Nat) :
 val (a/4+b*4611686018427387904%18446744073709551616) (b/4+c*4611686018427387904%18446744073709551616) (c/4+d*4611686018427387904%18446744073709551616) (d/4)=val a b c d/4:=by
 unfold val
 omega
end
section
open Go.RowKit Go.Sort
variable {P:Nat} [NeZero P] {N:Nat}
theorem At4.wd {w:World} {k a b c d:Nat} (h:At4 w k a b c d) (q:Nat) (f:q<4):w.cell? ⟨k,q,none⟩=some (.int .u64 (wd a b c d q:Int)):=by
 have e:q=0∨q=1∨q=2∨q=3:=oM
 rcases e with rfl|rfl|rfl|rfl
 ·exact h.c0
 ·exact h.c1
 ·exact h.c2
 ·exact h.c3
theorem wrap_i (n:Nat) (h:n<9223372036854775808):IntKind.i64.wrap (n:Int)=(n:Int):=by rw[IntKind.wrap_i64];omega
theorem or_bit (b t:Nat) (k:b<4294967296) (e:t<2):bits .or .i64 ((2*b:Nat):Int) (t:Int)=((2*b+t:Nat):Int):=by
 rw[(bits_nat .i64 40 dC (fun n c d=>by rw[IntKind.wrap_i64];omega) (2*b) t oM oM).2]
 have:=Nat.two_pow_add_eq_or_of_lt (i:=1) (b:=t) oM b
 rw[show 2^1*b=2*b from rfl] at this
 rw[← this]
theorem and_one (v:Nat) (hv:v<18446744073709551616):bits .and .u64 (v:Int) 1=((v%2:Nat):Int):=by
 have:=bits_and_u64_nat v 1 hv oM
 rw[show v &&& 1=v%2 from Nat.and_one_is_mod v] at this
 exact this
theorem bits_start {m f c g:Nat} (k:m<top) (h:g=c∨f+g=256):m/2^(f+g)%2^(c-g)=0:=by
 rcases h with rfl|h
 ·rw[Nat.sub_self,Nat.pow_zero,Nat.mod_one]
 ·rw[h,Nat.div_eq_of_lt (by exact k),Nat.zero_mod]
theorem bits_next {m f g c:Nat} (b:0<g) (k:g≤c):m/2^(f+(g-1))%2^(c-(g-1))=2*(m/2^(f+g)%2^(c-g))+m/2^(f+(g-1))%2:=by
 rw[show c-(g-1)=c-g+1 by omega,bit_step,show f+(g-1)+1=f+g by omega]
theorem Bits_any (x:Value) (m f c:Nat) (hx:Four x m) (hf:f≤256) (Z:c≤32) (w:World) :
 Calls Tryz.prog 198 #[x,.int .i64 f,.int .i64 c] w (Ret fun e w'=>Below w.heap.size w w'∧e=.int .i64 ((m/2^f%2^c:Nat):Int)):=by
 obtain ⟨n,p,l,o,rfl,J,G,M,H,T⟩:=id hx
 have U:=mk1 (hx)
 have HL:=mk5 J G M H T
 have O:=mk1 (U.lt)
 obtain ⟨R,hR⟩:∃ R,m/2^f%2^c=R:=⟨_,rfl⟩
 have P:=mk1 (hR)
 rw[hR]
 by_cases V:(f:Int)+(c:Int)≤256
 ·have Q:¬ (256:Int)<(f:Int)+(c:Int):=oM
  go_enter Tryz.func198,Tryz.ntmps198
  go_wp2
  have X:=At4.made w 42 n p l o rfl
  have BL:=mk1 (below1 w (.cells #[.int .u64 n,.int .u64 p,.int .u64 l,.int .u64 o] 42))
  generalize World.alloc _ _=L at X BL ⊢
  go_loopg [7,8] (c) (fun gk s7 s8 wr=>gk≤c∧f+gk≤256∧s7=.int .i64 ((m/2^(f+gk)%2^(c-gk):Nat):Int)∧s8=.int .i64 ((f:Int)+(gk:Int)-1)∧L=wr)
  case atStart=>exact ⟨oM,oM,by rw[bits_start O.out (Or.inl rfl)];rfl,by congr 1<;>omega,rfl⟩
  case round =>
   obtain ⟨u,F,rfl,rfl,rfl⟩:=hrel
   by_cases I:gk=0
   ·subst I
    have K:¬ (f:Int)≤(f:Int)+((0:Nat):Int)-1:=oM
    rw[Nat.add_zero,Nat.sub_zero,P.out]
    go_wp2
    go_ret
    exact ⟨_,rfl,BL.out,rfl⟩
   ·obtain ⟨i,z⟩:∃ i,f+(gk-1)=i:=⟨_,rfl⟩
    have E:(f:Int)+(gk:Int)-1=(i:Int):=oM
    have K:(f:Int)≤(i:Int):=oM
    have y:i<256:=oM
    have C:=X.wd (i/64) oM
    have b:wd n p l o (i/64)<18446744073709551616:=wd_lt _ HL.1 HL.2.1 HL.2.2.1 HL.2.2.2.1
    have k:wd n p l o (i/64)/2^(i%64)%2=m/2^i%2:=by rw[HL.2.2.2.2];exact wd_bit i y HL.1 HL.2.1 HL.2.2.1 HL.2.2.2.1
    have W:(i:Int).tdiv 64=((i/64:Nat):Int):=by rw[Int.tdiv_eq_ediv_of_nonneg oM];omega
    have Y:(i:Int).tmod 64=((i%64:Nat):Int):=by rw[Int.tmod_eq_emod_of_nonneg oM];omega
    have i4:(i/64:Nat)<4:=oM
    generalize wd n p l o (i/64)=v at C b k
    have r:v/2^(i%64)<18446744073709551616:=Nat.lt_of_le_of_lt (Nat.div_le_self _ _) b
    have j:bits .and .u64 ((v:Int)/2^(i%64)) 1=((m/2^i%2:Nat):Int):=by
     have:=and_one (v/2^(i%64)) r
     rw[k] at this
     rw[← this,Int.natCast_ediv,Int.natCast_pow]
     rfl
    obtain ⟨t,A⟩:∃ t,m/2^i%2=t:=⟨_,rfl⟩
    have q:t<2:=oM
    have s:=bits_next (m:=m) (f:=f) (g:=gk) (c:=c) oM u
    rw[z,A] at s
    have d:m/2^(f+gk)%2^(c-gk)<4294967296:=Nat.lt_of_lt_of_le (Nat.mod_lt _ (Nat.pow_pos dC)) (show 2^(c-gk)≤2^32 from Nat.pow_le_pow_right dC oM)
    rw[A] at j
    generalize m/2^(f+gk)%2^(c-gk)=B at s d ⊢
    have hor:=or_bit B t d q
    have D:IntKind.i64.wrap ((B:Int)*2)=((2*B:Nat):Int):=by rw[show (B:Int)*2=((2*B:Nat):Int) by omega];exact wrap_i _ oM
    have S:IntKind.i64.wrap (t:Int)=(t:Int):=wrap_i _ oM
    have N:=mk1 (s)
    have a:=mk1 (z)
    have zx:=X.lt
    rw[E]
    go_wp2
    go_roundg (gk-1)
    case measure=>omega
    case rel =>
     refine ⟨oM,oM,?_,?_,rfl⟩
     ·rw[a.out,N.out,← hor,Int.natCast_mul];rfl
     ·congr 1;have:=a.out;omega
 ·have Q:(256:Int)<(f:Int)+(c:Int):=oM
  go_enter Tryz.func198,Tryz.ntmps198
  go_wp2
  have X:=At4.made w 42 n p l o rfl
  have BL:=mk1 (below1 w (.cells #[.int .u64 n,.int .u64 p,.int .u64 l,.int .u64 o] 42))
  generalize World.alloc _ _=L at X BL ⊢
  go_loopg [7,8] (256-f) (fun gk s7 s8 wr=>gk≤c∧f+gk≤256∧s7=.int .i64 ((m/2^(f+gk)%2^(c-gk):Nat):Int)∧s8=.int .i64 ((f:Int)+(gk:Int)-1)∧L=wr)
  case atStart=>exact ⟨oM,oM,by rw[bits_start O.out (Or.inr oM)];rfl,by congr 1<;>omega,rfl⟩
  case round =>
   obtain ⟨u,F,rfl,rfl,rfl⟩:=hrel
   by_cases I:gk=0
   ·subst I
    have K:¬ (f:Int)≤(f:Int)+((0:Nat):Int)-1:=oM
    rw[Nat.add_zero,Nat.sub_zero,P.out]
    go_wp2
    go_ret
    exact ⟨_,rfl,BL.out,rfl⟩
   ·obtain ⟨i,z⟩:∃ i,f+(gk-1)=i:=⟨_,rfl⟩
    have E:(f:Int)+(gk:Int)-1=(i:Int):=oM
    have K:(f:Int)≤(i:Int):=oM
    have y:i<256:=oM
    have C:=X.wd (i/64) oM
    have b:wd n p l o (i/64)<18446744073709551616:=wd_lt _ HL.1 HL.2.1 HL.2.2.1 HL.2.2.2.1
    have k:wd n p l o (i/64)/2^(i%64)%2=m/2^i%2:=by rw[HL.2.2.2.2];exact wd_bit i y HL.1 HL.2.1 HL.2.2.1 HL.2.2.2.1
    generalize wd n p l o (i/64)=v at C b k
    have r:v/2^(i%64)<18446744073709551616:=Nat.lt_of_le_of_lt (Nat.div_le_self _ _) b
    have j:bits .and .u64 ((v:Int)/2^(i%64)) 1=((m/2^i%2:Nat):Int):=by
     have:=and_one (v/2^(i%64)) r
     rw[k] at this
     rw[← this,Int.natCast_ediv,Int.natCast_pow]
     rfl
    obtain ⟨t,A⟩:∃ t,m/2^i%2=t:=⟨_,rfl⟩
    have q:t<2:=oM
    have s:=bits_next (m:=m) (f:=f) (g:=gk) (c:=c) oM u
    rw[z,A] at s
    have d:m/2^(f+gk)%2^(c-gk)<4294967296:=Nat.lt_of_lt_of_le (Nat.mod_lt _ (Nat.pow_pos dC)) (show 2^(c-gk)≤2^32 from Nat.pow_le_pow_right dC oM)
    rw[A] at j
    generalize m/2^(f+gk)%2^(c-gk)=B at s d ⊢
    have hor:=or_bit B t d q
    have D:IntKind.i64.wrap ((B:Int)*2)=((2*B:Nat):Int):=by rw[show (B:Int)*2=((2*B:Nat):Int) by omega];exact wrap_i _ oM
    have N:=mk1 (s)
    have a:=mk1 (z)
    have zx:=X.lt
    rw[E]
    go_wp2
    go_roundg (gk-1)
    case measure=>omega
    case rel =>
     refine ⟨oM,oM,?_,?_,rfl⟩
     ·rw[a.out,N.out,← hor,Int.natCast_mul];rfl
     ·congr 1;have:=a.out;omega
end
section
open Go
section
variable {P:Program} {ops:Array Oper} {Q:Exit→Act→World→Prop} {S:World→Prop} {p:Nat}
def anyTill (P:Program) (k:Array Oper) (Q:Exit→Act→World→Prop) (S:World→Prop) (p:Nat):Nat→Array Bool→Act→World→Prop
 | 0,listed,a,w=>Region.ready .any k listed=[]∧Q .normal a w
 | fuel+1,listed,a,w=>(Region.ready .any k listed=[]→Q .normal a w) ∧
  ∀ i∈Region.ready .any k listed,wpOp P k Q i (fun b w'=>((listed.setIfInBounds i true).getD p false=false→S w')∧anyTill P k Q S p fuel (listed.setIfInBounds i true) b w') a w
theorem anyTill.any:∀ (b:Nat) (k:Array Bool) (a:Act) (w:World),anyTill P ops Q S p b k a w→wpAny P .any ops Q b k a w
 | 0,_,_,_,h=>h
 | b+1,_,_,_,h=>⟨h.1,fun i e=>wpOp_mono (fun c w' d=>anyTill.any b _ c w' d.2) (h.2 i e)⟩
theorem anyTill.first {i:Nat} {t op:Oper} {v:Value} (O:ops[i]? = some t) (W:ops[p]? = some op) (I:∃ e∈op.after,Region.binds .any e=true∧e.on=i) (N:p≠i)
 (q:∀ (j:Nat) (o:Oper) cs b,ops[j]? = some o→o.op≠.select cs b) (U:∀ c a w,Q (.panic c) (a.put t.dst v) w→Q (.panic c) a w) :
 ∀ (g:Nat) (d:Array Bool) (a:Act) (w:World),d.getD p false=false →
  (∀ j s,ops[j]? = some s→j≠i→d.getD j true=false→(∀ e∈s.after,Region.binds .any e=true→e.on≠i)→t.apart ops s=true) →
  i∈Region.ready .any ops d→YieldsIf P ops S t v a→S w →
  anyTill P ops Q S p g (d.setIfInBounds i true) (a.put t.dst v) w→anyTill P ops Q S p (g+1) d a w:=by
 intro g
 induction g with
 | zero =>
  intro d a w _ _ z D u H
  refine ⟨fun h=>absurd z (by rw[h];exact List.not_mem_nil),fun j E=>?_⟩
  by_cases f:j=i
  ·subst f;exact D.wpOp O u ⟨fun _=>u,H⟩
  ·exact absurd (ready_mono E f) (by rw[H.1];exact List.not_mem_nil)
 | succ g ih =>
  intro d a w T m z D u H
  refine ⟨fun h=>absurd z (by rw[h];exact List.not_mem_nil),fun j E=>?_⟩
  by_cases f:j=i
  ·subst f;exact D.wpOp O u ⟨fun _=>u,H⟩
  ·obtain ⟨n,s,l,x⟩:=mem_ready.1 E
   have r:∀ e∈s.after,Region.binds .any e=true→e.on≠i:=fun e J M G=>by
    have y:=x e J M
    have B:=(mem_ready.1 z).1
    rw[G] at y
    rcases Nat.lt_or_ge i d.size with A|A
    ·simp[A] at B y;rw[B] at y;cases y
    ·simp[Array.getElem?_eq_none A] at y
   have y:j≠p:=by
    intro h
    subst h
    rw[W] at l
    obtain ⟨e,J,M,A⟩:=I
    injection l with l
    subst l
    exact r e J M A
   have V:=wpOp_putIf l (m j s l f n r) (fun cs b=>q i t cs b O) (fun cs b=>q j s cs b l) U D (H.2 j (ready_mono E f))
   have R:(d.setIfInBounds j true).getD p false=false:=by rw[getD_set_ne false y];exact T
   refine wpOp_mono (fun Y w' L=>?_) V
   have C:=L.2.1 (by rw[getD_set_ne false y,getD_set_ne false (Ne.symm N)];exact T)
   refine ⟨fun _=>C,ih (d.setIfInBounds j true) Y w' R (fun k ok X K A F=>?_) (ready_mono z (Ne.symm f)) L.1 C ?_⟩
   ·refine m k ok X K ?_ F
    by_cases B:j=k
    ·subst B;exact n
    ·rw[getD_set_ne true B] at A;exact A
   ·rw[Array.setIfInBounds_comm _ _ f]
    exact L.2.2
def waits (k:Array Oper) (p i:Nat):Bool:=match k[p]? with
 | some o=>o.after.any (fun e=>Region.binds .any e && e.on == i)
 | none=>false
theorem anyTill.take {i:Nat} {f:Oper} {v:Value} {b:Nat} {k:Array Bool} {a:Act} {w:World} (l:ops[i]? = some f) (d:waits ops p i=true) (s:Region.noSelect ops=true)
 (g:(k.getD p false || p == i)=false) (hf:Region.free .any ops k i=true) (q:(Region.ready .any ops k).contains i=true)
 (m:∀ c a w,Q (.panic c) (a.put f.dst v) w→Q (.panic c) a w) (r:YieldsIf P ops S f v a) (o:S w)
 (h:anyTill P ops Q S p b (k.setIfInBounds i true) (a.put f.dst v) w):anyTill P ops Q S p (b+1) k a w:=by
 rw[Bool.or_eq_false_iff] at g
 unfold waits at d
 cases ho:ops[p]? with
 | none=>rw[ho] at d;cases d
 | some op =>
  rw[ho] at d
  obtain ⟨e,n,j⟩:=Array.any_eq_true'.1 d
  simp only[Bool.and_eq_true,beq_iff_eq] at j
  exact anyTill.first l ho ⟨e,n,j.1,j.2⟩ (by simpa using g.2) (Region.noSelect_spec s) m b k a w g.1 (Region.free_spec l hf) (by simpa using q) r o h
theorem anyTill.tk {i:Nat} {d:Oper} {v:Value} {b:Nat} {k:Array Bool} {a:Act} {w:World} (m:ops[i]? = some d) (n:YieldsIf P ops S d v a) (j:S w)
 (h:anyTill P ops Q S p b (k.setIfInBounds i true) (a.put d.dst v) w) (f:waits ops p i=true:=by kernel_rfl) (o:Region.noSelect ops=true:=by kernel_rfl)
 (g:(k.getD p false || p == i)=false:=by kernel_rfl) (hf:Region.free .any ops k i=true:=by kernel_rfl) (l:(Region.ready .any ops k).contains i=true:=by kernel_rfl)
 (e:∀ c a w,Q (.panic c) (a.put d.dst v) w→Q (.panic c) a w:=by exact fun _ _ _ h=>h):anyTill P ops Q S p (b+1) k a w:=anyTill.take m f o g hf l e n j h
theorem anyTill.step {i:Nat} {o:Oper} {b:Nat} {k:Array Bool} {a:Act} {w:World} (ho:ops[i]? = some o) (d:Region.ready .any ops k=[i])
 (h:∀ c:Act→World→Prop,Shut (∀ a w,((k.setIfInBounds i true).getD p false=false→S w)→anyTill P ops Q S p b (k.setIfInBounds i true) a w→c a w) →
  if Region.wanted o (yielded ops a.tmps)=true then Oper.wp P o a w c Q else c (a.put o.dst undef) w):anyTill P ops Q S p (b+1) k a w:=by
 refine ⟨fun e=>(by rw[d] at e;cases e),fun j f=>?_⟩
 rw[d,List.mem_singleton] at f
 subst f
 exact wpOp_step ho (fun c g=>h c (fun a w l m=>g a w ⟨l,m⟩))
theorem anyTill.done {k:Array Bool} {a:Act} {w:World} (c:Region.ready .any ops k=[]) (h:Q .normal a w):∀ b,anyTill P ops Q S p b k a w
 | 0=>⟨c,h⟩
 | _+1=>⟨fun _=>h,by rw[c];intro i d;cases d⟩
theorem anyTill.begin {id:Nat} {a:Act} {w:World} (S:World→Prop) (p:Nat) (k:P.follows .mixedOrders=true) (b:S w.drew)
 (h:S w.drew→anyTill P ops Q S p ops.size (Array.replicate ops.size false) a w.drew):(Code.region id ops true).wp P Q a w:=
 wp_region_any k ((h b).any)
end
end
section
open Go.RowKit Go.Sort
variable {P:Nat} [NeZero P] {N:Nat}
def pw0:Array Value:=#[.int .u64 1]++Array.replicate 63 (.int .u64 0)
def pwz:Array Value:=Array.replicate 64 (.int .u64 0)
theorem zeroT:∀ w:World,(zeroValue 287).run Tryz.prog w=.ok (.agg pwz) w:=fun _=>kR
theorem sizeT:(Tryz.prog.info? 287).map (·.size)=some pw0.size:=kR
theorem oneT:pw0.all (·.oneCell')=true:=kR
def Tab (W:World) (k m P i:Nat):Prop:=∀ j,j<16→∃ a b c d:Nat,(Blk.mk k (j*4) a b c d).at W∧(j<i→Four (.agg #[.int .u64 a,.int .u64 b,.int .u64 c,.int .u64 d]) (m^j%P))
theorem Tab.call {W e:World} {k m P i:Nat} (h:Tab W k m P i) (f:Below W.heap.size W e):Tab e k m P i:=fun j l=>by
 obtain ⟨a,b,c,d,n,g⟩:=h j l
 exact ⟨a,b,c,d,n.call f,g⟩
theorem Tab.drew {W:World} {k m P i:Nat} (h:Tab W k m P i):Tab W.drew k m P i:=fun j g=>by
 obtain ⟨a,b,c,d,e,f⟩:=h j g
 exact ⟨a,b,c,d,⟨e.c0,e.c1,e.c2,e.c3,e.f⟩,f⟩
theorem Tab.other {W:World} {k m P i g o:Nat} (h:Tab W k m P i) (f:g≠k) (v:Value):Tab (W.setCell ⟨g,o,none⟩ v) k m P i:=fun j l=>by
 obtain ⟨a,b,c,d,n,e⟩:=h j l
 exact ⟨a,b,c,d,n.other f v,e⟩
theorem Blk.at.off {W : World} {x : Blk} {i : Nat} (h : x.at W) (hi : i < x.o ∨ x.o + 3 < i) (v : Value) : x.at (W.setCell ⟨x.k, i, none⟩ v) :=
  ⟨by rw [World.cell?_setCell_other _ _ _ _ (ne_addr (Or.inr oM))]; exact h.c0, by rw [World.cell?_setCell_other _ _ _ _ (ne_addr (Or.inr oM))]; exact h.c1,
   by rw [World.cell?_setCell_other _ _ _ _ (ne_addr (Or.inr oM))]; exact h.c2, by rw [World.cell?_setCell_other _ _ _ _ (ne_addr (Or.inr oM))]; exact h.c3, fun o => by rw [World.frozen?_setCell]; exact h.f o⟩
theorem Blk.at.put {W:World} {k o a b c d:Nat} (h:(Blk.mk k o a b c d).at W) (x y z t:Nat) :
 (Blk.mk k o x y z t).at ((((W.setCell ⟨k,o,none⟩ (.int .u64 x)).setCell ⟨k,o+1,none⟩ (.int .u64 y)).setCell ⟨k,o+2,none⟩ (.int .u64 z)).setCell ⟨k,o+3,none⟩ (.int .u64 t)):=by
 have s0:=World.cell?_setCell_same W ⟨k,o,none⟩ (.int .u64 x) h.c0
 have e:∀ (W:World) (i j:Nat) (v:Value),i≠j→(W.setCell ⟨k,i,none⟩ v).cell? ⟨k,j,none⟩=W.cell? ⟨k,j,none⟩:=fun W i j v f=>World.cell?_setCell_other _ _ _ _ (ne_addr (Or.inr f))
 refine ⟨?_,?_,?_,?_,fun i=>?_⟩
 ·show World.cell? _ ⟨k,o,none⟩=_
  rw[e _ _ _ _ oM,e _ _ _ _ oM,e _ _ _ _ oM];exact s0
 ·show World.cell? _ ⟨k,o+1,none⟩=_
  rw[e _ _ _ _ oM,e _ _ _ _ oM]
  exact World.cell?_setCell_same _ _ _ (by rw[e _ _ _ _ oM];exact h.c1)
 ·show World.cell? _ ⟨k,o+2,none⟩=_
  rw[e _ _ _ _ oM]
  exact World.cell?_setCell_same _ _ _ (by rw[e _ _ _ _ oM,e _ _ _ _ oM];exact h.c2)
 ·show World.cell? _ ⟨k,o+3,none⟩=_
  exact World.cell?_setCell_same _ _ _ (by rw[e _ _ _ _ oM,e _ _ _ _ oM,e _ _ _ _ oM];exact h.c3)
 ·rw[World.frozen?_setCell,World.frozen?_setCell,World.frozen?_setCell,World.frozen?_setCell];exact h.f i
theorem Tab.put {W:World} {k m P i x y z t:Nat} (h:Tab W k m P i) (p:i<16) (l:Four (.agg #[.int .u64 x,.int .u64 y,.int .u64 z,.int .u64 t]) (m^i%P)) :
 Tab ((((W.setCell ⟨k,i*4,none⟩ (.int .u64 x)).setCell ⟨k,i*4+1,none⟩ (.int .u64 y)).setCell ⟨k,i*4+2,none⟩ (.int .u64 z)).setCell ⟨k,i*4+3,none⟩ (.int .u64 t)) k m P (i+1):=fun j n=>by
 obtain ⟨a,b,c,d,f,g⟩:=h j n
 by_cases e:j=i
 ·subst e
  exact ⟨x,y,z,t,f.put x y z t,fun _=>l⟩
 ·refine ⟨a,b,c,d,?_,fun o=>g oM⟩
  exact (((f.off (by simp only;omega) _).off (by simp only;omega) _).off (by simp only;omega) _).off (by simp only;omega) _
theorem newest (w:World) (o:Obj):(w.alloc o).heap[w.heap.size]? = some o:=by
 show (w.heap.push o)[w.heap.size]? = some o
 simp
theorem pw0_at (j:Nat):pw0[j]? = if j=0 then some (.int .u64 1) else if j<64 then some (.int .u64 0) else none:=by
 match j with
 | 0=>rfl
 | j+1 =>
  rw[if_neg oM]
  unfold pw0
  rw[Array.getElem?_append_right (by simp)]
  by_cases h:j+1<64
  ·rw[if_pos h];simp[Array.getElem?_replicate];omega
  ·rw[if_neg h];simp[Array.getElem?_replicate];omega
theorem Tab.new (w:World) (m P:Nat) (d:1<P):Tab ((w.alloc (.cells pwz 287)).setRow w.heap.size pw0) w.heap.size m P 1:=fun j e=>by
 have b:(w.alloc (.cells pwz 287)).heap[w.heap.size]? = some (.cells pwz 287 (0,0)):=newest w _
 have k:=fun i=>cell_setRow_same (w.alloc (.cells pwz 287)) w.heap.size i pwz pw0 287 (0,0) b
 have hf:∀ o,((w.alloc (.cells pwz 287)).setRow w.heap.size pw0).frozen? ⟨w.heap.size,o,none⟩=false:=fun o=>by
  have c:=setRow_heap _ _ _ pw0 _ _ b
  unfold World.frozen?
  dsimp only
  rw[c]
  simp
 by_cases c:j=0
 ·subst c
  refine ⟨1,0,0,0,⟨?_,?_,?_,?_,hf⟩,fun _=>?_⟩
  ·rw[k,pw0_at];rfl
  ·rw[k,pw0_at];rfl
  ·rw[k,pw0_at];rfl
  ·rw[k,pw0_at];rfl
  ·rw[Nat.pow_zero,Nat.mod_eq_of_lt d]
   exact Four.mk dC dC dC dC rfl
 ·refine ⟨0,0,0,0,⟨?_,?_,?_,?_,hf⟩,fun h=>oM⟩
  ·rw[k,pw0_at,if_neg (by simp only;omega),if_pos (by simp only;omega)];rfl
  ·rw[k,pw0_at,if_neg (by simp only;omega),if_pos (by simp only;omega)];rfl
  ·rw[k,pw0_at,if_neg (by simp only;omega),if_pos (by simp only;omega)];rfl
  ·rw[k,pw0_at,if_neg (by simp only;omega),if_pos (by simp only;omega)];rfl
theorem below_setRow {B:Nat} {w W:World} (h:Below B w W) {g:Nat} (c:B≤g) (cs:Array Value):Below B w (W.setRow g cs):=
 ⟨h.os,h.tape,h.output,by rw[setRow_size];exact h.size,fun k b=>by rw[setRow_other W g k cs oM];exact h.block k b⟩
theorem below_tab (W:World):Below W.heap.size W ((W.alloc (.cells pwz 287)).setRow W.heap.size pw0):=below_setRow (below1 W _) (Nat.le_refl _) _
theorem powS_of {w W:World} {k e u v f j a b c d p q r s t i m o n g l:Nat} (h:Kept w k [⟨k,0,n,g,l,0⟩,⟨f,j*4,t,i,m,o⟩,⟨e,0,a,b,c,d⟩,⟨u,0,p,q,r,s⟩,⟨v,0,0,0,0,0⟩] W):W.cell? ⟨k,0,none⟩=some (.int .u64 n)∧W.cell? ⟨k,1,none⟩=some (.int .u64 g)∧W.cell? ⟨k,2,none⟩=some (.int .u64 l)∧W.cell? ⟨k,3,none⟩=some (.int .u64 0)∧W.cell? ⟨f,j*4,none⟩=some (.int .u64 t)∧W.cell? ⟨f,j*4+1,none⟩=some (.int .u64 i)∧W.cell? ⟨f,j*4+2,none⟩=some (.int .u64 m)∧W.cell? ⟨f,j*4+3,none⟩=some (.int .u64 o)∧W.cell? ⟨e,0,none⟩=some (.int .u64 a)∧W.cell? ⟨e,1,none⟩=some (.int .u64 b)∧W.cell? ⟨e,2,none⟩=some (.int .u64 c)∧W.cell? ⟨e,3,none⟩=some (.int .u64 d)∧Kept w k [⟨k,0,n,g,l,0⟩,⟨f,j*4,t,i,m,o⟩,⟨e,0,a,b,c,d⟩,⟨u,0,p,q,r,s⟩,⟨v,0,0,0,0,0⟩] W:=
 ⟨h.head.c0,h.head.c1,h.head.c2,h.head.c3,h.tail.head.c0,h.tail.head.c1,h.tail.head.c2,h.tail.head.c3,h.tail.tail.head.c0,h.tail.tail.head.c1,h.tail.tail.head.c2,h.tail.tail.head.c3,h⟩
theorem powT_of {w W:World} {k u e x v f m P a b c d p q r s o n l nd j g i:Nat} (h:Kept w k (⟨f,0,o,n,l,nd⟩ :: [⟨k,0,j,g,i,0⟩,⟨u,0,a,b,c,d⟩,⟨e,0,p,q,r,s⟩,⟨x,0,0,0,0,0⟩]) W) (t:Tab W v m P 16):W.cell? ⟨k,0,none⟩=some (.int .u64 j)∧W.cell? ⟨k,1,none⟩=some (.int .u64 g)∧W.cell? ⟨k,2,none⟩=some (.int .u64 i)∧W.cell? ⟨k,3,none⟩=some (.int .u64 0)∧W.cell? ⟨f,0,none⟩=some (.int .u64 o)∧W.cell? ⟨f,1,none⟩=some (.int .u64 n)∧W.cell? ⟨f,2,none⟩=some (.int .u64 l)∧W.cell? ⟨f,3,none⟩=some (.int .u64 nd)∧W.cell? ⟨e,0,none⟩=some (.int .u64 p)∧W.cell? ⟨e,1,none⟩=some (.int .u64 q)∧W.cell? ⟨e,2,none⟩=some (.int .u64 r)∧W.cell? ⟨e,3,none⟩=some (.int .u64 s)∧Kept w k (⟨f,0,o,n,l,nd⟩ :: [⟨k,0,j,g,i,0⟩,⟨u,0,a,b,c,d⟩,⟨e,0,p,q,r,s⟩,⟨x,0,0,0,0,0⟩]) W∧Tab W v m P 16:=
 ⟨h.tail.head.c0,h.tail.head.c1,h.tail.head.c2,h.tail.head.c3,h.head.c0,h.head.c1,h.head.c2,h.head.c3,h.tail.tail.tail.head.c0,h.tail.tail.tail.head.c1,h.tail.tail.tail.head.c2,h.tail.tail.tail.head.c3,h,t⟩
theorem pow_put {w W:World} {e g f l k j i a b c d p q r s y n t x u m o:Nat} (h:Kept w e [⟨e,0,u,m,o,0⟩,⟨k,j*4,y,n,t,x⟩,⟨g,0,a,b,c,d⟩,⟨f,0,p,q,r,s⟩,⟨l,0,0,0,0,0⟩] W) (B:e≤k) (C:k≠e) (E:k≠g) (z:k≠f) (D:k≠l) (F:i<j*4∨j*4+3<i) (v:Value):Kept w e [⟨e,0,u,m,o,0⟩,⟨k,j*4,y,n,t,x⟩,⟨g,0,a,b,c,d⟩,⟨f,0,p,q,r,s⟩,⟨l,0,0,0,0,0⟩] (W.setCell ⟨k,i,none⟩ v):=by
 refine ((((((Kept.mk1 (h.bl.setCell (p:=⟨k,i,none⟩) B v) (by simpa using h.le)).cons ?_).cons ?_).cons ?_).cons ?_).cons ?_)
 ·exact h.tail.tail.tail.tail.head.other D v
 ·exact h.tail.tail.tail.head.other z v
 ·exact h.tail.tail.head.other E v
 ·exact h.tail.head.off F v
 ·exact h.head.other C v
theorem pow_puts {w W:World} {e u o v k j i a b c d p q r s G B D F E A C:Nat} (h:Kept w e [⟨e,0,E,A,C,0⟩,⟨k,j*4,G,B,D,F⟩,⟨u,0,a,b,c,d⟩,⟨o,0,p,q,r,s⟩,⟨v,0,0,0,0,0⟩] W) (g:e≤k) (l:k≠e) (n:k≠u) (f:k≠o) (m:k≠v)
 (H:i*4<j*4∨j*4+3<i*4) (I:i*4+1<j*4∨j*4+3<i*4+1) (J:i*4+2<j*4∨j*4+3<i*4+2) (K:i*4+3<j*4∨j*4+3<i*4+3) (x y z t:Value) :
 Kept w e [⟨e,0,E,A,C,0⟩,⟨k,j*4,G,B,D,F⟩,⟨u,0,a,b,c,d⟩,⟨o,0,p,q,r,s⟩,⟨v,0,0,0,0,0⟩] ((((W.setCell ⟨k,i*4,none⟩ x).setCell ⟨k,i*4+1,none⟩ y).setCell ⟨k,i*4+2,none⟩ z).setCell ⟨k,i*4+3,none⟩ t):=
 pow_put (pow_put (pow_put (pow_put h g l n f m H x) g l n f m I y) g l n f m J z) g l n f m K t
theorem power_any (g0 g1 g2 P : Nat) (x y : Value) (m n : Nat) (hG : Gap g0 g1 g2 P) (hx : Four x m) (hy : Four y n) (w : World) :
    Calls Tryz.prog 200 #[.agg #[.int .u64 (g0 : Int), .int .u64 (g1 : Int), .int .u64 (g2 : Int), .int .u64 0], x, y] w (Ret fun e w' => Below w.heap.size w w' ∧ Four e (m ^ n % P)) := by
  obtain ⟨a, b, c, d, rfl, ha, hb, hc, hd, em⟩ := id hx
  obtain ⟨p, q, r, s, rfl, hp, hq, hr, hs, en⟩ := id hy
  have HX : Hid (Four _ m) := hx
  have HY : Hid (Four _ n) := hy
  have HG : Hid (Gap g0 g1 g2 P) := hG
  clear em en hx hy ha hb hc hd hp hq hr hs hG
  go_enter Tryz.func200, Tryz.ntmps200
  go_upto_region 1 with fail
  have KP := kept4 w 78 42 42 42 g0 g1 g2 0 a b c d p q r s 0 0 0 0
  simp only [Int.natCast_zero] at KP
  generalize World.alloc _ _ = W0 at KP ⊢
  have zv := zeroT
  have hpz : ¬ pwz.size < 4 := dC
  have hgr : (W0.alloc (.cells pwz 287)).heap[W0.heap.size]? = some (.cells pwz 287 (0, 0)) := newest W0 _
  go_wp2_with (first | refine wpList_store_row rfl 287 _ _ rfl W0.heap.size pw0 rfl rfl 287 pwz hgr sizeT rfl oneT ?_)
  have TB := Tab.new W0 m P (by have := HG.hP2; have : 3 < top := dC
                                omega)
  have hlt := KP.lts
  have Q4 : Hid (w.heap.size ≤ W0.heap.size) := KP.le
  replace KP := KP.call (below_tab W0)
  clear zv hgr hpz
  generalize World.setRow _ _ _ = W1 at KP TB ⊢
  generalize W0.heap.size = k4 at TB hlt Q4 ⊢
  generalize h3 : w.heap.size + 1 + 1 + 1 = k3 at KP hlt ⊢
  generalize h2 : w.heap.size + 1 + 1 = k2 at KP hlt ⊢
  generalize h1 : w.heap.size + 1 = k1 at KP hlt ⊢
  have Q3 : Hid (w.heap.size ≤ k3) := by unfold Hid; omega
  generalize h0 : w.heap.size = k0 at KP hlt Q3 Q4 ⊢
  have H0 : Hid (w.heap.size = k0) := h0
  have n40 : k4 ≠ k0 := Nat.ne_of_gt (hlt _ (List.mem_cons_self))
  have n41 : k4 ≠ k1 := Nat.ne_of_gt (hlt ⟨k1, 0, a, b, c, d⟩ (by simp))
  have n42 : k4 ≠ k2 := Nat.ne_of_gt (hlt ⟨k2, 0, p, q, r, s⟩ (by simp))
  have n43 : k4 ≠ k3 := Nat.ne_of_gt (hlt ⟨k3, 0, 0, 0, 0, 0⟩ (by simp))
  clear h0 h1 h2 h3 hlt
  generalize pwz.setIfInBounds 0 (Value.int IntKind.u64 1) = zz
  go_loopg [8] 15 (fun gk s8 wr => ∃ i : Nat, i + gk = 16 ∧ 1 ≤ i ∧ s8 = .int .i64 (i : Int) ∧ Kept w k0 [⟨k0, 0, g0, g1, g2, 0⟩, ⟨k1, 0, a, b, c, d⟩, ⟨k2, 0, p, q, r, s⟩, ⟨k3, 0, 0, 0, 0, 0⟩] wr ∧ Tab wr k4 m P i)
  case atStart => exact ⟨1, rfl, Nat.le_refl _, rfl, KP, TB⟩
  case round =>
    clear KP TB
    obtain ⟨i, hi, hi1, rfl, KP0, TB⟩ := hrel
    by_cases hlt : i < 16
    · obtain ⟨j, hji⟩ : ∃ j, i = j + 1 := ⟨i - 1, oM⟩
      obtain ⟨pa, pb, pc, pd, BJ, hFJ⟩ := TB j oM
      have HFJ : Hid (Four _ (m ^ j % P)) := hFJ oM
      have KP : Kept w k0 [⟨k0, 0, g0, g1, g2, 0⟩, ⟨k4, j * 4, pa, pb, pc, pd⟩, ⟨k1, 0, a, b, c, d⟩, ⟨k2, 0, p, q, r, s⟩, ⟨k3, 0, 0, 0, 0, 0⟩] wr := by
        refine ((((((Kept.mk1 KP0.bl KP0.le).cons ?_).cons ?_).cons ?_).cons ?_).cons ?_)
        · exact KP0.tail.tail.tail.head
        · exact KP0.tail.tail.head
        · exact KP0.tail.head
        · exact BJ
        · exact KP0.head
      clear KP0 BJ hFJ
      have hlt' : (i : Int) < 16 := oM
      have e1 : (i : Int) - 1 = (j : Int) := oM
      have hj16 : j < 16 := oM
      have hj16i : (j : Int) < 16 := oM
      have hw1 : IntKind.i64.wrap (j : Int) = (j : Int) := wrap_i _ oM
      have HJ : Hid (i = j + 1) := hji
      have o0 : Hid (i * 4 < j * 4 ∨ j * 4 + 3 < i * 4) := by unfold Hid; omega
      have o1 : Hid (i * 4 + 1 < j * 4 ∨ j * 4 + 3 < i * 4 + 1) := by unfold Hid; omega
      have o2 : Hid (i * 4 + 2 < j * 4 ∨ j * 4 + 3 < i * 4 + 2) := by unfold Hid; omega
      have o3 : Hid (i * 4 + 3 < j * 4 ∨ j * 4 + 3 < i * 4 + 3) := by unfold Hid; omega
      clear hji
      go_upto_region 5 with fail
      go_region_held3 (fun w' => w'.cell? ⟨k0, 0, none⟩ = some (.int .u64 (g0 : Int)) ∧ w'.cell? ⟨k0, 1, none⟩ = some (.int .u64 (g1 : Int)) ∧ w'.cell? ⟨k0, 2, none⟩ = some (.int .u64 (g2 : Int)) ∧ w'.cell? ⟨k0, 3, none⟩ = some (.int .u64 0) ∧ w'.cell? ⟨k4, j * 4, none⟩ = some (.int .u64 (pa : Int)) ∧ w'.cell? ⟨k4, j * 4 + 1, none⟩ = some (.int .u64 (pb : Int)) ∧ w'.cell? ⟨k4, j * 4 + 2, none⟩ = some (.int .u64 (pc : Int)) ∧ w'.cell? ⟨k4, j * 4 + 3, none⟩ = some (.int .u64 (pd : Int)) ∧ w'.cell? ⟨k1, 0, none⟩ = some (.int .u64 (a : Int)) ∧ w'.cell? ⟨k1, 1, none⟩ = some (.int .u64 (b : Int)) ∧ w'.cell? ⟨k1, 2, none⟩ = some (.int .u64 (c : Int)) ∧ w'.cell? ⟨k1, 3, none⟩ = some (.int .u64 (d : Int)) ∧ Kept w k0 [⟨k0, 0, g0, g1, g2, 0⟩, ⟨k4, j * 4, pa, pb, pc, pd⟩, ⟨k1, 0, a, b, c, d⟩, ⟨k2, 0, p, q, r, s⟩, ⟨k3, 0, 0, 0, 0, 0⟩] w') (first | (with_reducible exact powS_of KP) | (with_reducible exact powS_of KP.drew) | (with_reducible exact powS_of (pow_puts KP Q4.out n40 n41 n42 n43 o0.out o1.out o2.out o3.out _ _ _ _)) | (with_reducible exact powS_of (pow_puts KP Q4.out n40 n41 n42 n43 o0.out o1.out o2.out o3.out _ _ _ _).drew) | fail) (first | (go_at_call 55; refine (four_any _ _ HX.out _).mono ?_; rintro e w1 ⟨v, rfl, hb1, rfl⟩; (first | (with_reducible (have KP1 := KP.drew.call hb1)) | (with_reducible (have KP1 := KP.call hb1)) | fail); (first | (with_reducible (have T1 := TB.drew.call hb1)) | (with_reducible (have T1 := TB.call hb1)) | fail); clear KP TB hb1; have KP := KP1; have TB := T1; clear KP1 T1) | (go_at_call 100; refine (product_any g0 g1 g2 P _ _ _ _ HG.out HFJ.out HX.out _).mono ?_; rintro e w1 ⟨v, rfl, hb1, hF3⟩; obtain ⟨a', b', c', d', rfl, ha', hb', hc', hd', es3⟩ := id hF3; clear es3; have HF3 : Hid (Four _ _) := hF3; clear hF3; (first | (with_reducible (have KP1 := KP.drew.call hb1)) | (with_reducible (have KP1 := KP.call hb1)) | fail); (first | (with_reducible (have T1 := TB.drew.call hb1)) | (with_reducible (have T1 := TB.call hb1)) | fail); clear KP TB hb1; have KP := KP1; have TB := T1; clear KP1 T1; obtain ⟨ya, yb, yc, yd, BI, hFI⟩ := TB i hlt; clear hFI; obtain ⟨tc0, tc1, tc2, tc3, tf⟩ := id BI; have zt := BI.lt; clear BI))
      go_wp2
      go_roundg (gk - 1)
      case measure => omega
      case rel =>
        have K3 := pow_puts KP Q4.out n40 n41 n42 n43 o0.out o1.out o2.out o3.out (.int .u64 (a' : Int)) (.int .u64 (b' : Int)) (.int .u64 (c' : Int)) (.int .u64 (d' : Int))
        refine ⟨i + 1, oM, oM, rfl, ?_, ?_⟩
        · exact ((((Kept.mk1 K3.bl K3.le).cons K3.tail.tail.tail.tail.head).cons K3.tail.tail.tail.head).cons K3.tail.tail.head).cons K3.head
        · refine TB.put hlt ?_
          have h1 := HF3.out
          rw [pow_step_mod, ← HJ.out] at h1
          exact h1
    · have hi16 : i = 16 := oM
      subst hi16
      obtain ⟨pa, pb, pc, pd, BJ, hFJ⟩ := TB 0 dC
      have HFJ := mk1 (hFJ dC)
      replace BJ : (Blk.mk k4 0 pa pb pc pd).at wr := BJ
      obtain ⟨tc0, tc1, tc2, tc3, tf⟩ := id BJ
      replace tc0 : wr.cell? ⟨k4, 0, none⟩ = some (.int .u64 (pa : Int)) := tc0
      replace tc1 : wr.cell? ⟨k4, 1, none⟩ = some (.int .u64 (pb : Int)) := tc1
      replace tc2 : wr.cell? ⟨k4, 2, none⟩ = some (.int .u64 (pc : Int)) := tc2
      replace tc3 : wr.cell? ⟨k4, 3, none⟩ = some (.int .u64 (pd : Int)) := tc3
      have zt := BJ.lt
      go_wp2
      have KN := (KP0.alloc (.cells #[.int .u64 (pa : Int), .int .u64 (pb : Int), .int .u64 (pc : Int), .int .u64 (pd : Int)] 76)).cons (At4.made wr 76 pa pb pc pd rfl).blk
      have TN := TB.call (below1 wr (.cells #[.int .u64 (pa : Int), .int .u64 (pb : Int), .int .u64 (pc : Int), .int .u64 (pd : Int)] 76))
      have hlt5 := KP0.lts
      have n54 := Nat.ne_of_gt BJ.lt
      have Q5 := mk1 (KP0.le)
      generalize World.alloc _ _ = Wv5 at KN TN ⊢
      generalize wr.heap.size = k5 at KN hlt5 n54 Q5 ⊢
      have hl5 : ∀ x ∈ ([⟨k0, 0, g0, g1, g2, 0⟩, ⟨k1, 0, a, b, c, d⟩, ⟨k2, 0, p, q, r, s⟩, ⟨k3, 0, 0, 0, 0, 0⟩] : List Blk), k5 ≠ x.k := fun x hx => Nat.ne_of_gt (hlt5 x hx)
      go_loopg [10] 64 (fun gk s10 wr => gk ≤ 64 ∧ s10 = .int .i64 (4 * (gk : Int) - 4) ∧ (∃ na nb nc nd : Nat, Kept w k0 (⟨k5, 0, na, nb, nc, nd⟩ :: [⟨k0, 0, g0, g1, g2, 0⟩, ⟨k1, 0, a, b, c, d⟩, ⟨k2, 0, p, q, r, s⟩, ⟨k3, 0, 0, 0, 0, 0⟩]) wr ∧ Hid (Four (.agg #[.int .u64 (na : Int), .int .u64 (nb : Int), .int .u64 (nc : Int), .int .u64 (nd : Int)]) (m ^ (n / 2 ^ (4 * gk)) % P))) ∧ Tab wr k4 m P 16)
      case atStart =>
        refine ⟨Nat.le_refl _, rfl, ⟨pa, pb, pc, pd, KN, ?_⟩, TN⟩
        have h1 := HFJ.out
        rw [show n / 2 ^ (4 * 64) = 0 from Nat.div_eq_of_lt HY.lt]
        exact h1
      case round =>
        obtain ⟨hg64, rfl, ⟨na, nb, nc, nd, KP, HF⟩, TB⟩ := hrel
        by_cases hz : gk = 0
        · subst hz
          have HF0 := HF.out
          rw [Nat.mul_zero, Nat.pow_zero, Nat.div_one] at HF0
          obtain ⟨tc0, tc1, tc2, tc3, tf⟩ := KP.head.at4
          have zt := KP.head.lt
          go_wp2_with fail
          refine (number_any _ _ HF0 _).mono ?_
          rintro e w1 ⟨v, rfl, hb1, rfl⟩
          have HFE := mk1 (HF0)
          have KP1 := KP.call hb1
          obtain ⟨rc0, rc1, rc2, rc3, rf⟩ := KP1.tail.tail.tail.tail.head.at4
          have zr := KP1.tail.tail.tail.tail.head.lt
          go_wp2
          have RF := KP1.tail.tail.tail.tail.head.at4.self4 na nb nc nd
          unfold set4 at RF
          refine bodyPost_ret (v := ?v) ?hr rfl ?hR
          case hr => simp [results, Tryz.results200, go_sem, RF.c0, RF.c1, RF.c2, RF.c3]; rfl
          refine ⟨_, rfl, ?_, HFE.out⟩
          rw [H0.out]
          exact below_set4 KP1.bl Q3.out _ _ _ _
        · obtain ⟨I, hI⟩ : ∃ I, 4 * (gk - 1) = I := ⟨_, rfl⟩
          have e1 : 4 * (gk : Int) - 4 = (I : Int) := oM
          rw [e1]
          have HI := mk1 (hI)
          obtain ⟨E, hE⟩ : ∃ E, n / 2 ^ (4 * gk) = E := ⟨_, rfl⟩
          have HE := mk1 (hE)
          rw [hE] at HF
          go_wp2
          refine wp_loop_rounds 5 ?_
          obtain ⟨tc0, tc1, tc2, tc3, tf⟩ := KP.head.at4
          have zt := KP.head.lt
          obtain ⟨pc0, pc1, pc2, pc3, pf⟩ := KP.tail.head.at4
          have zp := KP.tail.head.lt
          rw [rounds_succ]
          go_wp2_with fail
          refine (product_any g0 g1 g2 P _ _ _ _ HG.out HF.out HF.out _).mono ?_
          rintro e w1 ⟨v, rfl, hb1, hF3⟩
          rw [pow_two_mod] at hF3
          obtain ⟨n1a, n1b, n1c, n1d, rfl, ha', hb', hc', hd', es3⟩ := id hF3
          have HF := mk1 (hF3)
          replace KP := KP.call hb1
          replace TB := TB.call hb1
          obtain ⟨tc0, tc1, tc2, tc3, tf⟩ := KP.head.at4
          have zt := KP.head.lt
          go_wp2_with fail
          have KP2 := KP.put Q5.out hl5 n1a n1b n1c n1d
          have TB2 := (((TB.other (o := 0) n54 (.int .u64 (n1a : Int))).other (o := 1) n54 (.int .u64 (n1b : Int))).other (o := 2) n54 (.int .u64 (n1c : Int))).other (o := 3) n54 (.int .u64 (n1d : Int))
          have KP := KP2
          have TB := TB2
          obtain ⟨tc0, tc1, tc2, tc3, tf⟩ := KP.head.at4
          have zt := KP.head.lt
          obtain ⟨pc0, pc1, pc2, pc3, pf⟩ := KP.tail.head.at4
          have zp := KP.tail.head.lt
          rw [rounds_succ]
          go_wp2_with fail
          clear tc0 tc1 tc2 tc3 tf zt pc0 pc1 pc2 pc3 pf zp
          refine (product_any g0 g1 g2 P _ _ _ _ HG.out HF.out HF.out _).mono ?_
          rintro e w2 ⟨v, rfl, hb1, hF3⟩
          rw [pow_two_mod] at hF3
          obtain ⟨n2a, n2b, n2c, n2d, rfl, ha', hb', hc', hd', es3⟩ := id hF3
          clear HF
          have HF : Hid (Four _ _) := hF3
          clear hF3 es3 ha' hb' hc' hd'
          replace KP := KP.call hb1
          replace TB := TB.call hb1
          clear hb1
          obtain ⟨tc0, tc1, tc2, tc3, tf⟩ := KP.head.at4
          have zt := KP.head.lt
          go_wp2_with fail
          clear tc0 tc1 tc2 tc3 tf zt
          have KP2 := KP.put Q5.out hl5 n2a n2b n2c n2d
          have TB2 := (((TB.other (o := 0) n54 (.int .u64 (n2a : Int))).other (o := 1) n54 (.int .u64 (n2b : Int))).other (o := 2) n54 (.int .u64 (n2c : Int))).other (o := 3) n54 (.int .u64 (n2d : Int))
          clear KP TB
          generalize World.setCell _ _ _ = WX2 at KP2 TB2 ⊢
          have KP := KP2
          have TB := TB2
          clear KP2 TB2
          obtain ⟨tc0, tc1, tc2, tc3, tf⟩ := KP.head.at4
          have zt := KP.head.lt
          obtain ⟨pc0, pc1, pc2, pc3, pf⟩ := KP.tail.head.at4
          have zp := KP.tail.head.lt
          rw [rounds_succ]
          go_wp2_with fail
          clear tc0 tc1 tc2 tc3 tf zt pc0 pc1 pc2 pc3 pf zp
          refine (product_any g0 g1 g2 P _ _ _ _ HG.out HF.out HF.out _).mono ?_
          rintro e w3 ⟨v, rfl, hb1, hF3⟩
          rw [pow_two_mod] at hF3
          obtain ⟨n3a, n3b, n3c, n3d, rfl, ha', hb', hc', hd', es3⟩ := id hF3
          clear HF
          have HF : Hid (Four _ _) := hF3
          clear hF3 es3 ha' hb' hc' hd'
          replace KP := KP.call hb1
          replace TB := TB.call hb1
          clear hb1
          obtain ⟨tc0, tc1, tc2, tc3, tf⟩ := KP.head.at4
          have zt := KP.head.lt
          go_wp2_with fail
          clear tc0 tc1 tc2 tc3 tf zt
          have KP2 := KP.put Q5.out hl5 n3a n3b n3c n3d
          have TB2 := (((TB.other (o := 0) n54 (.int .u64 (n3a : Int))).other (o := 1) n54 (.int .u64 (n3b : Int))).other (o := 2) n54 (.int .u64 (n3c : Int))).other (o := 3) n54 (.int .u64 (n3d : Int))
          clear KP TB
          generalize World.setCell _ _ _ = WX3 at KP2 TB2 ⊢
          have KP := KP2
          have TB := TB2
          clear KP2 TB2
          obtain ⟨tc0, tc1, tc2, tc3, tf⟩ := KP.head.at4
          have zt := KP.head.lt
          obtain ⟨pc0, pc1, pc2, pc3, pf⟩ := KP.tail.head.at4
          have zp := KP.tail.head.lt
          rw [rounds_succ]
          go_wp2_with fail
          clear tc0 tc1 tc2 tc3 tf zt pc0 pc1 pc2 pc3 pf zp
          refine (product_any g0 g1 g2 P _ _ _ _ HG.out HF.out HF.out _).mono ?_
          rintro e w4 ⟨v, rfl, hb1, hF3⟩
          rw [pow_two_mod] at hF3
          obtain ⟨n4a, n4b, n4c, n4d, rfl, ha', hb', hc', hd', es3⟩ := id hF3
          clear HF
          have HF : Hid (Four _ _) := hF3
          clear hF3 es3 ha' hb' hc' hd'
          replace KP := KP.call hb1
          replace TB := TB.call hb1
          clear hb1
          obtain ⟨tc0, tc1, tc2, tc3, tf⟩ := KP.head.at4
          have zt := KP.head.lt
          go_wp2_with fail
          clear tc0 tc1 tc2 tc3 tf zt
          have KP2 := KP.put Q5.out hl5 n4a n4b n4c n4d
          have TB2 := (((TB.other (o := 0) n54 (.int .u64 (n4a : Int))).other (o := 1) n54 (.int .u64 (n4b : Int))).other (o := 2) n54 (.int .u64 (n4c : Int))).other (o := 3) n54 (.int .u64 (n4d : Int))
          clear KP TB
          generalize World.setCell _ _ _ = WX4 at KP2 TB2 ⊢
          have KP := KP2
          have TB := TB2
          clear KP2 TB2
          rw [rounds_succ]
          go_wp2_with fail
          refine anyTill.begin (fun w' => w'.cell? ⟨k0, 0, none⟩ = some (.int .u64 (g0 : Int)) ∧ w'.cell? ⟨k0, 1, none⟩ = some (.int .u64 (g1 : Int)) ∧ w'.cell? ⟨k0, 2, none⟩ = some (.int .u64 (g2 : Int)) ∧ w'.cell? ⟨k0, 3, none⟩ = some (.int .u64 0) ∧ w'.cell? ⟨k5, 0, none⟩ = some (.int .u64 (n4a : Int)) ∧ w'.cell? ⟨k5, 1, none⟩ = some (.int .u64 (n4b : Int)) ∧ w'.cell? ⟨k5, 2, none⟩ = some (.int .u64 (n4c : Int)) ∧ w'.cell? ⟨k5, 3, none⟩ = some (.int .u64 (n4d : Int)) ∧ w'.cell? ⟨k2, 0, none⟩ = some (.int .u64 (p : Int)) ∧ w'.cell? ⟨k2, 1, none⟩ = some (.int .u64 (q : Int)) ∧ w'.cell? ⟨k2, 2, none⟩ = some (.int .u64 (r : Int)) ∧ w'.cell? ⟨k2, 3, none⟩ = some (.int .u64 (s : Int)) ∧ Kept w k0 (⟨k5, 0, n4a, n4b, n4c, n4d⟩ :: [⟨k0, 0, g0, g1, g2, 0⟩, ⟨k1, 0, a, b, c, d⟩, ⟨k2, 0, p, q, r, s⟩, ⟨k3, 0, 0, 0, 0, 0⟩]) w' ∧ Tab w' k4 m P 16) 8 mixed (powT_of KP.drew TB.drew) (fun hS => ?_)
          refine anyTill.tk (i := 0) (v := ?_) rfl (Or.inl ⟨by rfl, ?_⟩) hS ?_
          rotate_left
          · intro w hSw
            (try dsimp only at hSw)
            go_simp
            try (with_reducible rfl)
          simp only [Act.put, List.setIfInBounds_toArray]
          refine anyTill.tk (i := 1) (v := ?_) rfl (Or.inl ⟨by rfl, ?_⟩) hS ?_
          rotate_left
          · intro w hSw
            (try dsimp only at hSw)
            go_simp
            try (with_reducible rfl)
          simp only [Act.put]
          refine anyTill.tk (i := 2) (v := ?_) rfl (Or.inl ⟨by rfl, ?_⟩) hS ?_
          rotate_left
          · intro w hSw
            (try dsimp only at hSw)
            go_simp
            try (with_reducible rfl)
          simp only [Act.put]
          refine anyTill.tk (i := 3) (v := ?_) rfl (Or.inl ⟨by rfl, ?_⟩) hS ?_
          rotate_left
          · intro w hSw
            (try dsimp only at hSw)
            go_simp
            try (with_reducible rfl)
          simp only [Act.put]
          try simp only [List.set_cons_zero, List.set_cons_succ]
          obtain ⟨tt, htt⟩ : ∃ tt, n / 2 ^ I % 2 ^ 4 = tt := ⟨_, rfl⟩
          have HT : Hid (n / 2 ^ I % 2 ^ 4 = tt) := htt
          have hB := fun w => Bits_any _ n I 4 HY.out oM dC w
          rw [htt] at hB
          have htl : tt < 16 := by have : (2 : Nat) ^ 4 = 16 := rfl
                                   rw [← htt]; omega
          have htl' : (tt : Int) < 16 := oM
          have HB : Hid _ := hB
          clear hB htt
          refine anyTill.step (i := 4) rfl kR (fun K hK => ?_)
          go_simp
          refine (HB _).mono ?_
          rintro e w6 ⟨v, rfl, hb1, rfl⟩
          clear hS HB
          have KP6 := KP.drew.call hb1
          have TB6 := TB.drew.call hb1
          clear hb1 KP TB
          refine hK.out _ _ (fun _ => powT_of KP6 TB6) ?_
          clear hK K
          try simp only [Act.put, List.setIfInBounds_toArray, List.set_cons_zero, List.set_cons_succ]
          obtain ⟨ta, tb, tc, td, BT, hFT⟩ := TB6 tt htl
          have HFT : Hid (Four _ (m ^ tt % P)) := hFT htl
          clear hFT
          obtain ⟨tc0, tc1, tc2, tc3, tf⟩ := id BT
          have zt := BT.lt
          refine anyTill.step (i := 5) rfl kR (fun K hK => ?_)
          go_simp
          refine hK.out _ _ (fun _ => powT_of KP6 TB6) ?_
          clear hK K
          try simp only [Act.put, List.setIfInBounds_toArray, List.set_cons_zero, List.set_cons_succ]
          refine anyTill.step (i := 6) rfl kR (fun K hK => ?_)
          go_simp
          refine hK.out _ _ (fun _ => powT_of KP6 TB6) ?_
          clear hK K
          try simp only [Act.put, List.setIfInBounds_toArray, List.set_cons_zero, List.set_cons_succ]
          clear tc0 tc1 tc2 tc3 tf zt BT
          refine anyTill.step (i := 7) rfl kR (fun K hK => ?_)
          go_simp
          refine (product_any g0 g1 g2 P _ _ _ _ HG.out HF.out HFT.out _).mono ?_
          rintro e w7 ⟨v, rfl, hb1, hF3⟩
          rw [pow_add_mod] at hF3
          obtain ⟨ua, ub, uc, ud, rfl, ha', hb', hc', hd', es3⟩ := id hF3
          have HFU : Hid (Four _ _) := hF3
          clear hF3 es3 ha' hb' hc' hd' HF HFT
          have KP7 := KP6.call hb1
          have TB7 := TB6.call hb1
          clear hb1 KP6 TB6
          refine hK.out _ _ (fun _ => powT_of KP7 TB7) ?_
          clear hK K
          try simp only [Act.put, List.setIfInBounds_toArray, List.set_cons_zero, List.set_cons_succ]
          obtain ⟨tc0, tc1, tc2, tc3, tf⟩ := KP7.head.at4
          have zt := KP7.head.lt
          refine anyTill.step (i := 8) rfl kR (fun K hK => ?_)
          go_simp
          refine hK.out _ _ (fun h => Bool.noConfusion h) ?_
          clear hK K
          try simp only [Act.put, List.setIfInBounds_toArray, List.set_cons_zero, List.set_cons_succ]
          refine anyTill.done kR ?_ _
          clear tc0 tc1 tc2 tc3 tf zt
          go_wp2
          go_roundg (gk - 1)
          case measure => omega
          case rel =>
            refine ⟨oM, ?_, ⟨ua, ub, uc, ud, KP7.put Q5.out hl5 ua ub uc ud, ?_⟩, (((TB7.other (o := 0) n54 _).other (o := 1) n54 _).other (o := 2) n54 _).other (o := 3) n54 _⟩
            · have := HI.out
              congr 1
              omega
            · have h1 := HFU.out
              unfold Hid
              rw [HI.out, div_win n I, show I + 4 = 4 * gk by have := HI.out; omega, HE.out, HT.out]
              rw [show 2 * (2 * (2 * (2 * E))) + tt = 16 * E + tt by omega] at h1
              exact h1
def p0:Nat:=115792089237316195423570985008687907853269984665640564039457584007908834671663
def p1:Nat:=115792089237316195423570985008687907852837564279074904382605163141518161494337
def gv0:Value:=.agg #[.int .u64 4294968273,.int .u64 0,.int .u64 0,.int .u64 0]
def gv1:Value:=.agg #[.int .u64 4624529908474429119,.int .u64 4994812053365940164,.int .u64 1,.int .u64 0]
theorem gap0:Gap 4294968273 0 0 p0:=⟨dC,dC,dC,Or.inl ⟨rfl,rfl⟩,dK,dK,dK⟩
theorem gap1:Gap 4624529908474429119 4994812053365940164 1 p1:=⟨dC,dC,dC,Or.inr ⟨4994812053365940165,dK,dC⟩,dK,dK,dK⟩
theorem Coordinates_any (w:World) :
 Calls Tryz.prog 118 #[] w fun e w'=>e=.returned (.agg #[.int .u64 4294968273,.int .u64 0,.int .u64 0,.int .u64 0])∧w'=w.alloc (.cells #[.int .u64 4294968273,.int .u64 0,.int .u64 0,.int .u64 0] 78):=by
 go_enter Tryz.func118,Tryz.ntmps118
 go_wp2
 refine bodyPost_ret (v:=?v) ?hr rfl ?hR
 case hr=>simp[results,Tryz.results118,go_sem];rfl
 exact ⟨rfl,rfl⟩
theorem Scalars_any (w:World) :
 Calls Tryz.prog 28 #[] w fun e w'=>e=.returned (.agg #[.int .u64 4624529908474429119,.int .u64 4994812053365940164,.int .u64 1,.int .u64 0])∧w'=w.alloc (.cells #[.int .u64 4624529908474429119,.int .u64 4994812053365940164,.int .u64 1,.int .u64 0] 78):=by
 go_enter Tryz.func28,Tryz.ntmps28
 go_wp2
 refine bodyPost_ret (v:=?v) ?hr rfl ?hR
 case hr=>simp[results,Tryz.results28,go_sem];rfl
 exact ⟨rfl,rfl⟩
end
section
open Go.RowKit Go.Sort Go.Deep
abbrev Bs:=Array UInt8
def ub (x:UInt8):Int:=(x.toNat:Int)
def encB (x:UInt8):Value:=.int .u8 (ub x)
structure Only (b off n:Nat) (w w':World):Prop where
 os:w'.os=w.os
 tape:w'.tape=w.tape
 output:w'.output=w.output
 size:w.heap.size≤w'.heap.size
 block:∀ k,k<w.heap.size→k≠b→w'.heap[k]? = w.heap[k]?
 cell:∀ o,(o<off∨off+n≤o)→w'.cell? ⟨b,o,none⟩=w.cell? ⟨b,o,none⟩
 froz:∀ o,w'.frozen? ⟨b,o,none⟩=w.frozen? ⟨b,o,none⟩
variable {b off n:Nat} {w w1 w2:World}
theorem Only.refl (b off n:Nat) (w:World):Only b off n w w:=⟨rfl,rfl,rfl,Nat.le_refl _,fun _ _ _=>rfl,fun _ _=>rfl,fun _=>rfl⟩
theorem Only.trans (h:Only b off n w w1) (k:Only b off n w1 w2):Only b off n w w2:=
 ⟨k.os.trans h.os,k.tape.trans h.tape,k.output.trans h.output,Nat.le_trans h.size k.size,
  fun i d c=>(k.block i (Nat.lt_of_lt_of_le d h.size) c).trans (h.block i d c),
  fun o ho=>(k.cell o ho).trans (h.cell o ho),fun o=>(k.froz o).trans (h.froz o)⟩
theorem Only.setCell (h:Only b off n w w1) {o:Nat} (g:off≤o) (f:o<off+n) (v:Value):Only b off n w (w1.setCell ⟨b,o,none⟩ v):=by
 refine h.trans ⟨rfl,rfl,rfl,by simp,fun k _ c=>Below.heap_setCell _ _ _ _ c,fun d ho=>?_,fun d=>by simp⟩
 exact World.cell?_setCell_other _ _ _ _ (by intro e;simp only[Addr.mk.injEq,and_true,true_and] at e;omega)
theorem Only.below (h:Only b off n w w1) {B:Nat} (e:B≤w.heap.size) (c:B≤b):Below B w w1:=
 ⟨h.os,h.tape,h.output,h.size,fun k d=>h.block k oM oM⟩
section
variable {α:Type} [Inhabited α] {enc:α→Value} {d:Array α}
theorem Holds.lt (h:Holds enc w b off d) (hd:0<d.size):b<w.heap.size:=World.block_lt_of_cell? _ _ (h 0 hd).1
theorem Holds.same {o:Nat} (h:Holds enc w b o d) (k:Only b off n w w1) (hd:o+d.size≤off∨off+n≤o):Holds enc w1 b o d:=by
 intro j c
 rw[k.cell _ oM,k.froz]
 exact h j c
theorem Holds.below {B:Nat} (h:Holds enc w b off d) (k:Below B w w1) (c:b<B):Holds enc w1 b off d:=by
 intro j e
 rw[k.cell (p:=⟨b,off+j,none⟩) c,k.frozen (p:=⟨b,off+j,none⟩) c]
 exact h j e
theorem Holds.drewN (h:Holds enc w b off d) (q:Nat):Holds enc (w.drewN q) b off d:=h
theorem Holds.set (h:Holds enc w b off d) {i:Nat} (c:i<d.size) (x:α):Holds enc (w.setCell ⟨b,off+i,none⟩ (enc x)) b off (d.setIfInBounds i x):=by
 intro j k
 rw[Array.size_setIfInBounds] at k
 rw[World.frozen?_setCell]
 by_cases e:j=i
 ·subst e
  rw[getElem!_set_same d j x c]
  exact ⟨World.cell?_setCell_same _ _ _ (h j k).1,(h j k).2⟩
 ·rw[getElem!_set_other d i j x e,World.cell?_setCell_other _ _ _ _ (by intro e';simp only[Addr.mk.injEq,and_true,true_and] at e';omega)]
  exact h j k
theorem Holds.new (w:World) (t:TypeId) (d:Array α):Holds enc (w.alloc (.cells (d.map enc) t)) w.heap.size 0 d:=by
 intro j k
 rw[World.cell?_alloc_new,World.frozen?_alloc_new]
 refine ⟨?_,rfl⟩
 simp only[Nat.zero_add,Array.getElem?_map,Array.getElem?_eq_getElem k,Option.map_some,getElem!_pos d j k]
theorem Holds.made (w:World) (t:TypeId) (n:Nat) (x:α):Holds enc (w.alloc (.cells (madeCells #[enc x] n) t)) w.heap.size 0 (Array.replicate n x):=by
 intro j k
 rw[Array.size_replicate] at k
 rw[World.cell?_alloc_new,World.frozen?_alloc_new]
 refine ⟨?_,rfl⟩
 rw[getElem!_pos _ j (by simpa using k),Array.getElem_replicate]
 simp[madeCells,k,Nat.mod_one]
end
section
def fill (i:Nat):UInt8:=UInt8.ofNat (i%251) ^^^ 165
def lentTo (s:ByteArray):Nat→Bs
 | 0=>s.data++Array.replicate 160 0
 | k+1=>(lentTo s k).setIfInBounds (s.size+k) (fill (s.size+k))
def lent (s:ByteArray):Bs:=lentTo s 160
variable {w w1:World} {b o n:Nat}
theorem heap_setCells (b:Nat) {k:Nat} (c:k≠b):∀ (vs:List Value) (p:Nat) (w:World),(w.setCells b p vs).heap[k]? = w.heap[k]?
 | [],_,_=>rfl
 | v :: r,p,w=>by rw[World.setCells,heap_setCells b c r (p+1) _,Below.heap_setCell _ _ _ _ c]
theorem Holds.setCells {d r:Bs} (h:Holds encB w b o d) (vs:List Value) (p:Nat) (f:r.size=d.size) (l:p+vs.length≤d.size)
 (g:∀ j (c:j<vs.length),vs[j]=encB r[p+j]!) (k:∀ j,j<d.size→j<p∨p+vs.length≤j→r[j]! = d[j]!):Holds encB (w.setCells b (o+p) vs) b o r:=by
 intro j c
 rw[f] at c
 rw[World.frozen?_setCells]
 refine ⟨?_,(h j c).2⟩
 by_cases e:j<p∨p+vs.length≤j
 ·rw[World.cell?_setCells_out b vs (o+p) w ⟨b,o+j,none⟩ (fun _ _=>by simp only;omega),k j c e]
  exact (h j c).1
 ·have k:j-p<vs.length:=oM
  have:=World.cell?_setCells_in b vs (o+p) w (fun i m=>by
   have:=(h (p+i) oM).1
   rw[← Nat.add_assoc] at this
   rw[this];rfl) (j-p) k
  rw[show o+p+(j-p)=o+j by omega] at this
  rw[this,g (j-p) k,show p+(j-p)=j by omega]
theorem app_front (a r:Bs) (j:Nat) (k:j<a.size):(a++r)[j]! = a[j]:=by
 have h:j<(a++r).size:=by rw[Array.size_append];omega
 rw[getElem!_pos (a++r) j h,Array.getElem_append_left k]
theorem app_back (a r:Bs) (j:Nat) (b:a.size≤j) (c:j<a.size+r.size):(a++r)[j]! = r[j-a.size]!:=by
 have h:j<(a++r).size:=by rw[Array.size_append];omega
 have k:j-a.size<r.size:=oM
 rw[getElem!_pos (a++r) j h,Array.getElem_append_right b,getElem!_pos r (j-a.size) k]
theorem rep_at (n j:Nat) (h:j<n):(Array.replicate n (0:UInt8))[j]! = 0:=by
 have k:j<(Array.replicate n (0:UInt8)).size:=by rw[Array.size_replicate];exact h
 rw[getElem!_pos (Array.replicate n (0:UInt8)) j k,Array.getElem_replicate]
theorem size_of5 (P:Program) (e:TypeId) (h:(P.info? e).map (·.size)=some 1):∀ w,(Go.sizeOf e).run P w=.ok 1 w:=by
 intro w
 cases k:P.info? e with
 | none=>simp[k] at h
 | some i =>
  simp[k] at h
  simp[Go.sizeOf,typeInfo,k,h]
theorem conv_str (P:Program) (src k e:TypeId) (q:P.underlying src=some (.slice e)) (l:P.underlying e=some (.int .u8)) (hd:P.underlying k=some .string)
 (w:World) (b o n cap:Nat) (c:Bs) (m:Holds encB w b o c) (p:c.size=n):(convert src k (.slice (some ⟨b,o,none⟩) n cap)).run P w=.ok (.string ⟨c⟩) w:=by
 have h:=run_convert_bytes_back (P:=P) w src k e ⟨b,o,none⟩ cap c.toList q l hd (fun j r=>by
  have d:j<c.size:=by simpa using r
  have g:=(m j d).1
  rw[getElem!_pos c j d] at g
  have i:(⟨b,o,none⟩:Addr).add j=⟨b,o+j,none⟩:=by
   unfold Addr.add
   by_cases f:j=0
   ·subst f;rfl
   ·rw[if_neg f]
  rw[i,g]
  simp[encB,ub])
 simpa[p] using h
end
section
theorem slice22:Tryz.prog.underlying 23=some (.slice 5):=kR
theorem info5:(Tryz.prog.info? 5).map (fun i=>(i.zero,i.size,i.bytes))=some (some (.int .u8 0),1,1):=kR
theorem int5:Tryz.prog.underlying 5=some (.int .u8):=kR
theorem str9:Tryz.prog.underlying 9=some .string:=kR
theorem size5:∀ w,(Go.sizeOf 5).run Tryz.prog w=.ok 1 w:=size_of5 Tryz.prog 5 kR
end
end
section
open Go.RowKit Go.Sort Go.Deep
variable {P:Nat} [NeZero P] {N:Nat}
def be8 (x:Nat):Bs:=#[UInt8.ofNat (x/72057594037927936),UInt8.ofNat (x/281474976710656),UInt8.ofNat (x/1099511627776),UInt8.ofNat (x/4294967296),UInt8.ofNat (x/16777216),UInt8.ofNat (x/65536),UInt8.ofNat (x/256),UInt8.ofNat x]
def be32 (a b c d:Nat):Bs:=be8 d++be8 c++be8 b++be8 a
theorem ub_ofNat (x:Nat):ub (UInt8.ofNat x)=((x%256:Nat):Int):=by
 unfold ub
 rw[UInt8.toNat_ofNat']
theorem wrap8 (x:Nat):IntKind.u8.wrap (x:Int)=ub (UInt8.ofNat x):=by
 rw[ub_ofNat,IntKind.wrap_u8]
 omega
theorem byte_at (x k:Nat):(Value.int .u8 ((x:Int)/(k:Int)%256))=encB (UInt8.ofNat (x/k)):=by
 unfold encB
 rw[ub_ofNat,Int.natCast_emod,Int.natCast_ediv]
 rfl
theorem byte_top (x:Nat) (hx:x<18446744073709551616):(Value.int .u8 ((x:Int)/72057594037927936))=encB (UInt8.ofNat (x/72057594037927936)):=by
 unfold encB
 rw[ub_ofNat]
 exact congrArg (Value.int .u8) oM
theorem set8 (k:Bs) (g:k.size=8) (v0 v1 v2 b d e c f:UInt8) :
 (((((((k.setIfInBounds 0 v0).setIfInBounds 1 v1).setIfInBounds 2 v2).setIfInBounds 3 b).setIfInBounds 4 d).setIfInBounds 5 e).setIfInBounds 6 c).setIfInBounds 7 f=#[v0,v1,v2,b,d,e,c,f]:=by
 obtain ⟨l⟩:=k
 match l,g with
 | [_,_,_,_,_,_,_,_],_=>simp
theorem putWord_any (g o n cap x:Nat) (b:Bs) (w:World) (C:8≤n) (E:n≤cap) (c:cap≤1048576) (hx:x<18446744073709551616) (q:b.size=8) (k:Holds encB w g o b) :
 Calls Tryz.prog 52 #[.slice (some ⟨g,o,none⟩) n cap,.int .u64 x] w fun e w'=>e=.returned (.tuple #[])∧Only g o 8 w w'∧Holds encB w' g o (be8 x):=by
 obtain ⟨m,p⟩:=k 0 oM
 obtain ⟨c1,y⟩:=k 1 oM
 obtain ⟨c2,f2⟩:=k 2 oM
 obtain ⟨u,t⟩:=k 3 oM
 obtain ⟨a,A⟩:=k 4 oM
 obtain ⟨v,G⟩:=k 5 oM
 obtain ⟨D,F⟩:=k 6 oM
 obtain ⟨z,B⟩:=k 7 oM
 rw[Nat.add_zero] at m p
 have s:=mk1 (k)
 go_enter Tryz.func52,Tryz.ntmps52
 go_wp2
 have v0:(Value.int .u8 ((x:Int)/72057594037927936))=encB (UInt8.ofNat (x/72057594037927936)):=byte_top x hx
 have v1:(Value.int .u8 ((x:Int)/281474976710656%256))=encB (UInt8.ofNat (x/281474976710656)):=byte_at x 281474976710656
 have v2:(Value.int .u8 ((x:Int)/1099511627776%256))=encB (UInt8.ofNat (x/1099511627776)):=byte_at x 1099511627776
 have d:(Value.int .u8 ((x:Int)/4294967296%256))=encB (UInt8.ofNat (x/4294967296)):=byte_at x 4294967296
 have l:(Value.int .u8 ((x:Int)/16777216%256))=encB (UInt8.ofNat (x/16777216)):=byte_at x 16777216
 have f:(Value.int .u8 ((x:Int)/65536%256))=encB (UInt8.ofNat (x/65536)):=byte_at x 65536
 have r:(Value.int .u8 ((x:Int)/256%256))=encB (UInt8.ofNat (x/256)):=byte_at x 256
 have j:(Value.int .u8 ((x:Int)%256))=encB (UInt8.ofNat x):=by unfold encB;rw[ub_ofNat,Int.natCast_emod];rfl
 rw[v0,v1,v2,d,l,f,r,j]
 go_end0
 refine ⟨rfl,?_,?_⟩
 ·exact ((((((((Only.refl g o 8 w).setCell (o:=o) oM oM _).setCell (o:=o+1) oM oM _).setCell (o:=o+2) oM oM _).setCell (o:=o+3) oM oM _).setCell (o:=o+4) oM oM _).setCell (o:=o+5) oM oM _).setCell (o:=o+6) oM oM _).setCell (o:=o+7) oM oM _
 ·have:=set8 b q (UInt8.ofNat (x/72057594037927936)) (UInt8.ofNat (x/281474976710656)) (UInt8.ofNat (x/1099511627776)) (UInt8.ofNat (x/4294967296)) (UInt8.ofNat (x/16777216)) (UInt8.ofNat (x/65536)) (UInt8.ofNat (x/256)) (UInt8.ofNat x)
  unfold be8
  rw[← this]
  exact Holds.set (Holds.set (Holds.set (Holds.set (Holds.set (Holds.set (Holds.set (Holds.set s.out (i:=0) oM _) (i:=1) (by simp;omega) _) (i:=2) (by simp;omega) _) (i:=3) (by simp;omega) _) (i:=4) (by simp;omega) _) (i:=5) (by simp;omega) _) (i:=6) (by simp;omega) _) (i:=7) (by simp;omega) _
theorem be8_size (x:Nat):(be8 x).size=8:=rfl
theorem be32_size (a b c d:Nat):(be32 a b c d).size=32:=by simp only[be32,Array.size_append,be8_size]
theorem Holds.part {w:World} {g o p:Nat} {d e:Bs} (h:Holds encB w g o d) (c:p+e.size≤d.size) (k:∀ j,j<e.size→e[j]! = d[p+j]!):Holds encB w g (o+p) e:=by
 intro j b
 rw[k j b,Nat.add_assoc]
 exact h (p+j) oM
theorem Holds.join {w:World} {g:Nat} {a b c d:Nat} (i:Holds encB w g 0 (be8 d)) (n:Holds encB w g 8 (be8 c)) (f:Holds encB w g 16 (be8 b)) (m:Holds encB w g 24 (be8 a)):Holds encB w g 0 (be32 a b c d):=by
 intro j l
 rw[be32_size] at l
 have e:be32 a b c d=be8 d++be8 c++be8 b++be8 a:=rfl
 have s1:(be8 d++be8 c).size=16:=by simp only[Array.size_append,be8_size]
 have s2:(be8 d++be8 c++be8 b).size=24:=by simp only[Array.size_append,be8_size]
 by_cases k:j<8
 ·have:=i j (by rw[be8_size];exact k)
  rw[e,app_front _ _ j oM,← getElem!_pos (be8 d++be8 c++be8 b) j oM,app_front _ _ j oM,← getElem!_pos (be8 d++be8 c) j oM,app_front _ _ j (by rw[be8_size];exact k),← getElem!_pos (be8 d) j (by rw[be8_size];exact k)]
  exact this
 ·by_cases o:j<16
  ·have:=n (j-8) (by rw[be8_size];omega)
   rw[show 8+(j-8)=0+j by omega] at this
   rw[e,app_front _ _ j oM,← getElem!_pos (be8 d++be8 c++be8 b) j oM,app_front _ _ j oM,← getElem!_pos (be8 d++be8 c) j oM,app_back _ _ j (by rw[be8_size];omega) (by rw[be8_size,be8_size];omega),be8_size]
   exact this
  ·by_cases p:j<24
   ·have:=f (j-16) (by rw[be8_size];omega)
    rw[show 16+(j-16)=0+j by omega] at this
    rw[e,app_front _ _ j oM,← getElem!_pos (be8 d++be8 c++be8 b) j oM,app_back _ _ j oM (by rw[s1,be8_size];omega),s1]
    exact this
   ·have:=m (j-24) (by rw[be8_size];omega)
    rw[show 24+(j-24)=0+j by omega] at this
    rw[e,app_back _ _ j oM (by rw[s2,be8_size];omega),s2]
    exact this
theorem idx0 (a b c d:Nat) (w:World):(Instr.index 42 (.agg #[.int .u64 a,.int .u64 b,.int .u64 c,.int .u64 d]) (.int .i64 0)).run Tryz.prog w=.ok (.int .u64 a) w:=kR
theorem idx1 (a b c d:Nat) (w:World):(Instr.index 42 (.agg #[.int .u64 a,.int .u64 b,.int .u64 c,.int .u64 d]) (.int .i64 1)).run Tryz.prog w=.ok (.int .u64 b) w:=kR
theorem idx2 (a b c d:Nat) (w:World):(Instr.index 42 (.agg #[.int .u64 a,.int .u64 b,.int .u64 c,.int .u64 d]) (.int .i64 2)).run Tryz.prog w=.ok (.int .u64 c) w:=kR
theorem idx3 (a b c d:Nat) (w:World):(Instr.index 42 (.agg #[.int .u64 a,.int .u64 b,.int .u64 c,.int .u64 d]) (.int .i64 3)).run Tryz.prog w=.ok (.int .u64 d) w:=kR
theorem part_zero {w:World} {g:Nat} (p:Nat) (h:Holds encB w g 0 (Array.replicate 32 0)) (b:p+8≤32):Holds encB w g p (Array.replicate 8 (0:UInt8)):=by
 have:=Holds.part (p:=p) (e:=Array.replicate 8 0) h (by simpa using b) (fun j k=>by
  rw[Array.size_replicate] at k
  rw[rep_at 8 j k,rep_at 32 (p+j) oM])
 rwa[Nat.zero_add] at this
theorem Bytes_any (x:Value) (m:Nat) (w:World) (hx:Four x m) :
 Calls Tryz.prog 27 #[x] w (Ret fun e w'=>Below w.heap.size w w'∧∃ g a b c d:Nat,e=.slice (some ⟨g,0,none⟩) 32 32∧w.heap.size≤g∧x=.agg #[.int .u64 a,.int .u64 b,.int .u64 c,.int .u64 d]∧Holds encB w' g 0 (be32 a b c d)):=by
 obtain ⟨a,b,c,d,rfl,K,I,M,hd,G⟩:=hx
 clear G
 have J:∀ w:World,(Instr.makeSlice 23 (.int .i64 32) (.int .i64 32)).run Tryz.prog w=.ok (.slice (some ⟨w.heap.size,0,none⟩) 32 32) (w.alloc (.cells (madeCells #[.int .u8 0] 32) 5)):=
  run_make_row' (P:=Tryz.prog) 23 5 (.int .u8 0) 1 slice22 info5 rfl .i64 .i64 32 oM oM
 go_enter Tryz.func27,Tryz.ntmps27
 go_wp2
 refine wp_loop_rounds 5 ?_
 have f:Holds encB (((w.alloc (.cells #[.int .u64 a,.int .u64 b,.int .u64 c,.int .u64 d] 42)).alloc (.cells (madeCells #[.int .u8 0] 32) 5))) (w.heap.size+1) 0 (Array.replicate 32 0):=by
  have:=Holds.made (enc:=encB) (w.alloc (.cells #[.int .u64 a,.int .u64 b,.int .u64 c,.int .u64 d] 42)) 5 32 0
  rw[World.size_alloc] at this
  exact this
 have n:=below2 w (.cells #[.int .u64 a,.int .u64 b,.int .u64 c,.int .u64 d] 42) (.cells (madeCells #[.int .u8 0] 32) 5)
 generalize ((w.alloc (.cells #[.int .u64 a,.int .u64 b,.int .u64 c,.int .u64 d] 42)).alloc (.cells (madeCells #[.int .u8 0] 32) 5))=W at f n ⊢
 have q:Hid (Below w.heap.size w W):=n
 generalize H:w.heap.size+1=g at f ⊢
 have p:=mk1 (H)
 have D:=part_zero 24 f oM
 have j:=part_zero 16 f oM
 have i:=part_zero 8 f oM
 have k:=part_zero 0 f oM
 have A:=idx0 a b c d
 have C:=idx1 a b c d
 have B:=idx2 a b c d
 have F:=idx3 a b c d
 rw[rounds_succ];go_wp2_with (simp only[A])
 refine (putWord_any g 24 8 8 a _ _ oM oM oM K (by rw[Array.size_replicate]) D).mono ?_
 rintro e Q ⟨rfl,t,b1⟩
 replace j:=Holds.same j t (by simp)
 replace i:=Holds.same i t (by simp)
 replace k:=Holds.same k t (by simp)
 have s:=mk1 (q.trans (t.below q.size (by have:=p.out;omega)))
 go_wp2_with fail
 rw[rounds_succ];go_wp2_with (simp only[C])
 refine (putWord_any g 16 16 16 b _ _ oM oM oM I (by rw[Array.size_replicate]) j).mono ?_
 rintro e R ⟨rfl,u,l⟩
 replace i:=Holds.same i u (by simp)
 replace k:=Holds.same k u (by simp)
 replace b1:=Holds.same b1 u (by simp)
 have o:=mk1 (s.trans (u.below s.size (by have:=p.out;omega)))
 go_wp2_with fail
 rw[rounds_succ];go_wp2_with (simp only[B])
 refine (putWord_any g 8 24 24 c _ _ oM oM oM M (by rw[Array.size_replicate]) i).mono ?_
 rintro e O ⟨rfl,v,E⟩
 replace k:=Holds.same k v (by simp)
 replace b1:=Holds.same b1 v (by simp)
 replace l:=Holds.same l v (by simp)
 have r:=mk1 (o.trans (v.below o.size (by have:=p.out;omega)))
 go_wp2_with fail
 rw[rounds_succ];go_wp2_with (simp only[F])
 refine (putWord_any g 0 32 32 d _ _ oM oM oM hd (by rw[Array.size_replicate]) k).mono ?_
 rintro e S ⟨rfl,y,L⟩
 replace b1:=Holds.same b1 y (by simp)
 replace l:=Holds.same l y (by simp)
 replace E:=Holds.same E y (by simp)
 have z:=mk1 (r.trans (y.below r.size (by have:=p.out;omega)))
 have N:=mk1 (Holds.join L E l b1)
 go_wp2_with fail
 rw[rounds_succ];go_wp2
 go_ret
 exact ⟨_,rfl,z.out,g,a,b,c,d,rfl,by have:=p.out;omega,rfl,N.out⟩
theorem or_above (a b t:Nat) (c:t≤56) (k:a<2^t) (d:b<256):bits .or .u64 (a:Int) ((b*2^t:Nat):Int)=((a+b*2^t:Nat):Int)∧a+b*2^t<2^(t+8):=by
 have j:2^t≤2^56:=Nat.pow_le_pow_right dC c
 have f:b*2^t≤255*2^t:=Nat.mul_le_mul_right _ oM
 have g:2^(t+8)=256*2^t:=by rw[Nat.pow_add,Nat.mul_comm]
 have i:(2:Nat)^56=72057594037927936:=dC
 have e:=Nat.two_pow_add_eq_or_of_lt k b
 refine ⟨?_,oM⟩
 rw[bits_or_u64_nat _ _ oM oM,Nat.or_comm,Nat.mul_comm b,← e,Nat.add_comm]
theorem shl_ub (b:UInt8) (t:Nat) (k:t≤56):IntKind.u64.wrap (IntKind.u64.wrap (ub b)*((2^t:Nat):Int))=((b.toNat*2^t:Nat):Int):=by
 have d:=b.toNat_lt
 have f:2^t≤2^56:=Nat.pow_le_pow_right dC k
 have c:b.toNat*2^t≤255*2^t:=Nat.mul_le_mul_right _ oM
 have e:(2:Nat)^56=72057594037927936:=dC
 unfold ub
 rw[wrapN _ oM,mulN,wrapN _ oM]
def w8 (b0 b1 e b k c d f:UInt8):Nat:=
 f.toNat+d.toNat*256+c.toNat*65536+k.toNat*16777216+b.toNat*4294967296+e.toNat*1099511627776+b1.toNat*281474976710656+b0.toNat*72057594037927936
theorem w8_lt (b0 b1 e b k c d f:UInt8):w8 b0 b1 e b k c d f<18446744073709551616:=by
 have:=b0.toNat_lt;have:=b1.toNat_lt;have:=e.toNat_lt;have:=b.toNat_lt
 have:=k.toNat_lt;have:=c.toNat_lt;have:=d.toNat_lt;have:=f.toNat_lt
 unfold w8
 omega
theorem word_or (b0 b1 b f e d c k:UInt8) :
 bits .or .u64 (bits .or .u64 (bits .or .u64 (bits .or .u64 (bits .or .u64 (bits .or .u64 (bits .or .u64 (IntKind.u64.wrap (ub k)) (IntKind.u64.wrap (IntKind.u64.wrap (ub c)*256)))
  (IntKind.u64.wrap (IntKind.u64.wrap (ub d)*65536))) (IntKind.u64.wrap (IntKind.u64.wrap (ub e)*16777216))) (IntKind.u64.wrap (IntKind.u64.wrap (ub f)*4294967296)))
  (IntKind.u64.wrap (IntKind.u64.wrap (ub b)*1099511627776))) (IntKind.u64.wrap (IntKind.u64.wrap (ub b1)*281474976710656))) (IntKind.u64.wrap (IntKind.u64.wrap (ub b0)*72057594037927936))=((w8 b0 b1 b f e d c k:Nat):Int):=by
 have B:=k.toNat_lt
 have l:IntKind.u64.wrap (ub k)=(k.toNat:Int):=wrapN _ oM
 have j:=shl_ub c 8 dC
 have m:=shl_ub d 16 dC
 have e3:=shl_ub e 24 dC
 have t:=shl_ub f 32 dC
 have n:=shl_ub b 40 dC
 have v:=shl_ub b1 48 dC
 have z:=shl_ub b0 56 dC
 obtain ⟨q,y⟩:=or_above k.toNat c.toNat 8 dC oM (by have:=c.toNat_lt;omega)
 obtain ⟨s,r⟩:=or_above _ d.toNat 16 dC y (by have:=d.toNat_lt;omega)
 obtain ⟨u,w⟩:=or_above _ e.toNat 24 dC r (by have:=e.toNat_lt;omega)
 obtain ⟨a,g⟩:=or_above _ f.toNat 32 dC w (by have:=f.toNat_lt;omega)
 obtain ⟨x,o⟩:=or_above _ b.toNat 40 dC g (by have:=b.toNat_lt;omega)
 obtain ⟨i,p⟩:=or_above _ b1.toNat 48 dC o (by have:=b1.toNat_lt;omega)
 obtain ⟨A,C⟩:=or_above _ b0.toNat 56 dC p (by have:=b0.toNat_lt;omega)
 rw[show (256:Int)=((2^8:Nat):Int) from rfl,show (65536:Int)=((2^16:Nat):Int) from rfl,show (16777216:Int)=((2^24:Nat):Int) from rfl,
  show (4294967296:Int)=((2^32:Nat):Int) from rfl,show (1099511627776:Int)=((2^40:Nat):Int) from rfl,show (281474976710656:Int)=((2^48:Nat):Int) from rfl,show (72057594037927936:Int)=((2^56:Nat):Int) from rfl,
  l,j,m,e3,t,n,v,z,q,s,u,a,x,i,A]
 rfl
theorem word_any (g o n cap:Nat) (k:Bs) (w:World) (A:8≤n) (D:n≤cap) (c:cap≤1048576) (B:8≤k.size) (b:Holds encB w g o k) :
 Calls Tryz.prog 101 #[.slice (some ⟨g,o,none⟩) n cap] w fun e w'=>e=.returned (.int .u64 ((w8 k[0]! k[1]! k[2]! k[3]! k[4]! k[5]! k[6]! k[7]!:Nat):Int))∧∃ n,w'=w.drewN n:=by
 obtain ⟨j,l⟩:=b 0 oM
 obtain ⟨c1,v⟩:=b 1 oM
 obtain ⟨c2,f2⟩:=b 2 oM
 obtain ⟨t,s⟩:=b 3 oM
 obtain ⟨y,z⟩:=b 4 oM
 obtain ⟨u,F⟩:=b 5 oM
 obtain ⟨C,E⟩:=b 6 oM
 obtain ⟨x,a⟩:=b 7 oM
 rw[Nat.add_zero] at j l
 unfold encB at *
 generalize k[0]! = b0 at *
 generalize k[1]! = b1 at *
 generalize k[2]! = f at *
 generalize k[3]! = r at *
 generalize k[4]! = q at *
 generalize k[5]! = m at *
 generalize k[6]! = i at *
 generalize k[7]! = p at *
 have d:=mk1 (word_or b0 b1 f r q m i p)
 go_enter Tryz.func101,Tryz.ntmps101
 go_wp2
 go_quiet (fail)
 go_wp2
 go_ret
 exact ⟨ret_int d.out,_,rfl⟩
def beV (l:List UInt8):Nat:=l.foldl (fun n b=>256*n+b.toNat) 0
theorem foldl_from (l:List UInt8):∀ n,l.foldl (fun n b=>256*n+b.toNat) n=n*256^l.length+beV l:=by
 induction l with
 | nil=>intro n;simp[beV]
 | cons x r ih =>
  intro n
  have c:=ih (256*n+x.toNat)
  have k:=ih (256*0+x.toNat)
  simp only[List.foldl_cons,List.length_cons,beV] at *
  rw[c,k,Nat.pow_succ,Nat.add_mul,Nat.mul_zero,Nat.zero_add,Nat.mul_comm 256 n,Nat.mul_assoc,Nat.mul_comm 256]
  omega
theorem beV_append (l r:List UInt8):beV (l++r)=beV l*256^r.length+beV r:=by
 rw[beV,List.foldl_append,foldl_from];rfl
theorem beV_zeros (n:Nat) (l:List UInt8):beV (List.replicate n 0++l)=beV l:=by
 rw[beV_append]
 have:beV (List.replicate n 0)=0:=by
  induction n with
  | zero=>rfl
  | succ k ih=>rw[List.replicate_succ',beV_append,ih];rfl
 rw[this,Nat.zero_mul,Nat.zero_add]
theorem beV_32 (u y s x w z a t r v j f p o e l x16 x17 n q b x21 d x23 g i x26 x27 m k x30 c:UInt8) :
 beV [u,y,s,x,w,z,a,t,r,v,j,f,p,o,e,l,x16,x17,n,q,b,x21,d,x23,g,i,x26,x27,m,k,x30,c]
  = val (w8 g i x26 x27 m k x30 c) (w8 x16 x17 n q b x21 d x23) (w8 r v j f p o e l) (w8 u y s x w z a t):=by
 simp only[beV,List.foldl_cons,List.foldl_nil,w8,val]
 omega
theorem beV_words (k:Bs) (h:k.size=32):beV k.toList=val (w8 k[24]! k[25]! k[26]! k[27]! k[28]! k[29]! k[30]! k[31]!) (w8 k[16]! k[17]! k[18]! k[19]! k[20]! k[21]! k[22]! k[23]!)
 (w8 k[8]! k[9]! k[10]! k[11]! k[12]! k[13]! k[14]! k[15]!) (w8 k[0]! k[1]! k[2]! k[3]! k[4]! k[5]! k[6]! k[7]!):=by
 obtain ⟨l⟩:=k
 match l,h with
 | [x0,x1,x2,x3,x4,x5,x6,x7,x8,x9,x10,x11,x12,x13,x14,x15,x16,x17,x18,x19,x20,x21,x22,x23,x24,x25,x26,x27,x28,x29,x30,x31],_=>exact beV_32 x0 x1 x2 x3 x4 x5 x6 x7 x8 x9 x10 x11 x12 x13 x14 x15 x16 x17 x18 x19 x20 x21 x22 x23 x24 x25 x26 x27 x28 x29 x30 x31
theorem zero32:∀ w:World,(zeroValue 190).run Tryz.prog w=.ok (.agg (Array.replicate 32 (.int .u8 0))) w:=fun _=>kR
theorem ints5:(Tryz.prog.info? 5).map (·.size)=some 1:=kR
def padded (n:Nat) (k:Bs):Bs:=Array.replicate (32-n) 0++k
theorem padded_size (n:Nat) (k:Bs) (c:k.size=n) (b:n≤32):(padded n k).size=32:=by
 unfold padded
 rw[Array.size_append,Array.size_replicate]
 omega
theorem padded_val (n:Nat) (k:Bs):beV (padded n k).toList=beV k.toList:=by
 unfold padded
 rw[Array.toList_append,Array.toList_replicate,beV_zeros]
theorem copy_in {w:World} {b g o n cap:Nat} {c:Bs} (i:Holds encB w b 0 (Array.replicate 32 0)) (t:n≤32) (s:Holds encB w g o c) (m:c.size=n) :
 (Builtin.copy_ #[23,23] 3 #[.slice (some ⟨b,32-n,none⟩) n n,.slice (some ⟨g,o,none⟩) n cap]).run Tryz.prog w=.ok (goInt n) (w.setCells b (32-n) (c.toList.map encB))
  ∧ Holds encB (w.setCells b (32-n) (c.toList.map encB)) b 0 (padded n c):=by
 have k:(c.toList.map encB).length=n:=by rw[List.length_map,Array.length_toList,m]
 refine ⟨?_,?_⟩
 ·have:=run_copy_cells (P:=Tryz.prog) w 23 23 3 5 b (32-n) n n ⟨g,o,none⟩ n cap (c.toList.map encB) slice22 ints5 (by rw[k];exact (Nat.min_self n).symm)
   (fun j u d=>by
    obtain ⟨f,e⟩:=List.getElem?_eq_some_iff.1 d
    rw[k] at f
    have p:=(s j oM).1
    rw[getElem!_pos c j oM] at p
    rw[List.getElem_map,Array.getElem_toList] at e
    have q:(⟨g,o,none⟩:Addr).add j=⟨g,o+j,none⟩:=by
     unfold Addr.add
     by_cases l:j=0
     ·subst l;rw[if_pos rfl];rfl
     ·rw[if_neg l]
    rw[q,p,e])
   (fun j d=>by
    have:=(i (32-n+j) (by rw[Array.size_replicate];omega)).1
    rw[Nat.zero_add] at this
    rw[this];rfl)
   (fun j d=>by
    have:=(i (32-n+j) (by rw[Array.size_replicate];omega)).2
    rwa[Nat.zero_add] at this)
   (fun u l=>by obtain ⟨x,_,rfl⟩:=List.mem_map.1 l;rfl)
  rw[k] at this
  exact this
 ·have:=Holds.setCells (r:=padded n c) i (c.toList.map encB) (32-n) (by rw[padded_size n c m t,Array.size_replicate]) (by rw[k,Array.size_replicate];omega) (fun j d=>?_) (fun j f e=>?_)
  ·rw[Nat.zero_add] at this
   exact this
  ·rw[k] at d
   rw[List.getElem_map,Array.getElem_toList]
   unfold padded
   rw[app_back _ _ _ (by rw[Array.size_replicate];omega) (by rw[Array.size_replicate];omega),Array.size_replicate,show 32-n+j-(32-n)=j by omega,getElem!_pos c j oM]
  ·rw[Array.size_replicate] at f
   rw[k] at e
   unfold padded
   rw[app_front _ _ j (by rw[Array.size_replicate];omega),Array.getElem_replicate,rep_at 32 j f]
theorem part8 {w:World} {g:Nat} {T:Bs} (p:Nat) (h:Holds encB w g 0 T) (k:p+8≤T.size):Holds encB w g p #[T[p]!,T[p+1]!,T[p+2]!,T[p+3]!,T[p+4]!,T[p+5]!,T[p+6]!,T[p+7]!]:=by
 have:=Holds.part (p:=p) (e:=#[T[p]!,T[p+1]!,T[p+2]!,T[p+3]!,T[p+4]!,T[p+5]!,T[p+6]!,T[p+7]!]) h (by simpa using k) (fun j b=>by
  have:j<8:=by simpa using b
  match j,this with
  | 0,_=>rfl
  | 1,_=>rfl
  | 2,_=>rfl
  | 3,_=>rfl
  | 4,_=>rfl
  | 5,_=>rfl
  | 6,_=>rfl
  | 7,_=>rfl)
 rwa[Nat.zero_add] at this
theorem word_any8 (g o n cap:Nat) (b0 b1 b j i d c f:UInt8) (w:World) (m:8≤n) (p:n≤cap) (k:cap≤1048576) (l:Holds encB w g o #[b0,b1,b,j,i,d,c,f]) :
 Calls Tryz.prog 101 #[.slice (some ⟨g,o,none⟩) n cap] w fun e w'=>e=.returned (.int .u64 ((w8 b0 b1 b j i d c f:Nat):Int))∧∃ n,w'=w.drewN n:=
 word_any g o n cap #[b0,b1,b,j,i,d,c,f] w m p k (Nat.le_refl 8) l
theorem Holds.far {w:World} {g o j i:Nat} {k:Bs} (h:Holds encB w g o k) (c:j≠g) (v:Value):Holds encB (w.setCell ⟨j,i,none⟩ v) g o k:=by
 intro l b
 rw[World.cell?_setCell_other _ _ _ _ (ne_addr (Or.inl c)),World.frozen?_setCell]
 exact h l b
theorem fromBytes_any (a:Option Addr) (g o n cap:Nat) (m:Bs) (w:World) (hn:n≤32) (hc:n≤cap) (hs:m.size=n) (V:n=0∨(a=some ⟨g,o,none⟩∧Holds encB w g o m)) :
 Calls Tryz.prog 53 #[.slice a n cap] w (Ret fun e w'=>Below w.heap.size w w'∧Four e (beV m.toList)):=by
 have J:=padded_size n m hs hn
 have B:=mk1 ((padded_val n m).symm.trans (beV_words _ J))
 have zv:=zero32
 have h3:(n:Int)≤32:=oM
 have d0:(0:Int)≤32-(n:Int):=oM
 have d1:(32:Int)-(n:Int)≤32:=oM
 have d2:((32:Int)-(n:Int)).toNat=32-n:=oM
 go_enter Tryz.func53,Tryz.ntmps53
 go_upto_region 2 with fail
 have R:=(At4.made w 42 0 0 0 0 rfl).alloc (.cells (Array.replicate 32 (.int .u8 0)) 190)
 have Z:Holds encB ((w.alloc (.cells #[.int .u64 0,.int .u64 0,.int .u64 0,.int .u64 0] 42)).alloc (.cells (Array.replicate 32 (.int .u8 0)) 190)) (w.heap.size+1) 0 (Array.replicate 32 0):=by
  have:=Holds.new (enc:=encB) (w.alloc (.cells #[.int .u64 0,.int .u64 0,.int .u64 0,.int .u64 0] 42)) 190 (Array.replicate 32 0)
  rw[Array.map_replicate,World.size_alloc] at this
  exact this
 have BL:=below2 w (.cells #[.int .u64 0,.int .u64 0,.int .u64 0,.int .u64 0] 42) (.cells (Array.replicate 32 (.int .u8 0)) 190)
 simp only[Int.natCast_zero] at R
 have L:n=0∨(a=some ⟨g,o,none⟩∧Holds encB ((w.alloc (.cells #[.int .u64 0,.int .u64 0,.int .u64 0,.int .u64 0] 42)).alloc (.cells (Array.replicate 32 (.int .u8 0)) 190)) g o m):=by
  rcases V with h|⟨h1,b⟩
  ·exact Or.inl h
  ·by_cases D:n=0
   ·exact Or.inl D
   ·exact Or.inr ⟨h1,Holds.below b BL (Holds.lt b oM)⟩
 clear V
 generalize World.alloc _ _=Y at R Z BL L ⊢
 go_cut [] (fun wx=>Holds encB wx (w.heap.size+1) 0 (padded n m)∧At4 wx w.heap.size 0 0 0 0∧Below w.heap.size w wx)
 case first =>
  by_cases D:n=0
  ·subst D
   have f:∀ w d b dc,(Builtin.copy_ #[23,23] 3 #[.slice d b dc,.slice a 0 cap]).run Tryz.prog w=.ok (goInt 0) w:=fun w d b dc=>run_copy_none w 23 23 3 5 d a b dc 0 cap slice22 ints5 (by simp)
   have c:padded 0 m=Array.replicate 32 0:=by
    have:m=#[]:=Array.eq_empty_of_size_eq_zero hs
    rw[this];rfl
   go_wp2
   go_meet
   exact ⟨by rw[c];exact Z,R,BL⟩
  ·obtain ⟨rfl,V⟩:a=some ⟨g,o,none⟩∧Holds encB Y g o m:=L.resolve_left D
   obtain ⟨f,j⟩:=copy_in (cap:=cap) Z hn V hs
   have l:32-(32-n)=n:=oM
   have c:At4 (Y.setCells (w.heap.size+1) (32-n) (m.toList.map encB)) w.heap.size 0 0 0 0:=by
    have b:=heap_setCells (w.heap.size+1) (k:=w.heap.size) oM (m.toList.map encB) (32-n) Y
    exact ⟨by rw[← R.c0];exact World.cell?_of_block b,by rw[← R.c1];exact World.cell?_of_block b,by rw[← R.c2];exact World.cell?_of_block b,by rw[← R.c3];exact World.cell?_of_block b,fun o=>by rw[← R.f o];exact World.frozen?_of_block b⟩
   have x:Below w.heap.size w (Y.setCells (w.heap.size+1) (32-n) (m.toList.map encB)):=below_setCells (Nat.le_succ _) _ _ _ BL
   have b:=mk3 j c x
   go_wp2
   go_meet
   exact b.out
 case rest =>
  obtain ⟨A,c,x⟩:=hcut
  generalize padded n m=T at A J B ⊢
  have U:=part8 24 A oM
  have p2:=part8 16 A oM
  have p1:=part8 8 A oM
  have p0:=part8 0 A oM
  have zk:=c.lt
  have r:=Holds.lt A oM
  generalize O:w8 T[24]! T[25]! T[26]! T[27]! T[28]! T[29]! T[30]! T[31]! = y at B
  generalize G:w8 T[16]! T[17]! T[18]! T[19]! T[20]! T[21]! T[22]! T[23]! = E at B
  generalize F:w8 T[8]! T[9]! T[10]! T[11]! T[12]! T[13]! T[14]! T[15]! = I at B
  generalize H:w8 T[0]! T[1]! T[2]! T[3]! T[4]! T[5]! T[6]! T[7]! = q at B
  have l3:=O ▸ w8_lt _ _ _ _ _ _ _ _
  have l2:=G ▸ w8_lt _ _ _ _ _ _ _ _
  have l1:=F ▸ w8_lt _ _ _ _ _ _ _ _
  have l0:=H ▸ w8_lt _ _ _ _ _ _ _ _
  go_wp2
  have N:=At4.made wc 42 0 0 0 0 rfl
  simp only[Int.natCast_zero] at N
  replace U:=Holds.below U (below1 wc (.cells #[.int .u64 0,.int .u64 0,.int .u64 0,.int .u64 0] 42)) r
  replace p2:=Holds.below p2 (below1 wc (.cells #[.int .u64 0,.int .u64 0,.int .u64 0,.int .u64 0] 42)) r
  replace p1:=Holds.below p1 (below1 wc (.cells #[.int .u64 0,.int .u64 0,.int .u64 0,.int .u64 0] 42)) r
  replace p0:=Holds.below p0 (below1 wc (.cells #[.int .u64 0,.int .u64 0,.int .u64 0,.int .u64 0] 42)) r
  have BL:=mk1 (x.alloc (Nat.le_of_lt zk) (.cells #[.int .u64 0,.int .u64 0,.int .u64 0,.int .u64 0] 42))
  replace c:=c.alloc (.cells #[.int .u64 0,.int .u64 0,.int .u64 0,.int .u64 0] 42)
  have C:w.heap.size≠wc.heap.size:=oM
  have s:w.heap.size+1≠wc.heap.size:=oM
  have Q:Hid (w.heap.size≤wc.heap.size):=by unfold Hid;omega
  generalize wc.heap.size=S at N C s Q ⊢
  generalize h1:w.heap.size+1=W at U p2 p1 p0 s ⊢
  generalize D:w.heap.size=X at c C BL Q ⊢
  have H0:=mk1 (D)
  refine wp_loop_rounds 5 ?_
  obtain ⟨j,l,f,b,t⟩:=id N
  have u:=N.lt
  rw[rounds_succ];go_wp2_with fail
  refine (word_any8 W 24 8 8 _ _ _ _ _ _ _ _ _ dC dC dC U).mono ?_
  rintro e w1 ⟨rfl,z,rfl⟩
  rw[O]
  replace N:=N.drewN z
  obtain ⟨j,l,f,b,t⟩:=id N
  have u:=N.lt
  go_wp2_with fail
  replace N:=N.set0 y
  replace c:=(c.drewN z).other (o:=0) C.symm (.int .u64 y)
  replace BL:Hid (Below X w _):=(belowDrewN BL.out z).setCell (p:=⟨S,0,none⟩) Q.out (.int .u64 y)
  replace p2:=Holds.far (Holds.drewN p2 z) (i:=0) s.symm (.int .u64 y)
  replace p1:=Holds.far (Holds.drewN p1 z) (i:=0) s.symm (.int .u64 y)
  replace p0:=Holds.far (Holds.drewN p0 z) (i:=0) s.symm (.int .u64 y)
  obtain ⟨j,l,f,b,t⟩:=id N
  have u:=N.lt
  rw[rounds_succ];go_wp2_with fail
  refine (word_any8 W 16 16 16 _ _ _ _ _ _ _ _ _ dC dC dC p2).mono ?_
  rintro e w1 ⟨rfl,K,rfl⟩
  rw[G]
  replace N:=N.drewN K
  obtain ⟨j,l,f,b,t⟩:=id N
  have u:=N.lt
  go_wp2_with fail
  replace N:=N.set1 E
  replace c:=(c.drewN K).other (o:=1) C.symm (.int .u64 E)
  replace BL:Hid (Below X w _):=(belowDrewN BL.out K).setCell (p:=⟨S,1,none⟩) Q.out (.int .u64 E)
  replace p1:=Holds.far (Holds.drewN p1 K) (i:=1) s.symm (.int .u64 E)
  replace p0:=Holds.far (Holds.drewN p0 K) (i:=1) s.symm (.int .u64 E)
  obtain ⟨j,l,f,b,t⟩:=id N
  have u:=N.lt
  rw[rounds_succ];go_wp2_with fail
  refine (word_any8 W 8 24 24 _ _ _ _ _ _ _ _ _ dC dC dC p1).mono ?_
  rintro e w1 ⟨rfl,P,rfl⟩
  rw[F]
  replace N:=N.drewN P
  obtain ⟨j,l,f,b,t⟩:=id N
  have u:=N.lt
  go_wp2_with fail
  replace N:=N.set2 I
  replace c:=(c.drewN P).other (o:=2) C.symm (.int .u64 I)
  replace BL:Hid (Below X w _):=(belowDrewN BL.out P).setCell (p:=⟨S,2,none⟩) Q.out (.int .u64 I)
  replace p0:=Holds.far (Holds.drewN p0 P) (i:=2) s.symm (.int .u64 I)
  obtain ⟨j,l,f,b,t⟩:=id N
  have u:=N.lt
  rw[rounds_succ];go_wp2_with fail
  refine (word_any8 W 0 32 32 _ _ _ _ _ _ _ _ _ dC dC dC p0).mono ?_
  rintro e w1 ⟨rfl,q3,rfl⟩
  rw[H]
  replace N:=N.drewN q3
  obtain ⟨j,l,f,b,t⟩:=id N
  have u:=N.lt
  go_wp2_with fail
  replace N:=N.set3 q
  replace c:=(c.drewN q3).other (o:=3) C.symm (.int .u64 q)
  replace BL:Hid (Below X w _):=(belowDrewN BL.out q3).setCell (p:=⟨S,3,none⟩) Q.out (.int .u64 q)
  obtain ⟨j,l,f,b,t⟩:=id N
  have u:=N.lt
  obtain ⟨h7,h4,h5,h6,rf⟩:=id c
  have zr:=c.lt
  rw[rounds_succ];go_wp2
  have M:=c.self4 y E I q
  unfold set4 at M
  refine bodyPost_ret (v:=?v) ?hr rfl ?hR
  case hr=>simp[results,Tryz.results53,go_sem,M.c0,M.c1,M.c2,M.c3];rfl
  refine ⟨_,rfl,?_,Four.mk l3 l2 l1 l0 B.out⟩
  rw[H0.out]
  exact below_set4 BL.out (Nat.le_refl _) _ _ _ _
theorem PModulus_any (j f i P:Nat) (hG:Gap j f i P) (w:World) :
 Calls Tryz.prog 199 #[.agg #[.int .u64 j,.int .u64 f,.int .u64 i,.int .u64 0]] w (Ret fun e w'=>Below w.heap.size w w'∧Four e P):=by
 have r:=hG.hg
 go_enter Tryz.func199,Tryz.ntmps199
 go_wp2_with fail
 have R:=At4.made (w.alloc (.cells #[.int .u64 j,.int .u64 f,.int .u64 i,.int .u64 0] 78)) 42 0 0 0 0 (World.size_alloc _ _)
 have BL:=below2 w (.cells #[.int .u64 j,.int .u64 f,.int .u64 i,.int .u64 0] 78) (.cells #[.int .u64 0,.int .u64 0,.int .u64 0,.int .u64 0] 42)
 simp only[Int.natCast_zero] at R
 refine (minus_any _ _ 0 _ (Four.mk (a:=0) (b:=0) (c:=0) (d:=0) dC dC dC dC rfl) (Four.mk hG.h0 hG.h1 hG.h2 dC rfl) _).mono ?_
 rintro e C ⟨v,rfl,g,v2,t,k,rfl,n,B,o⟩
 replace o:t+val j f i 0=0+top*k:=o
 have p:t=P:=by
  have m:=n.lt
  have l:=hG.hP
  have:k=0∨k=1:=oM
  rcases this with h|h<;>rw[h] at o<;>omega
 subst p
 replace R:=R.call g
 have q:=mk1 (BL.trans (g.mono BL.size))
 obtain ⟨a,b,c,d,rfl,G,E,H,hd,I⟩:=id n
 have z:=R.lt
 go_wp2_with fail
 refine (number_any _ _ n _).mono ?_
 rintro e u ⟨F,rfl,l,rfl⟩
 replace q:Hid (Below w.heap.size w u):=(q.alloc oM _).trans (l.mono (by simp;omega))
 replace R:=(R.alloc _).call l
 obtain ⟨x,A,s,y,D⟩:=id R
 have z:=R.lt
 go_wp2
 have m:=R.self4 a b c d
 unfold set4 at m
 refine bodyPost_ret (v:=?v) ?hr rfl ?hR
 case hr=>simp[results,Tryz.results199,go_sem,m.c0,m.c1,m.c2,m.c3];rfl
 exact ⟨_,rfl,below_set4 q.out (Nat.le_succ _) _ _ _ _,n⟩
end
section
open Go.RowKit Go.Sort
variable {P:Nat} [NeZero P] {N:Nat}
theorem kept3 (w:World) (t0 t1 t2:TypeId) (a b c d e f g h i j k l:Nat) :
 Kept w w.heap.size [⟨w.heap.size,0,a,b,c,d⟩,⟨w.heap.size+1,0,e,f,g,h⟩,⟨w.heap.size+1+1,0,i,j,k,l⟩]
  (((w.alloc (.cells #[.int .u64 a,.int .u64 b,.int .u64 c,.int .u64 d] t0)).alloc (.cells #[.int .u64 e,.int .u64 f,.int .u64 g,.int .u64 h] t1)).alloc (.cells #[.int .u64 i,.int .u64 j,.int .u64 k,.int .u64 l] t2)):=by
 refine (((Kept.mk1 (below3 w _ _ _) (below3 w _ _ _).size).cons ?_).cons ?_).cons ?_
 ·exact (At4.made _ t2 i j k l (by simp)).blk
 ·exact ((At4.made _ t1 e f g h (by simp)).alloc _).blk
 ·exact (((At4.made _ t0 a b c d rfl).alloc _).alloc _).blk
theorem Inverse_any (g i f P:Nat) (x:Value) (m:Nat) (hG:Gap g i f P) (n:2≤P%18446744073709551616) (hx:Four x m) (w:World) :
 Calls Tryz.prog 174 #[.agg #[.int .u64 g,.int .u64 i,.int .u64 f,.int .u64 0],x] w (Ret fun e w'=>Below w.heap.size w w'∧Four e (m^(P-2)%P)):=by
 obtain ⟨a,b,c,d,rfl,U,hb,H,hd,L⟩:=id hx
 have F:Hid (Four _ m):=hx
 have B:Hid (Gap g i f P):=hG
 clear L hx U hb H hd hG
 go_enter Tryz.func174,Tryz.ntmps174
 go_wp2_with fail
 have k:=kept3 w 78 42 42 g i f 0 a b c d 0 0 0 0
 simp only[Int.natCast_zero] at k
 generalize World.alloc _ _=W0 at k ⊢
 generalize h2:w.heap.size+1+1=K at k ⊢
 generalize h1:w.heap.size+1=k1 at k ⊢
 have A:Hid (w.heap.size≤K):=by unfold Hid;omega
 generalize h0:w.heap.size=k0 at k A ⊢
 have R:=mk1 (h0)
 refine (PModulus_any g i f P B.out _).mono ?_
 rintro e w1 ⟨v,rfl,u,o⟩
 obtain ⟨s,pb,E,pd,rfl,T,y,t,q,z⟩:=id o
 replace k:=k.call u
 have h3:2≤s:=by rw[z] at n;unfold val at n;omega
 obtain ⟨p,j⟩:∃ p,s=p+2:=⟨s-2,oM⟩
 have HE:Hid (Four (.agg #[.int .u64 p,.int .u64 pb,.int .u64 E,.int .u64 pd]) (P-2)):=by
  refine Four.mk oM y t q ?_
  rw[z,j];unfold val;omega
 have hw:=wrapN p oM
 obtain ⟨Y,I,Z,X,xf⟩:=k.tail.head.at4
 have zx:=k.tail.head.lt
 obtain ⟨h6,h5,M,V,pf⟩:=k.head.at4
 have zp:=k.head.lt
 have n1:=Nat.ne_of_lt zx
 have n0:=Nat.ne_of_lt zp
 go_wp2_with fail
 refine (power_any g i f P _ _ _ _ B.out F.out HE.out _).mono ?_
 rintro e w2 ⟨v,rfl,r,o⟩
 replace k:=(k.alloc _).call r
 obtain ⟨O,S,D,qd,rfl,J,h7,h8,C,eQ⟩:=id o
 have W:=mk1 (o)
 obtain ⟨h4,G,N,Q,rf⟩:=k.tail.tail.head.at4
 have zr:=k.tail.tail.head.lt
 go_wp2
 have l:=k.tail.tail.head.at4.self4 O S D qd
 unfold set4 at l
 refine bodyPost_ret (v:=?v) ?hr rfl ?hR
 case hr=>simp[results,Tryz.results174,go_sem,l.c0,l.c1,l.c2,l.c3];rfl
 refine ⟨_,rfl,?_,W.out⟩
 rw[R.out]
 exact below_set4 k.bl A.out _ _ _ _
theorem und64:Tryz.prog.underlying 24=some (.int .u64):=kR
theorem sz64:∀ w,(sizeOf 24).run Tryz.prog w=.ok 1 w:=fun _=>kR
theorem undP:Tryz.prog.underlying 42=some (.array 4 24):=kR
theorem eqP_d (D:Nat) (a b c d p q r s:Nat) (w:World) :
 (Op.equalIn (D+1+1) 42 (.agg #[.int .u64 a,.int .u64 b,.int .u64 c,.int .u64 d]) (.agg #[.int .u64 p,.int .u64 q,.int .u64 r,.int .u64 s])).run Tryz.prog w=.ok (decide (a=p∧b=q∧c=r∧d=s)) w:=by
 have e:=fun (x y:Nat)=>run_equalIn_int (P:=Tryz.prog) w D 24 .u64 .u64 (x:Int) (y:Int) und64
 rw[Op.equalIn]
 simp only[Sem.run_bind,run_underlying undP,Result.andThen_ok,sz64]
 simp only[Std.Legacy.Range.forIn_eq_forIn_range',Std.Legacy.Range.size,List.range',List.forIn_cons,List.forIn_nil]
 by_cases k:a=p
 ·by_cases f:b=q
  ·by_cases g:c=r
   ·by_cases i:d=s
    ·simp[k,f,g,i,part,e]
    ·simp[k,f,g,i,part,e];omega
   ·simp[k,f,g,part,e];omega
  ·simp[k,f,part,e];omega
 ·simp[k,part,e];omega
theorem neqP (a b c d p q r s:Nat) (w:World) :
 (binOp .neq 42 (.agg #[.int .u64 a,.int .u64 b,.int .u64 c,.int .u64 d]) (.agg #[.int .u64 p,.int .u64 q,.int .u64 r,.int .u64 s])).run Tryz.prog w=.ok (.bool (!decide (a=p∧b=q∧c=r∧d=s))) w:=by
 rw[run_neq_struct,eqP_d 9998]
 rfl
theorem same_P (a b c d:Nat) (w:World):(binOp .neq 42 (.agg #[.int .u64 a,.int .u64 b,.int .u64 c,.int .u64 d]) (.agg #[.int .u64 a,.int .u64 b,.int .u64 c,.int .u64 d])).run Tryz.prog w=.ok (.bool false) w:=by
 rw[neqP,decide_eq_true ⟨rfl,rfl,rfl,rfl⟩]
 rfl
theorem other_P {a b c d p q r s:Nat} (h:¬ (a=p∧b=q∧c=r∧d=s)) (w:World):(binOp .neq 42 (.agg #[.int .u64 a,.int .u64 b,.int .u64 c,.int .u64 d]) (.agg #[.int .u64 p,.int .u64 q,.int .u64 r,.int .u64 s])).run Tryz.prog w=.ok (.bool true) w:=by
 rw[neqP,decide_eq_false h]
 rfl
theorem or_q (a b:Nat) (d:a<18446744073709551616):bits .or .u64 ((a/4:Nat):Int) ((b*4611686018427387904%18446744073709551616:Nat):Int)=((a/4+b*4611686018427387904%18446744073709551616:Nat):Int)∧a/4+b*4611686018427387904%18446744073709551616<18446744073709551616:=by
 have c:b*4611686018427387904%18446744073709551616=2^62*(b%4):=oM
 have k:=Nat.two_pow_add_eq_or_of_lt (i:=62) (b:=a/4) oM (b%4)
 rw[bits_or_u64_nat _ _ oM oM,c,Nat.or_comm,← k]
 omega
theorem quarter_any (x:Value) (m:Nat) (hx:Four x m) (w:World) :
 Calls Tryz.prog 201 #[x] w (Ret fun e w'=>Below w.heap.size w w'∧Four e (m/4)):=by
 obtain ⟨a,b,c,d,rfl,r,q,u,hd,j⟩:=id hx
 obtain ⟨f,p⟩:=or_q a b r
 obtain ⟨g,o⟩:=or_q b c q
 obtain ⟨i,l⟩:=or_q c d u
 have k:=quarter_eq a b c d
 rw[← j] at k
 have s0:(a:Int)/4=((a/4:Nat):Int):=oM
 have s1:(b:Int)/4=((b/4:Nat):Int):=oM
 have s2:(c:Int)/4=((c/4:Nat):Int):=oM
 have s3:(d:Int)/4=((d/4:Nat):Int):=oM
 have t1:IntKind.u64.wrap ((b:Int)*4611686018427387904)=((b*4611686018427387904%18446744073709551616:Nat):Int):=by rw[IntKind.wrap_u64];omega
 have t2:IntKind.u64.wrap ((c:Int)*4611686018427387904)=((c*4611686018427387904%18446744073709551616:Nat):Int):=by rw[IntKind.wrap_u64];omega
 have t:IntKind.u64.wrap ((d:Int)*4611686018427387904)=((d*4611686018427387904%18446744073709551616:Nat):Int):=by rw[IntKind.wrap_u64];omega
 have n:d/4<18446744073709551616:=oM
 generalize a/4+b*4611686018427387904%18446744073709551616=D at f p k
 generalize b/4+c*4611686018427387904%18446744073709551616=C at g o k
 generalize c/4+d*4611686018427387904%18446744073709551616=E at i l k
 generalize b*4611686018427387904%18446744073709551616=v1 at f t1
 generalize c*4611686018427387904%18446744073709551616=v2 at g t2
 generalize d*4611686018427387904%18446744073709551616=y at i t
 generalize a/4=z at f s0
 generalize b/4=B at g s1
 generalize c/4=A at i s2
 generalize d/4=F at s3 n k
 have s:Hid _:=k
 clear k j hx
 go_enter Tryz.func201,Tryz.ntmps201
 go_wp2
 refine bodyPost_ret (v:=?v) ?hr rfl ?hR
 case hr=>simp[results,Tryz.results201,go_sem];rfl
 exact ⟨_,rfl,below2 _ _ _,Four.mk p o l n s.symm⟩
theorem Odd_any (x:Value) (m:Nat) (hx:Four x m) (w:World) :
 Calls Tryz.prog 120 #[x] w (Ret fun e w'=>Below w.heap.size w w'∧e=.bool (decide (m%2=1))):=by
 obtain ⟨a,b,c,d,rfl,i,j,l,hd,f⟩:=id hx
 have ho:=and_one a i
 have g:m%2=a%2:=by rw[f];unfold val;omega
 rw[g]
 have k:a%2=0∨a%2=1:=oM
 rcases k with h|h
 ·rw[h] at ho ⊢
  go_enter Tryz.func120,Tryz.ntmps120
  go_wp2
  go_ret
  exact ⟨_,rfl,below1 _ _,rfl⟩
 ·rw[h] at ho ⊢
  go_enter Tryz.func120,Tryz.ntmps120
  go_wp2
  go_ret
  exact ⟨_,rfl,below1 _ _,rfl⟩
theorem rootS_of {w W:World} {k f o e a b c d i l m rd n g j:Nat} (h:Kept w k [⟨k,0,n,g,j,0⟩,⟨e,0,i,l,m,rd⟩,⟨f,0,a,b,c,d⟩,⟨o,0,0,0,0,0⟩] W):W.cell? ⟨k,0,none⟩=some (.int .u64 n)∧W.cell? ⟨k,1,none⟩=some (.int .u64 g)∧W.cell? ⟨k,2,none⟩=some (.int .u64 j)∧W.cell? ⟨k,3,none⟩=some (.int .u64 0)∧W.cell? ⟨e,0,none⟩=some (.int .u64 i)∧W.cell? ⟨e,1,none⟩=some (.int .u64 l)∧W.cell? ⟨e,2,none⟩=some (.int .u64 m)∧W.cell? ⟨e,3,none⟩=some (.int .u64 rd)∧W.cell? ⟨f,0,none⟩=some (.int .u64 a)∧W.cell? ⟨f,1,none⟩=some (.int .u64 b)∧W.cell? ⟨f,2,none⟩=some (.int .u64 c)∧W.cell? ⟨f,3,none⟩=some (.int .u64 d)∧Kept w k [⟨k,0,n,g,j,0⟩,⟨e,0,i,l,m,rd⟩,⟨f,0,a,b,c,d⟩,⟨o,0,0,0,0,0⟩] W:=
 ⟨h.head.c0,h.head.c1,h.head.c2,h.head.c3,h.tail.head.c0,h.tail.head.c1,h.tail.head.c2,h.tail.head.c3,h.tail.tail.head.c0,h.tail.tail.head.c1,h.tail.tail.head.c2,h.tail.tail.head.c3,h⟩
theorem four_ne {a b c d m n:Nat} {v:Value} (h:Four v n) (e:Four (.agg #[.int .u64 a,.int .u64 b,.int .u64 c,.int .u64 d]) m) (k:¬ n=m) :
 ∃ p q r s:Nat,v=.agg #[.int .u64 p,.int .u64 q,.int .u64 r,.int .u64 s]∧¬ (p=a∧q=b∧r=c∧s=d):=by
 obtain ⟨p,q,r,s,rfl,f⟩:=id h
 refine ⟨p,q,r,s,rfl,?_⟩
 rintro ⟨rfl,rfl,rfl,rfl⟩
 exact k (h.num e)
def even (P r:Nat):Nat:=if r%2=1 then P-r else r
def RootR (P m R:Nat) (e:Value):Prop:=∃ (b d c k:Nat) (ok:Bool),e=.tuple #[.agg #[.int .u64 b,.int .u64 d,.int .u64 c,.int .u64 k],.bool ok] ∧
 (ok=true→R*R%P=m∧Four (.agg #[.int .u64 b,.int .u64 d,.int .u64 c,.int .u64 k]) (even P R))∧(ok=false→¬ R*R%P=m)∧(ok=false→b=0∧d=0∧c=0∧k=0)
theorem RootR.yes {P m R b d c k:Nat} (h:R*R%P=m) (e:Four (.agg #[.int .u64 b,.int .u64 d,.int .u64 c,.int .u64 k]) (even P R)):RootR P m R (.tuple #[.agg #[.int .u64 b,.int .u64 d,.int .u64 c,.int .u64 k],.bool true]):=
 ⟨b,d,c,k,true,rfl,fun _=>⟨h,e⟩,fun h=>Bool.noConfusion h,fun h=>Bool.noConfusion h⟩
theorem RootR.no {P m R:Nat} (h:¬ R*R%P=m):RootR P m R (.tuple #[.agg #[.int .u64 0,.int .u64 0,.int .u64 0,.int .u64 0],.bool false]):=
 ⟨0,0,0,0,false,rfl,fun h=>Bool.noConfusion h,fun _=>h,fun _=>⟨rfl,rfl,rfl,rfl⟩⟩
theorem Root_any (o p n P:Nat) (x:Value) (m:Nat) (hG:Gap o p n P) (O:P/4%18446744073709551616<18446744073709551615) (hx:Four x m) (w:World) :
 Calls Tryz.prog 177 #[.agg #[.int .u64 o,.int .u64 p,.int .u64 n,.int .u64 0],x] w (Ret fun e w'=>Below w.heap.size w w'∧RootR P m (m^(P/4+1)%P) e):=by
 obtain ⟨a,b,c,d,rfl,ha,hb,hc,hd,em⟩:=id hx
 have HX:Hid (Four _ m):=hx
 have HG:Hid (Gap o p n P):=hG
 obtain ⟨R,hR⟩:∃ R,m^(P/4+1)%P=R:=⟨_,rfl⟩
 have h3:R<P:=by
  rw[← hR]
  refine Nat.mod_lt _ ?_
  have:=hG.hP2
  omega
 rw[hR]
 have hp:Hid (m^(P/4+1)%P=R):=hR
 have X:Hid (R<P):=h3
 clear em hx ha hb hc hd hG hR h3
 go_enter Tryz.func177,Tryz.ntmps177
 go_wp2_with fail
 have k:=kept3 w 78 42 42 o p n 0 a b c d 0 0 0 0
 simp only[Int.natCast_zero] at k
 generalize World.alloc _ _=W0 at k ⊢
 generalize h2:w.heap.size+1+1=K at k ⊢
 generalize h1:w.heap.size+1=r at k ⊢
 have Q2:Hid (w.heap.size≤K):=by unfold Hid;omega
 generalize h0:w.heap.size=i at k Q2 ⊢
 have H0:Hid (w.heap.size=i):=h0
 clear h0 h1 h2
 refine (PModulus_any o p n P HG.out _).mono ?_
 rintro e w1 ⟨v,rfl,f,F⟩
 obtain ⟨pa,pb,pc,pd,rfl,-⟩:=id F
 replace k:=k.call f
 clear f
 go_wp2_with fail
 refine (quarter_any _ _ F _).mono ?_
 rintro e w2 ⟨v,rfl,h4,h9⟩
 obtain ⟨qa,qb,qc,qd,rfl,hl,hg,hi,Z,eq⟩:=id h9
 replace k:=k.call h4
 clear h4 F h9
 have hq:qa<18446744073709551615:=by rw[eq] at O;unfold val at O;omega
 obtain ⟨qe,G⟩:∃ qe,qa+1=qe:=⟨_,rfl⟩
 have HE:Hid (Four (.agg #[.int .u64 qe,.int .u64 qb,.int .u64 qc,.int .u64 qd]) (P/4+1)):=by
  refine Four.mk oM hg hi Z ?_
  rw[eq,← G];unfold val;omega
 have Y:(qa:Int)+1=(qe:Int):=oM
 have hw:=wrapN qe oM
 clear hq eq O hl hg hi Z G
 obtain ⟨ht,hk,hu,hs,xf⟩:=k.tail.head.at4
 have zx:=k.tail.head.lt
 obtain ⟨V,U,L,S,pf⟩:=k.head.at4
 have zp:=k.head.lt
 have n1:r≠w2.heap.size:=Nat.ne_of_lt zx
 have n0:i≠w2.heap.size:=Nat.ne_of_lt zp
 go_wp2_with fail
 refine (power_any o p n P _ _ _ _ HG.out HX.out HE.out _).mono ?_
 rintro e H ⟨v,rfl,he,F⟩
 replace k:=(k.alloc _).call he
 clear he ht hk hu hs xf zx V U L S pf zp n0 n1 HE Y hw
 obtain ⟨D,C,y,rd,rfl,-⟩:=id F
 rw[hp.out] at F
 have T:Hid (Four _ R):=F
 clear F
 go_upto_region 4 with fail
 have h7:Kept w i [⟨i,0,o,p,n,0⟩,⟨H.heap.size,0,D,C,y,rd⟩,⟨r,0,a,b,c,d⟩,⟨K,0,0,0,0,0⟩] _:=((((Kept.mk1 (k.alloc (.cells #[.int .u64 D,.int .u64 C,.int .u64 y,.int .u64 rd] 42)).bl (k.alloc _).le).cons (k.alloc _).tail.tail.head).cons (k.alloc _).tail.head).cons (At4.made H 42 D C y rd rfl).blk).cons (x:=⟨i,0,o,p,n,0⟩) (k.alloc _).head |> fun h=>by exact h
 have hn:H.heap.size≠i:=Nat.ne_of_gt k.head.lt
 have h8:H.heap.size≠K:=Nat.ne_of_gt k.tail.tail.head.lt
 have hj:H.heap.size≠r:=Nat.ne_of_gt k.tail.head.lt
 have Q7:Hid (i≤H.heap.size):=k.le
 clear k
 have k:=h7
 clear h7
 generalize World.alloc _ _=W4 at k ⊢
 generalize H.heap.size=t at k hn hj h8 Q7 ⊢
 by_cases s:R*R%P=m
 ·have hm:=same_P a b c d
  go_region_held3 (fun w'=>w'.cell? ⟨i,0,none⟩=some (.int .u64 o)∧w'.cell? ⟨i,1,none⟩=some (.int .u64 p)∧w'.cell? ⟨i,2,none⟩=some (.int .u64 n)∧w'.cell? ⟨i,3,none⟩=some (.int .u64 0)∧w'.cell? ⟨t,0,none⟩=some (.int .u64 D)∧w'.cell? ⟨t,1,none⟩=some (.int .u64 C)∧w'.cell? ⟨t,2,none⟩=some (.int .u64 y)∧w'.cell? ⟨t,3,none⟩=some (.int .u64 rd)∧w'.cell? ⟨r,0,none⟩=some (.int .u64 a)∧w'.cell? ⟨r,1,none⟩=some (.int .u64 b)∧w'.cell? ⟨r,2,none⟩=some (.int .u64 c)∧w'.cell? ⟨r,3,none⟩=some (.int .u64 d)∧Kept w i [⟨i,0,o,p,n,0⟩,⟨t,0,D,C,y,rd⟩,⟨r,0,a,b,c,d⟩,⟨K,0,0,0,0,0⟩] w') (first|(with_reducible exact rootS_of k)|(with_reducible exact rootS_of k.drew)|fail) (first|(go_at_call 51;refine (Times_any o p n P _ _ _ _ HG.out T.out T.out _).mono ?_;rintro e w5 ⟨v,rfl,f,q⟩;rw[s] at q;obtain rfl:=q.inj HX.out;clear q;(first|(with_reducible (have l:=k.drew.call f))|(with_reducible (have l:=k.call f))|fail);clear k f;have k:=l;clear l))
  have z:Hid (R*R%P=m):=s
  clear s
  rename_i hHeld
  clear hHeld
  obtain ⟨u,A,B,E,tf⟩:=k.tail.head.at4
  have zt:=k.tail.head.lt
  go_wp2_with fail
  clear u A B E tf zt
  refine (Odd_any _ _ T.out _).mono ?_
  rintro e w6 ⟨v,rfl,h5,rfl⟩
  replace k:=k.call h5
  clear h5
  obtain ⟨u,A,B,E,tf⟩:=k.tail.head.at4
  have zt:=k.tail.head.lt
  obtain ⟨Q,W,J,N,uf⟩:=k.tail.tail.tail.head.at4
  have zu:=k.tail.tail.tail.head.lt
  by_cases g:R%2=1
  ·have hd:decide (R%2=1)=true:=decide_eq_true g
   rw[hd]
   have HO:Hid (R%2=1):=g
   clear hd g
   obtain ⟨V,U,L,S,pf⟩:=k.head.at4
   have zp:=k.head.lt
   go_wp2_with fail
   refine (Minus_any o p n P _ _ 0 _ HG.out (Four.mk (a:=0) (b:=0) (c:=0) (d:=0) dC dC dC dC rfl) T.out (by have:=X.out;omega) X.out _).mono ?_
   rintro e w8 ⟨v,rfl,h6,I⟩
   obtain ⟨sa,sb,sc,sd,rfl,-⟩:=id I
   have M:Hid (Four (.agg #[.int .u64 sa,.int .u64 sb,.int .u64 sc,.int .u64 sd]) (even P R)):=by
    have h1:(0+P-R)%P=even P R:=by
     unfold even
     rw[if_pos HO.out,Nat.zero_add]
     exact Nat.mod_eq_of_lt (by have:=X.out;have:=HO.out;omega)
    unfold Hid
    rw[← h1]
    exact I
   replace k:=k.call h6
   clear h6 I u A B E tf zt Q W J N uf zu V U L S pf zp
   obtain ⟨u,A,B,E,tf⟩:=k.tail.head.at4
   have zt:=k.tail.head.lt
   obtain ⟨Q,W,J,N,uf⟩:=k.tail.tail.tail.head.at4
   have zu:=k.tail.tail.tail.head.lt
   go_wp2
   have j:=(k.tail.tail.tail.head.at4.other4 h8 (.int .u64 sa) (.int .u64 sb) (.int .u64 sc) (.int .u64 sd)).self4 sa sb sc sd
   unfold set4 at j
   refine bodyPost_ret (v:=?v) ?hr rfl ?hR
   case hr=>simp[results,Tryz.results177,go_sem,j.c0,j.c1,j.c2,j.c3];rfl
   refine ⟨_,rfl,?_,RootR.yes z.out M.out⟩
   rw[H0.out]
   exact below_set4 (below_set4 k.bl Q7.out _ _ _ _) Q2.out _ _ _ _
  ·have hd:decide (R%2=1)=false:=decide_eq_false g
   rw[hd]
   have M:Hid (Four (.agg #[.int .u64 D,.int .u64 C,.int .u64 y,.int .u64 rd]) (even P R)):=by
    have h1:even P R=R:=by unfold even;rw[if_neg g]
    unfold Hid
    rw[h1]
    exact T.out
   clear hd g
   go_wp2
   have j:=k.tail.tail.tail.head.at4.self4 D C y rd
   unfold set4 at j
   refine bodyPost_ret (v:=?v2) ?hr2 rfl ?hR2
   case hr2=>simp[results,Tryz.results177,go_sem,j.c0,j.c1,j.c2,j.c3];rfl
   refine ⟨_,rfl,?_,RootR.yes z.out M.out⟩
   rw[H0.out]
   exact below_set4 k.bl Q2.out _ _ _ _
 ·go_region_held3 (fun w'=>w'.cell? ⟨i,0,none⟩=some (.int .u64 o)∧w'.cell? ⟨i,1,none⟩=some (.int .u64 p)∧w'.cell? ⟨i,2,none⟩=some (.int .u64 n)∧w'.cell? ⟨i,3,none⟩=some (.int .u64 0)∧w'.cell? ⟨t,0,none⟩=some (.int .u64 D)∧w'.cell? ⟨t,1,none⟩=some (.int .u64 C)∧w'.cell? ⟨t,2,none⟩=some (.int .u64 y)∧w'.cell? ⟨t,3,none⟩=some (.int .u64 rd)∧w'.cell? ⟨r,0,none⟩=some (.int .u64 a)∧w'.cell? ⟨r,1,none⟩=some (.int .u64 b)∧w'.cell? ⟨r,2,none⟩=some (.int .u64 c)∧w'.cell? ⟨r,3,none⟩=some (.int .u64 d)∧Kept w i [⟨i,0,o,p,n,0⟩,⟨t,0,D,C,y,rd⟩,⟨r,0,a,b,c,d⟩,⟨K,0,0,0,0,0⟩] w') (first|(with_reducible exact rootS_of k)|(with_reducible exact rootS_of k.drew)|fail) (first|(go_at_call 51;refine (Times_any o p n P _ _ _ _ HG.out T.out T.out _).mono ?_;rintro e w5 ⟨v,rfl,f,q⟩;obtain ⟨A,B,I,E,rfl,g⟩:=four_ne q HX.out s;have u:=other_P g;clear q;(first|(with_reducible (have l:=k.drew.call f))|(with_reducible (have l:=k.call f))|fail);clear k f;have k:=l;clear l))
  have z:Hid (¬ R*R%P=m):=s
  clear s
  rename_i hHeld
  clear hHeld
  obtain ⟨Q,W,J,N,uf⟩:=k.tail.tail.tail.head.at4
  have zu:=k.tail.tail.tail.head.lt
  go_wp2
  have j:At4 (set4 w5 K (.int .u64 0) (.int .u64 0) (.int .u64 0) (.int .u64 0)) K 0 0 0 0:=k.tail.tail.tail.head.at4.self4 0 0 0 0
  unfold set4 at j
  refine bodyPost_ret (v:=?v3) ?hr3 rfl ?hR3
  case hr3=>simp[results,Tryz.results177,go_sem,j.c0,j.c1,j.c2,j.c3];rfl
  refine ⟨_,rfl,?_,RootR.no z.out⟩
  rw[H0.out]
  exact below_set4 k.bl Q2.out _ _ _ _
end
section
open Go.RowKit Go.Sort
def wn (n:Nat):List Value:=[.int .u64 ((n%18446744073709551616:Nat):Int),.int .u64 ((n/18446744073709551616%18446744073709551616:Nat):Int),.int .u64 ((n/340282366920938463463374607431768211456%18446744073709551616:Nat):Int),.int .u64 ((n/6277101735386680763835789423207666416102355444464034512896%18446744073709551616:Nat):Int)]
def nv (n:Nat):Value:=.agg (wn n).toArray
theorem four_nv {n:Nat} (h:n<top):Four (nv n) n:=by
 refine ⟨n%18446744073709551616,n/18446744073709551616%18446744073709551616,n/340282366920938463463374607431768211456%18446744073709551616,n/6277101735386680763835789423207666416102355444464034512896%18446744073709551616,rfl,?_,?_,?_,?_,?_⟩
 ·omega
 ·omega
 ·omega
 ·omega
 ·unfold val;unfold top at h;omega
theorem Four.nv {v:Value} {n:Nat} (h:Four v n):v=Go.Proofs.YtlofhpkoaljmeaaGreat.nv n:=h.inj (four_nv h.lt)
variable {P:Nat} [NeZero P]
abbrev ws (x:Fin P):List Value:=wn x.val
abbrev fv (x:Fin P):Value:=nv x.val
def pv (x y:Fin P):Value:=.agg (ws x++ws y).toArray
def rv (x y z:Fin P):Value:=.agg (ws x++(ws y++ws z)).toArray
def Gives (f:FuncId) (args:Array Value) (v:Value):Prop:=∀ w,Calls Tryz.prog f args w (Ret fun e w'=>Below w.heap.size w w'∧e=v)
structure Fld (P:Nat) [NeZero P]:Prop where
 gap:Gap 4294968273 0 0 P
 cur:EC.Cur P
 p2:2≤P%18446744073709551616
 p4:P/4%18446744073709551616<18446744073709551615
 p3:P%4=3
 p7:7<P
theorem Fld.top (h:Fld P) (x:Fin P):x.val<top:=by have:=h.gap.hP;have:=x.isLt;omega
theorem Fld.four (h:Fld P) (x:Fin P):Four (fv x) x.val:=four_nv (h.top x)
theorem zero_fv:(Value.agg #[.int .u64 0,.int .u64 0,.int .u64 0,.int .u64 0])=fv (0:Fin P):=by
 have h:Four (Value.agg #[.int .u64 0,.int .u64 0,.int .u64 0,.int .u64 0]) (0:Fin P).val:=by
  rw[EC.val_zero]
  exact Four.mk (a:=0) (b:=0) (c:=0) (d:=0) dC dC dC dC rfl
 exact h.nv
theorem one_fv (h:Fld P):(Value.agg #[.int .u64 1,.int .u64 0,.int .u64 0,.int .u64 0])=fv (1:Fin P):=by
 have h:Four (Value.agg #[.int .u64 1,.int .u64 0,.int .u64 0,.int .u64 0]) (1:Fin P).val:=by
  rw[EC.val_one h.cur.pr]
  exact Four.mk (a:=1) (b:=0) (c:=0) (d:=0) dC dC dC dC rfl
 exact h.nv
theorem Coordinates_c:Gives 118 #[] gv0:=fun w=>(Coordinates_any w).mono (by rintro e w' ⟨rfl,rfl⟩;exact ⟨_,rfl,below1 _ _,rfl⟩)
theorem sum_c (h:Fld P) (x y:Fin P):Gives 98 #[gv0,fv x,fv y] (fv (x+y)):=fun w =>
 (sum_any 4294968273 0 0 P _ _ x.val y.val h.gap (h.four x) (h.four y) x.isLt y.isLt w).mono (by
  rintro e w' ⟨v,rfl,k,b⟩
  exact ⟨_,rfl,k,b.nv⟩)
omit [NeZero P] in
theorem sub_fin (x y:Fin P):(x.val+P-y.val)%P=(x-y).val:=by
 rw[Fin.sub_def]
 show _=(P-y.val+x.val)%P
 congr 1
 have:=y.isLt
 omega
theorem difference_c (h:Fld P) (x y:Fin P):Gives 178 #[gv0,fv x,fv y] (fv (x-y)):=fun w =>
 (difference_any 4294968273 0 0 P _ _ x.val y.val h.gap (h.four x) (h.four y) x.isLt y.isLt w).mono (by
  rintro e w' ⟨v,rfl,b,k⟩
  rw[sub_fin] at k
  exact ⟨_,rfl,b,k.nv⟩)
theorem product_c (h:Fld P) (x y:Fin P):Gives 100 #[gv0,fv x,fv y] (fv (x*y)):=fun w =>
 (product_any 4294968273 0 0 P _ _ x.val y.val h.gap (h.four x) (h.four y) w).mono (by
  rintro e w' ⟨v,rfl,k,b⟩
  exact ⟨_,rfl,k,b.nv⟩)
theorem four_c (h:Fld P) (x:Fin P):Gives 55 #[fv x] (fv x):=fun w=>(four_any _ _ (h.four x) w).mono (by rintro e w' ⟨v,rfl,k,rfl⟩;exact ⟨_,rfl,k,rfl⟩)
theorem number_c (h:Fld P) (x:Fin P):Gives 99 #[fv x] (fv x):=fun w=>(number_any _ _ (h.four x) w).mono (by rintro e w' ⟨v,rfl,k,rfl⟩;exact ⟨_,rfl,k,rfl⟩)
theorem PTimes_c (h:Fld P) (x y:Fin P):Gives 51 #[gv0,fv x,fv y] (fv (x*y)):=fun w =>
 (Times_any 4294968273 0 0 P _ _ x.val y.val h.gap (h.four x) (h.four y) w).mono (by
  rintro e w' ⟨v,rfl,k,b⟩
  exact ⟨_,rfl,k,b.nv⟩)
theorem PPlus_c (h:Fld P) (x y:Fin P):Gives 50 #[gv0,fv x,fv y] (fv (x+y)):=fun w =>
 (Plus_any 4294968273 0 0 P _ _ x.val y.val h.gap (h.four x) (h.four y) x.isLt y.isLt w).mono (by
  rintro e w' ⟨v,rfl,k,b⟩
  exact ⟨_,rfl,k,b.nv⟩)
theorem PMinus_c (h:Fld P) (x y:Fin P):Gives 121 #[gv0,fv x,fv y] (fv (x-y)):=fun w =>
 (Minus_any 4294968273 0 0 P _ _ x.val y.val h.gap (h.four x) (h.four y) x.isLt y.isLt w).mono (by
  rintro e w' ⟨v,rfl,b,k⟩
  rw[sub_fin] at k
  exact ⟨_,rfl,b,k.nv⟩)
theorem seven_fv (h:Fld P):(Value.agg #[.int .u64 7,.int .u64 0,.int .u64 0,.int .u64 0])=fv (7:Fin P):=by
 have h:Four (Value.agg #[.int .u64 7,.int .u64 0,.int .u64 0,.int .u64 0]) (7:Fin P).val:=by
  have k:(7:Fin P).val=7%P:=rfl
  rw[k,Nat.mod_eq_of_lt h.p7]
  exact Four.mk (a:=7) (b:=0) (c:=0) (d:=0) dC dC dC dC rfl
 exact h.nv
theorem ws_zero:([.int .u64 0,.int .u64 0,.int .u64 0,.int .u64 0]:List Value)=ws (0:Fin P):=by
 have h:=zero_fv (P:=P)
 unfold nv at h
 injection h with h
 exact congrArg Array.toList h
theorem zero_pv:(Value.agg #[.int .u64 0,.int .u64 0,.int .u64 0,.int .u64 0,.int .u64 0,.int .u64 0,.int .u64 0,.int .u64 0])=pv (0:Fin P) 0:=by
 unfold pv
 rw[← ws_zero]
 rfl
theorem zero_rv:(Value.agg #[.int .u64 0,.int .u64 0,.int .u64 0,.int .u64 0,.int .u64 0,.int .u64 0,.int .u64 0,.int .u64 0,.int .u64 0,.int .u64 0,.int .u64 0,.int .u64 0])=rv (0:Fin P) 0 0:=by
 unfold rv
 rw[← ws_zero]
 rfl
theorem Inverse_c (h:Fld P) (x:Fin P):Gives 174 #[gv0,fv x] (fv (EC.inv x)):=fun w =>
 (Inverse_any 4294968273 0 0 P _ x.val h.gap h.p2 (h.four x) w).mono (by
  rintro e w' ⟨v,rfl,k,b⟩
  exact ⟨_,rfl,k,b.nv⟩)
end
section
open Go.RowKit Go.Sort
variable {P:Nat} [NeZero P] {N:Nat}
omit [NeZero P] in
theorem Gives.e {f:FuncId} {args:Array Value} {x c:Fin P} (h:Gives f args (fv x)) (e:c=x):Gives f args (fv c):=e ▸ h
omit [NeZero P] in
theorem Gives.e3 {f:FuncId} {args:Array Value} {x y z a b c:Fin P} (h:Gives f args (rv x y z)) (e:a=x) (e':b=y) (k:c=z):Gives f args (rv a b c):=e ▸ e' ▸ k ▸ h
theorem eqW (a b c d p q r s:Int) (w:World):(binOp .eql 209 (.agg #[.int .u64 a,.int .u64 b,.int .u64 c,.int .u64 d]) (.agg #[.int .u64 p,.int .u64 q,.int .u64 r,.int .u64 s])).run Tryz.prog w=.ok (.bool (decide (a=p∧b=q∧c=r∧d=s))) w:=by
 go_simp
 by_cases e:a=p<;>by_cases g:b=q<;>by_cases k:c=r<;>by_cases f:d=s<;>simp[e,g,k,f]
theorem wn_inj {m n:Nat} (b:m<top) (k:n<top):(m%18446744073709551616=n%18446744073709551616∧m/18446744073709551616%18446744073709551616=n/18446744073709551616%18446744073709551616∧m/340282366920938463463374607431768211456%18446744073709551616=n/340282366920938463463374607431768211456%18446744073709551616∧m/6277101735386680763835789423207666416102355444464034512896%18446744073709551616=n/6277101735386680763835789423207666416102355444464034512896%18446744073709551616)↔m=n:=by
 constructor
 ·rintro ⟨d,f,c,e⟩
  unfold top at b k
  omega
 ·rintro rfl
  exact ⟨rfl,rfl,rfl,rfl⟩
theorem eqC (h:Fld P) (x y:Fin P) (w:World):(binOp .eql 209 (fv x) (fv y)).run Tryz.prog w=.ok (.bool (decide (x=y))) w:=by
 have b:=eqW ((x.val%18446744073709551616:Nat):Int) ((x.val/18446744073709551616%18446744073709551616:Nat):Int) ((x.val/340282366920938463463374607431768211456%18446744073709551616:Nat):Int) ((x.val/6277101735386680763835789423207666416102355444464034512896%18446744073709551616:Nat):Int) ((y.val%18446744073709551616:Nat):Int) ((y.val/18446744073709551616%18446744073709551616:Nat):Int) ((y.val/340282366920938463463374607431768211456%18446744073709551616:Nat):Int) ((y.val/6277101735386680763835789423207666416102355444464034512896%18446744073709551616:Nat):Int) w
 refine b.trans ?_
 have k:=wn_inj (h.top x) (h.top y)
 simp only[Int.ofNat_inj,k,← Fin.ext_iff]
theorem eqC_t (h:Fld P) {x y:Fin P} (e:x=y) (w:World):(binOp .eql 209 (fv x) (fv y)).run Tryz.prog w=.ok (.bool true) w:=by rw[eqC h,decide_eq_true e]
theorem eqC_f (h:Fld P) {x y:Fin P} (e:¬ x=y) (w:World):(binOp .eql 209 (fv x) (fv y)).run Tryz.prog w=.ok (.bool false) w:=by rw[eqC h,decide_eq_false e]
theorem eqPt2 (a b c d p q r s j l o m n i f g:Nat) (w:World):(binOp .eql 131 (.agg #[.int .u64 a,.int .u64 b,.int .u64 c,.int .u64 d,.int .u64 j,.int .u64 l,.int .u64 o,.int .u64 m]) (.agg #[.int .u64 p,.int .u64 q,.int .u64 r,.int .u64 s,.int .u64 n,.int .u64 i,.int .u64 f,.int .u64 g])).run Tryz.prog w=.ok (.bool (decide (a=p∧b=q∧c=r∧d=s) && decide (j=n∧l=i∧o=f∧m=g))) w:=by
 go_simp
 rw[eqP_d 9997,Result.andThen_ok]
 by_cases e:a=p∧b=q∧c=r∧d=s
 ·rw[decide_eq_true e]
  simp only[Bool.true_eq_false,if_false]
  rw[eqP_d 9997,Result.andThen_ok]
  by_cases k:j=n∧l=i∧o=f∧m=g
  ·rw[decide_eq_true k]
   simp[e.1,e.2.1,e.2.2.1,e.2.2.2,k.1,k.2.1,k.2.2.1,k.2.2.2]
  ·rw[decide_eq_false k]
   simp only[if_true,Result.andThen_ok]
   have t:(decide (j=n) && (decide (l=i) && (decide (o=f) && decide (m=g))))=false:=by simpa using k
   rw[t,Bool.and_false]
 ·rw[decide_eq_false e]
  simp only[if_true,Result.andThen_ok]
  have t:(decide (a=p) && (decide (b=q) && (decide (c=r) && decide (d=s))))=false:=by simpa using e
  rw[t,Bool.false_and]
theorem eqPt (h:Fld P) (x y z t:Fin P) (w:World):(binOp .eql 131 (pv x y) (pv z t)).run Tryz.prog w=.ok (.bool (decide (x=z∧y=t))) w:=by
 refine (eqPt2 (x.val%18446744073709551616) (x.val/18446744073709551616%18446744073709551616) (x.val/340282366920938463463374607431768211456%18446744073709551616) (x.val/6277101735386680763835789423207666416102355444464034512896%18446744073709551616) (z.val%18446744073709551616) (z.val/18446744073709551616%18446744073709551616) (z.val/340282366920938463463374607431768211456%18446744073709551616) (z.val/6277101735386680763835789423207666416102355444464034512896%18446744073709551616) (y.val%18446744073709551616) (y.val/18446744073709551616%18446744073709551616) (y.val/340282366920938463463374607431768211456%18446744073709551616) (y.val/6277101735386680763835789423207666416102355444464034512896%18446744073709551616) (t.val%18446744073709551616) (t.val/18446744073709551616%18446744073709551616) (t.val/340282366920938463463374607431768211456%18446744073709551616) (t.val/6277101735386680763835789423207666416102355444464034512896%18446744073709551616) w).trans ?_
 simp only[wn_inj (h.top x) (h.top z),wn_inj (h.top y) (h.top t),← Fin.ext_iff,Bool.decide_and]
theorem eqPt_t (h:Fld P) {x y z t:Fin P} (e:x=z∧y=t) (w:World):(binOp .eql 131 (pv x y) (pv z t)).run Tryz.prog w=.ok (.bool true) w:=by rw[eqPt h,decide_eq_true e]
theorem eqPt_f (h:Fld P) {x y z t:Fin P} (e:¬ (x=z∧y=t)) (w:World):(binOp .eql 131 (pv x y) (pv z t)).run Tryz.prog w=.ok (.bool false) w:=by rw[eqPt h,decide_eq_false e]
theorem u115:(Tryz.prog.underlying 209).map (·.isRow)=some true:=kR
theorem i115:(Tryz.prog.info? 209).map (·.size)=some 4:=kR
theorem u85:(Tryz.prog.underlying 42).map (·.isRow)=some true:=kR
theorem i85:(Tryz.prog.info? 42).map (·.size)=some 4:=kR
theorem u117:(Tryz.prog.underlying 211).map (·.isRow)=some true:=kR
theorem i117:(Tryz.prog.info? 211).map (·.size)=some 12:=kR
theorem u109:(Tryz.prog.underlying 131).map (·.isRow)=some true:=kR
theorem i109:(Tryz.prog.info? 131).map (·.size)=some 8:=kR
theorem u79:(Tryz.prog.underlying 78).map (·.isRow)=some true:=kR
theorem i79:(Tryz.prog.info? 78).map (·.size)=some 4:=kR
theorem CTimes_c (C:Fld P) (x y:Fin P):Gives 168 #[(fv x),(fv y)] (fv (x*y)):=by
 intro w
 obtain ⟨c1,d⟩:∃ c,c=x*y:=⟨_,rfl⟩
 have k:((fv c1):Value)=(fv (x*y)):=by
  subst_vars;rfl
 rw[← k]
 go_enter Tryz.func168,Tryz.ntmps168
 refine RG.M.enter [(0,(.v (fv x))),(1,(.v (fv y)))] 9 kR ?_
 intro a0 f
 repeat refine wp_seq ?_
 refine f.T [.m 0,.m 1,.m 2] [(0,(ws x)),(1,(ws y)),(2,(RG.z 4))] [] [(ws x),(ws y),(RG.z 4)] [2,3,4] ⟨RG.mk 0 209,RG.mk 1 209,RG.mk 2 209,trivial⟩ ?_
 intro j n l m g e
 repeat refine wp_seq ?_
 refine e.D [.c gv0,.x (fv x),.x (fv y),.c (fv c1),.u 2] [] [(2,4,(ws c1))] [(ws x),(ws y),(ws c1)] [4] ⟨RG.cl (Coordinates_c),RG.ld u115 i115,RG.ld u115 i115,RG.cl ((product_c C x y).e d),RG.pt i115,trivial⟩ ?_
 intro a2 i b
 refine wp_ret ?_
 refine bodyPost_ret (v:=(fv c1)) (RG.results_row b.st 4 209 rfl 2 _ rfl (b.at (s:=(.p 2 0))) u115 i115) b.sl.defers ?_
 exact ⟨_,rfl,b.st.bel.below,rfl⟩
theorem CPlus_c (C:Fld P) (x y:Fin P):Gives 170 #[(fv x),(fv y)] (fv (x+y)):=by
 intro w
 obtain ⟨c1,d⟩:∃ c,c=x+y:=⟨_,rfl⟩
 have k:((fv c1):Value)=(fv (x+y)):=by
  subst_vars;rfl
 rw[← k]
 go_enter Tryz.func170,Tryz.ntmps170
 refine RG.M.enter [(0,(.v (fv x))),(1,(.v (fv y)))] 9 kR ?_
 intro a0 f
 repeat refine wp_seq ?_
 refine f.T [.m 0,.m 1,.m 2] [(0,(ws x)),(1,(ws y)),(2,(RG.z 4))] [] [(ws x),(ws y),(RG.z 4)] [2,3,4] ⟨RG.mk 0 209,RG.mk 1 209,RG.mk 2 209,trivial⟩ ?_
 intro j n l m g e
 repeat refine wp_seq ?_
 refine e.D [.c gv0,.x (fv x),.x (fv y),.c (fv c1),.u 2] [] [(2,4,(ws c1))] [(ws x),(ws y),(ws c1)] [4] ⟨RG.cl (Coordinates_c),RG.ld u115 i115,RG.ld u115 i115,RG.cl ((sum_c C x y).e d),RG.pt i115,trivial⟩ ?_
 intro a2 i b
 refine wp_ret ?_
 refine bodyPost_ret (v:=(fv c1)) (RG.results_row b.st 4 209 rfl 2 _ rfl (b.at (s:=(.p 2 0))) u115 i115) b.sl.defers ?_
 exact ⟨_,rfl,b.st.bel.below,rfl⟩
theorem CMinus_c (C:Fld P) (x y:Fin P):Gives 171 #[(fv x),(fv y)] (fv (x-y)):=by
 intro w
 obtain ⟨c1,d⟩:∃ c,c=x-y:=⟨_,rfl⟩
 have k:((fv c1):Value)=(fv (x-y)):=by
  subst_vars;rfl
 rw[← k]
 go_enter Tryz.func171,Tryz.ntmps171
 refine RG.M.enter [(0,(.v (fv x))),(1,(.v (fv y)))] 9 kR ?_
 intro a0 f
 repeat refine wp_seq ?_
 refine f.T [.m 0,.m 1,.m 2] [(0,(ws x)),(1,(ws y)),(2,(RG.z 4))] [] [(ws x),(ws y),(RG.z 4)] [2,3,4] ⟨RG.mk 0 209,RG.mk 1 209,RG.mk 2 209,trivial⟩ ?_
 intro j n l m g e
 repeat refine wp_seq ?_
 refine e.D [.c gv0,.x (fv x),.x (fv y),.c (fv c1),.u 2] [] [(2,4,(ws c1))] [(ws x),(ws y),(ws c1)] [4] ⟨RG.cl (Coordinates_c),RG.ld u115 i115,RG.ld u115 i115,RG.cl ((difference_c C x y).e d),RG.pt i115,trivial⟩ ?_
 intro a2 i b
 refine wp_ret ?_
 refine bodyPost_ret (v:=(fv c1)) (RG.results_row b.st 4 209 rfl 2 _ rfl (b.at (s:=(.p 2 0))) u115 i115) b.sl.defers ?_
 exact ⟨_,rfl,b.st.bel.below,rfl⟩
theorem Coord_c (C:Fld P) (x:Fin P):Gives 176 #[(fv x)] (fv x):=by
 intro w
 go_enter Tryz.func176,Tryz.ntmps176
 refine RG.M.enter [(0,(.v (fv x)))] 5 kR ?_
 intro a0 b
 repeat refine wp_seq ?_
 refine b.T [.m 0,.m 1] [(0,(ws x)),(1,(RG.z 4))] [] [(ws x),(RG.z 4)] [1,2] ⟨RG.mk 0 42,RG.mk 1 209,trivial⟩ ?_
 intro i e g d c
 repeat refine wp_seq ?_
 refine c.T [.x (fv x),.c (fv x),.u 1] [] [(1,2,(ws x))] [(ws x),(ws x)] [2] ⟨RG.ld u85 i85,RG.cl (four_c C x),RG.pt i115,trivial⟩ ?_
 intro a2 f k
 refine wp_ret ?_
 refine bodyPost_ret (v:=(fv x)) (RG.results_row k.st 2 209 rfl 1 _ rfl (k.at (s:=(.p 1 0))) u115 i115) k.sl.defers ?_
 exact ⟨_,rfl,k.st.bel.below,rfl⟩
theorem Numb_c (C:Fld P) (x:Fin P):Gives 175 #[(fv x)] (fv x):=by
 intro w
 go_enter Tryz.func175,Tryz.ntmps175
 refine RG.M.enter [(0,(.v (fv x)))] 5 kR ?_
 intro a0 b
 repeat refine wp_seq ?_
 refine b.T [.m 0,.m 1] [(0,(ws x)),(1,(RG.z 4))] [] [(ws x),(RG.z 4)] [1,2] ⟨RG.mk 0 209,RG.mk 1 42,trivial⟩ ?_
 intro i e g d c
 repeat refine wp_seq ?_
 refine c.T [.x (fv x),.c (fv x),.u 1] [] [(1,2,(ws x))] [(ws x),(ws x)] [2] ⟨RG.ld u115 i115,RG.cl (number_c C x),RG.pt i85,trivial⟩ ?_
 intro a2 f k
 refine wp_ret ?_
 refine bodyPost_ret (v:=(fv x)) (RG.results_row k.st 2 42 rfl 1 _ rfl (k.at (s:=(.p 1 0))) u85 i85) k.sl.defers ?_
 exact ⟨_,rfl,k.st.bel.below,rfl⟩
theorem double_c (C:Fld P) (x:Fin P):Gives 169 #[(fv x)] (fv (EC.dbl x)):=by
 intro w
 obtain ⟨c1,d⟩:∃ c,c=x+x:=⟨_,rfl⟩
 have k:((fv c1):Value)=(fv (EC.dbl x)):=by
  subst_vars;rfl
 rw[← k]
 go_enter Tryz.func169,Tryz.ntmps169
 refine RG.M.enter [(0,(.v (fv x)))] 6 kR ?_
 intro a0 e
 repeat refine wp_seq ?_
 refine e.T [.m 0,.m 1] [(0,(ws x)),(1,(RG.z 4))] [] [(ws x),(RG.z 4)] [1,2] ⟨RG.mk 0 209,RG.mk 1 209,trivial⟩ ?_
 intro m i l g f
 repeat refine wp_seq ?_
 refine f.T [.x (fv x),.x (fv x),.c (fv c1),.u 1] [] [(1,3,(ws c1))] [(ws x),(ws c1)] [2] ⟨RG.ld u115 i115,RG.ld u115 i115,RG.cl ((CPlus_c C x x).e d),RG.pt i115,trivial⟩ ?_
 intro a2 j b
 refine wp_ret ?_
 refine bodyPost_ret (v:=(fv c1)) (RG.results_row b.st 2 209 rfl 1 _ rfl (b.at (s:=(.p 1 0))) u115 i115) b.sl.defers ?_
 exact ⟨_,rfl,b.st.bel.below,rfl⟩
theorem twice_c (C:Fld P) (x y z:Fin P):Gives 113 #[(rv x y z)] (rv (EC.twX x y) (EC.twY x y) (EC.twZ y z)):=by
 intro w
 obtain ⟨c1,Q⟩:∃ c,c=x*x:=⟨_,rfl⟩
 obtain ⟨c2,U⟩:∃ c,c=y*y:=⟨_,rfl⟩
 obtain ⟨J,T⟩:∃ c,c=x*c2:=⟨_,rfl⟩
 obtain ⟨N,R⟩:∃ c,c=EC.dbl J:=⟨_,rfl⟩
 obtain ⟨f,L⟩:∃ c,c=EC.dbl N:=⟨_,rfl⟩
 obtain ⟨S,M⟩:∃ c,c=EC.dbl c1:=⟨_,rfl⟩
 obtain ⟨d,I⟩:∃ c,c=S+c1:=⟨_,rfl⟩
 obtain ⟨H,V⟩:∃ c,c=d*d:=⟨_,rfl⟩
 obtain ⟨O,K⟩:∃ c,c=EC.dbl f:=⟨_,rfl⟩
 obtain ⟨k,E⟩:∃ c,c=H-O:=⟨_,rfl⟩
 obtain ⟨j,a⟩:∃ c,c=f-k:=⟨_,rfl⟩
 obtain ⟨g,u⟩:∃ c,c=d*j:=⟨_,rfl⟩
 obtain ⟨m,q⟩:∃ c,c=c2*c2:=⟨_,rfl⟩
 obtain ⟨o,B⟩:∃ c,c=EC.dbl m:=⟨_,rfl⟩
 obtain ⟨l,p⟩:∃ c,c=EC.dbl o:=⟨_,rfl⟩
 obtain ⟨n,D⟩:∃ c,c=EC.dbl l:=⟨_,rfl⟩
 obtain ⟨b,t⟩:∃ c,c=g-n:=⟨_,rfl⟩
 obtain ⟨i,r⟩:∃ c,c=y*z:=⟨_,rfl⟩
 obtain ⟨e,F⟩:∃ c,c=EC.dbl i:=⟨_,rfl⟩
 have A:((rv k b e):Value)=(rv (EC.twX x y) (EC.twY x y) (EC.twZ y z)):=by
  subst_vars;rfl
 rw[← A]
 go_enter Tryz.func113,Tryz.ntmps113
 refine RG.M.enter [(0,(.v (rv x y z)))] 56 kR ?_
 intro a0 M0
 repeat refine wp_seq ?_
 refine M0.T [.m 0,.m 1] [(0,(ws x++(ws y++(ws z)))),(1,(RG.z 12))] [] [(ws x++(ws y++(ws z))),(RG.z 12)] [1,2] ⟨RG.mk 0 211,RG.mk 1 211,trivial⟩ ?_
 intro j1 i1 a1 w1 X
 repeat refine wp_seq ?_
 refine X.D [.s (.p 0 0),.x (fv x),.s (.p 0 0),.x (fv x),.c (fv c1),.s (.p 0 4),.x (fv y),.s (.p 0 4),.x (fv y),.c (fv c2),.m 2,.m 3,.u 2,.u 3] [(10,(RG.z 4)),(11,(RG.z 4))] [(2,12,(ws c1)),(3,13,(ws c2))] [(ws x++(ws y++(ws z))),(RG.z 12),(ws c1),(ws c2)] [1,2,3,4] ⟨RG.st,RG.ld u115 i115,RG.st,RG.ld u115 i115,RG.cl ((CTimes_c C x x).e Q),RG.st,RG.ld u115 i115,RG.st,RG.ld u115 i115,RG.cl ((CTimes_c C y y).e U),RG.mk 2 209,RG.mk 3 209,RG.pt i115,RG.pt i115,trivial⟩ ?_
 intro j2 i2 a2 w2 W
 repeat refine wp_seq ?_
 refine W.T [.s (.p 0 0),.x (fv x),.x (fv c2),.c (fv J),.c (fv N),.c (fv f),.m 4,.u 4] [(6,(RG.z 4))] [(4,7,(ws f))] [(ws x++(ws y++(ws z))),(RG.z 12),(ws c1),(ws c2),(ws f)] [1,2,3,4,5] ⟨RG.st,RG.ld u115 i115,RG.ld u115 i115,RG.cl ((CTimes_c C x c2).e T),RG.cl ((double_c C J).e R),RG.cl ((double_c C N).e L),RG.mk 4 209,RG.pt i115,trivial⟩ ?_
 intro j3 a3 w3 Y
 repeat refine wp_seq ?_
 refine Y.D [.x (fv c1),.c (fv S),.x (fv c1),.c (fv d),.m 5,.u 5] [(4,(RG.z 4))] [(5,5,(ws d))] [(ws x++(ws y++(ws z))),(RG.z 12),(ws c1),(ws c2),(ws f),(ws d)] [1,2,4,5,6] ⟨RG.ld u115 i115,RG.cl ((double_c C c1).e M),RG.ld u115 i115,RG.cl ((CPlus_c C S c1).e I),RG.mk 5 209,RG.pt i115,trivial⟩ ?_
 intro j4 a4 w4 M4
 repeat refine wp_seq ?_
 refine M4.D [.x (fv d),.x (fv d),.c (fv H),.x (fv f),.c (fv O),.c (fv k),.m 6,.u 6] [(6,(RG.z 4))] [(6,7,(ws k))] [(ws x++(ws y++(ws z))),(RG.z 12),(ws c1),(ws c2),(ws f),(ws d),(ws k)] [1,2,4,5,6,7] ⟨RG.ld u115 i115,RG.ld u115 i115,RG.cl ((CTimes_c C d d).e V),RG.ld u115 i115,RG.cl ((double_c C f).e K),RG.cl ((CMinus_c C H O).e E),RG.mk 6 209,RG.pt i115,trivial⟩ ?_
 intro j5 a5 w5 Z
 repeat refine wp_seq ?_
 refine Z.D [.x (fv d),.x (fv f),.x (fv k),.c (fv j),.c (fv g),.x (fv c2),.x (fv c2),.c (fv m),.c (fv o),.c (fv l),.c (fv n),.c (fv b),.m 7,.u 7] [(12,(RG.z 4))] [(7,13,(ws b))] [(ws x++(ws y++(ws z))),(RG.z 12),(ws c1),(ws c2),(ws f),(ws d),(ws k),(ws b)] [1,2,7,8] ⟨RG.ld u115 i115,RG.ld u115 i115,RG.ld u115 i115,RG.cl ((CMinus_c C f k).e a),RG.cl ((CTimes_c C d j).e u),RG.ld u115 i115,RG.ld u115 i115,RG.cl ((CTimes_c C c2 c2).e q),RG.cl ((double_c C m).e B),RG.cl ((double_c C o).e p),RG.cl ((double_c C l).e D),RG.cl ((CMinus_c C g n).e t),RG.mk 7 209,RG.pt i115,trivial⟩ ?_
 intro j6 a6 w6 M6
 repeat refine wp_seq ?_
 refine M6.D [.x (fv k),.x (fv b),.s (.p 0 4),.x (fv y),.s (.p 0 8),.x (fv z),.c (fv i),.c (fv e),.x (rv k b e),.u 1] [] [(1,9,(ws k++(ws b++(ws e))))] [(ws x++(ws y++(ws z))),(ws k++(ws b++(ws e))),(ws c1),(ws c2),(ws f),(ws d),(ws k),(ws b)] [2] ⟨RG.ld u115 i115,RG.ld u115 i115,RG.st,RG.ld u115 i115,RG.st,RG.ld u115 i115,RG.cl ((CTimes_c C y z).e r),RG.cl ((double_c C i).e F),RG.st,RG.pt i117,trivial⟩ ?_
 intro a7 w7 G
 refine wp_ret ?_
 refine bodyPost_ret (v:=(rv k b e)) (RG.results_row G.st 2 211 rfl 1 _ rfl (G.at (s:=(.p 1 0))) u117 i117) G.sl.defers ?_
 exact ⟨_,rfl,G.st.bel.below,rfl⟩
theorem opposite_c (C:Fld P) (x y z:Fin P):Gives 173 #[(rv x y z)] (rv x (0-y) z):=by
 intro w
 obtain ⟨c1,d⟩:∃ c,c=(0:Fin P)-y:=⟨_,rfl⟩
 have k:((rv x c1 z):Value)=(rv x (0-y) z):=by
  subst_vars;rfl
 rw[← k]
 go_enter Tryz.func173,Tryz.ntmps173
 refine RG.M.enter [(0,(.v (rv x y z)))] 12 kR ?_
 intro a0 f
 repeat refine wp_seq ?_
 refine f.T [.m 0,.m 1] [(0,(ws x++(ws y++(ws z)))),(1,(RG.z 12))] [] [(ws x++(ws y++(ws z))),(RG.z 12)] [1,2] ⟨RG.mk 0 211,RG.mk 1 211,trivial⟩ ?_
 intro j m l g e
 repeat refine wp_seq ?_
 refine e.D [.s (.p 0 0),.x (fv x),.x (fv (0:Fin P)),.s (.p 0 4),.x (fv y),.c (fv c1),.s (.p 0 8),.x (fv z),.x (rv x c1 z),.u 1] [] [(1,9,(ws x++(ws c1++(ws z))))] [(ws x++(ws y++(ws z))),(ws x++(ws c1++(ws z)))] [2] ⟨RG.st,RG.ld u115 i115,RG.se (zero_fv (P:=P)),RG.st,RG.ld u115 i115,RG.cl ((CMinus_c C (0:Fin P) y).e d),RG.st,RG.ld u115 i115,RG.st,RG.pt i117,trivial⟩ ?_
 intro a2 i b
 refine wp_ret ?_
 refine bodyPost_ret (v:=(rv x c1 z)) (RG.results_row b.st 2 211 rfl 1 _ rfl (b.at (s:=(.p 1 0))) u117 i117) b.sl.defers ?_
 exact ⟨_,rfl,b.st.bel.below,rfl⟩
theorem point_c (C:Fld P) (x y z:Fin P):Gives 116 #[(rv x y z)] (pv (x*(EC.inv z*EC.inv z)) (y*(EC.inv z*EC.inv z)*EC.inv z)):=by
 intro w
 obtain ⟨c1,i⟩:∃ c,c=EC.inv z:=⟨_,rfl⟩
 obtain ⟨c2,m⟩:∃ c,c=c1*c1:=⟨_,rfl⟩
 obtain ⟨k,l⟩:∃ c,c=x*c2:=⟨_,rfl⟩
 obtain ⟨g,j⟩:∃ c,c=y*c2:=⟨_,rfl⟩
 obtain ⟨b,f⟩:∃ c,c=g*c1:=⟨_,rfl⟩
 have d:((pv k b):Value)=(pv (x*(EC.inv z*EC.inv z)) (y*(EC.inv z*EC.inv z)*EC.inv z)):=by
  subst_vars;rfl
 rw[← d]
 go_enter Tryz.func116,Tryz.ntmps116
 refine RG.M.enter [(0,(.v (rv x y z)))] 27 kR ?_
 intro a0 q
 repeat refine wp_seq ?_
 refine q.T [.m 0,.m 1] [(0,(ws x++(ws y++(ws z)))),(1,(RG.z 8))] [] [(ws x++(ws y++(ws z))),(RG.z 8)] [1,2] ⟨RG.mk 0 211,RG.mk 1 131,trivial⟩ ?_
 intro a D B t o
 repeat refine wp_seq ?_
 refine o.D [.c gv0,.s (.p 0 8),.x (fv z),.c (fv z),.c (fv c1),.c (fv c1),.m 2,.u 2] [(6,(RG.z 4))] [(2,7,(ws c1))] [(ws x++(ws y++(ws z))),(RG.z 8),(ws c1)] [1,2,3] ⟨RG.cl (Coordinates_c),RG.st,RG.ld u115 i115,RG.cl (Numb_c C z),RG.cl ((Inverse_c C z).e i),RG.cl (Coord_c C c1),RG.mk 2 209,RG.pt i115,trivial⟩ ?_
 intro F a2 u n
 repeat refine wp_seq ?_
 refine n.T [.x (fv c1),.x (fv c1),.c (fv c2),.m 3,.u 3] [(3,(RG.z 4))] [(3,4,(ws c2))] [(ws x++(ws y++(ws z))),(RG.z 8),(ws c1),(ws c2)] [1,2,3,4] ⟨RG.ld u115 i115,RG.ld u115 i115,RG.cl ((CTimes_c C c1 c1).e m),RG.mk 3 209,RG.pt i115,trivial⟩ ?_
 intro G H r p
 repeat refine wp_seq ?_
 refine p.D [.s (.p 0 0),.x (fv x),.x (fv c2),.c (fv k),.c (fv k),.s (.p 0 4),.x (fv y),.x (fv c2),.c (fv g),.x (fv c1),.c (fv b),.c (fv b),.x (pv k b),.u 1] [] [(1,13,(ws k++(ws b)))] [(ws x++(ws y++(ws z))),(ws k++(ws b)),(ws c1),(ws c2)] [2] ⟨RG.st,RG.ld u115 i115,RG.ld u115 i115,RG.cl ((CTimes_c C x c2).e l),RG.cl (Numb_c C k),RG.st,RG.ld u115 i115,RG.ld u115 i115,RG.cl ((CTimes_c C y c2).e j),RG.ld u115 i115,RG.cl ((CTimes_c C g c1).e f),RG.cl (Numb_c C b),RG.st,RG.pt i109,trivial⟩ ?_
 intro E A e
 refine wp_ret ?_
 refine bodyPost_ret (v:=(pv k b)) (RG.results_row e.st 2 131 rfl 1 _ rfl (e.at (s:=(.p 1 0))) u109 i109) e.sl.defers ?_
 exact ⟨_,rfl,e.st.bel.below,rfl⟩
theorem nothing_t_c (C:Fld P) (x y z:Fin P)(b:z=0) :Gives 172 #[(rv x y z)] (.bool true):=by
 intro w
 go_enter Tryz.func172,Tryz.ntmps172
 refine RG.M.enter [(0,(.v (rv x y z)))] 7 kR ?_
 intro a0 c
 repeat refine wp_seq ?_
 refine c.T [.m 0,.x (.bool false)] [(0,(ws x++(ws y++(ws z))))] [] [(ws x++(ws y++(ws z)))] [1,2] ⟨RG.mk 0 211,RG.st,trivial⟩ ?_
 intro e i f d
 repeat refine wp_seq ?_
 refine d.U [.s (.p 0 8),.x (fv z),.x (fv (0:Fin P)),.x (.bool true),.x (.bool true)] [2] ⟨RG.st,RG.ld u115 i115,RG.se (zero_fv (P:=P)),RG.cert_bin rfl .eql 209 209 4 5 (fv z) (fv (0:Fin P)) (.bool true) rfl rfl RG.sx RG.sx (fun w=>kR) (eqC_t C b),RG.st,trivial⟩ ?_
 intro a2 g k
 refine wp_ret ?_
 refine bodyPost_ret (v:=(.bool true)) (RG.results_t 2 rfl _ (k.at (s:=(.v (.bool true))))) k.sl.defers ?_
 exact ⟨_,rfl,k.st.bel.below,rfl⟩
theorem nothing_f_c (C:Fld P) (x y z:Fin P)(b:¬ z=0) :Gives 172 #[(rv x y z)] (.bool false):=by
 intro w
 go_enter Tryz.func172,Tryz.ntmps172
 refine RG.M.enter [(0,(.v (rv x y z)))] 7 kR ?_
 intro a0 c
 repeat refine wp_seq ?_
 refine c.T [.m 0,.x (.bool false)] [(0,(ws x++(ws y++(ws z))))] [] [(ws x++(ws y++(ws z)))] [1,2] ⟨RG.mk 0 211,RG.st,trivial⟩ ?_
 intro e i f d
 repeat refine wp_seq ?_
 refine d.U [.s (.p 0 8),.x (fv z),.x (fv (0:Fin P)),.x (.bool false),.x (.bool false)] [2] ⟨RG.st,RG.ld u115 i115,RG.se (zero_fv (P:=P)),RG.cert_bin rfl .eql 209 209 4 5 (fv z) (fv (0:Fin P)) (.bool false) rfl rfl RG.sx RG.sx (fun w=>kR) (eqC_f C b),RG.st,trivial⟩ ?_
 intro a2 g k
 refine wp_ret ?_
 refine bodyPost_ret (v:=(.bool false)) (RG.results_t 2 rfl _ (k.at (s:=(.v (.bool false))))) k.sl.defers ?_
 exact ⟨_,rfl,k.st.bel.below,rfl⟩
theorem ratio_t_c (C:Fld P) (x y:Fin P)(e:x=0∧y=0) :Gives 167 #[(pv x y)] (rv (0:Fin P) 0 0):=by
 intro w
 have k:((rv (0:Fin P) (0:Fin P) (0:Fin P)):Value)=(rv (0:Fin P) 0 0):=by
  subst_vars;rfl
 rw[← k]
 go_enter Tryz.func167,Tryz.ntmps167
 refine RG.M.enter [(0,(.v (pv x y)))] 16 kR ?_
 intro a0 f
 repeat refine wp_seq ?_
 refine f.T [.m 0,.m 1] [(0,(ws x++(ws y))),(1,(RG.z 12))] [] [(ws x++(ws y)),(RG.z 12)] [1,2] ⟨RG.mk 0 131,RG.mk 1 211,trivial⟩ ?_
 intro l n m i d
 repeat refine wp_seq ?_
 refine d.U [.x (pv x y),.x (pv (0:Fin P) (0:Fin P)),.x (.bool true)] [2,5] ⟨RG.ld u109 i109,RG.se (zero_pv (P:=P)),RG.cert_bin rfl .eql 131 131 3 4 (pv x y) (pv (0:Fin P) (0:Fin P)) (.bool true) rfl rfl RG.sx RG.sx (fun w=>kR) (eqPt_t C e),trivial⟩ ?_
 intro a2 j c
 repeat refine wp_seq ?_
 refine wp_cond_true c.ev ?_
 repeat refine wp_seq ?_
 refine c.T [.x (rv (0:Fin P) (0:Fin P) (0:Fin P)),.u 1] [] [(1,1,(ws (0:Fin P)++(ws (0:Fin P)++(ws (0:Fin P)))))] [(ws x++(ws y)),(ws (0:Fin P)++(ws (0:Fin P)++(ws (0:Fin P))))] [2] ⟨RG.se (zero_rv (P:=P)),RG.pt i117,trivial⟩ ?_
 intro o g b
 refine wp_ret ?_
 refine bodyPost_ret (v:=(rv (0:Fin P) (0:Fin P) (0:Fin P))) (RG.results_row b.st 2 211 rfl 1 _ rfl (b.at (s:=(.p 1 0))) u117 i117) b.sl.defers ?_
 exact ⟨_,rfl,b.st.bel.below,rfl⟩
theorem ratio_f_c (C:Fld P) (x y:Fin P)(e:¬ (x=0∧y=0)) :Gives 167 #[(pv x y)] (rv x y 1):=by
 intro w
 have k:((rv x y (1:Fin P)):Value)=(rv x y 1):=by
  subst_vars;rfl
 rw[← k]
 go_enter Tryz.func167,Tryz.ntmps167
 refine RG.M.enter [(0,(.v (pv x y)))] 16 kR ?_
 intro a0 f
 repeat refine wp_seq ?_
 refine f.T [.m 0,.m 1] [(0,(ws x++(ws y))),(1,(RG.z 12))] [] [(ws x++(ws y)),(RG.z 12)] [1,2] ⟨RG.mk 0 131,RG.mk 1 211,trivial⟩ ?_
 intro l n m i d
 repeat refine wp_seq ?_
 refine d.U [.x (pv x y),.x (pv (0:Fin P) (0:Fin P)),.x (.bool false)] [1,2,5] ⟨RG.ld u109 i109,RG.se (zero_pv (P:=P)),RG.cert_bin rfl .eql 131 131 3 4 (pv x y) (pv (0:Fin P) (0:Fin P)) (.bool false) rfl rfl RG.sx RG.sx (fun w=>kR) (eqPt_f C e),trivial⟩ ?_
 intro a2 j c
 repeat refine wp_seq ?_
 refine wp_cond_false c.ev ?_
 refine wp_skip ?_
 repeat refine wp_seq ?_
 refine c.D [.s (.p 0 0),.x (fv x),.c (fv x),.s (.p 0 4),.x (fv y),.c (fv y),.x (fv (1:Fin P)),.c (fv (1:Fin P)),.x (rv x y (1:Fin P)),.u 1] [] [(1,9,(ws x++(ws y++(ws (1:Fin P)))))] [(ws x++(ws y)),(ws x++(ws y++(ws (1:Fin P))))] [2] ⟨RG.st,RG.ld u85 i85,RG.cl (Coord_c C x),RG.st,RG.ld u85 i85,RG.cl (Coord_c C y),RG.se (one_fv C),RG.cl (Coord_c C (1:Fin P)),RG.st,RG.pt i117,trivial⟩ ?_
 intro o g b
 refine wp_ret ?_
 refine bodyPost_ret (v:=(rv x y (1:Fin P))) (RG.results_row b.st 2 211 rfl 1 _ rfl (b.at (s:=(.p 1 0))) u117 i117) b.sl.defers ?_
 exact ⟨_,rfl,b.st.bel.below,rfl⟩
theorem plusJ_any (C:Fld P) (f e k i j b:Fin P) (R:Value) (ha:k=0→R=rv i j b) (hb:¬ k=0→b=0→R=rv f e k) (hc:¬ k=0→¬ b=0→EC.plAx f b=EC.plAx i k∧EC.plAy e b=EC.plAy j k→R=rv (EC.twX f e) (EC.twY f e) (EC.twZ e k)) (hd:¬ k=0→¬ b=0→¬ (EC.plAx f b=EC.plAx i k∧EC.plAy e b=EC.plAy j k)→R=rv (EC.plX (EC.plAx f b) (EC.plAy e b) (EC.plAx i k) (EC.plAy j k)) (EC.plY (EC.plAx f b) (EC.plAy e b) (EC.plAx i k) (EC.plAy j k)) (EC.plZ k b (EC.plAx f b) (EC.plAx i k))):Gives 114 #[(rv f e k),(rv i j b)] R:=by
 intro w
 obtain ⟨c1,hi⟩:∃ c,c=k*k:=⟨_,rfl⟩
 obtain ⟨c2,hk⟩:∃ c,c=b*b:=⟨_,rfl⟩
 obtain ⟨p,hj⟩:∃ c,c=f*c2:=⟨_,rfl⟩
 obtain ⟨r,h8⟩:∃ c,c=i*c1:=⟨_,rfl⟩
 obtain ⟨c5,h5⟩:∃ c,c=e*c2:=⟨_,rfl⟩
 obtain ⟨t,h7⟩:∃ c,c=c5*b:=⟨_,rfl⟩
 obtain ⟨c7,h4⟩:∃ c,c=j*c1:=⟨_,rfl⟩
 obtain ⟨u,he⟩:∃ c,c=c7*k:=⟨_,rfl⟩
 go_enter Tryz.func114,Tryz.ntmps114
 refine RG.M.enter [(0,(.v (rv f e k))),(1,(.v (rv i j b)))] 108 kR ?_
 intro a0 M0
 repeat refine wp_seq ?_
 refine M0.T [.m 0,.m 1,.m 2] [(0,(ws f++(ws e++(ws k)))),(1,(ws i++(ws j++(ws b)))),(2,(RG.z 12))] [] [(ws f++(ws e++(ws k))),(ws i++(ws j++(ws b))),(RG.z 12)] [2,3,4] ⟨RG.mk 0 211,RG.mk 1 211,RG.mk 2 211,trivial⟩ ?_
 intro j1 i1 m1 a1 w1 M1
 repeat refine wp_seq ?_
 by_cases x:k=0
 ·obtain rfl:=ha x
  refine M1.U [.x (rv f e k),.c (.bool true)] [3,4,19] ⟨RG.ld u117 i117,RG.cl (nothing_t_c C f e k x),trivial⟩ ?_
  intro a2 w2 O
  repeat refine wp_seq ?_
  refine wp_cond_true O.ev ?_
  repeat refine wp_seq ?_
  refine O.T [.x (rv i j b),.u 2] [] [(2,1,(ws i++(ws j++(ws b))))] [(ws f++(ws e++(ws k))),(ws i++(ws j++(ws b))),(ws i++(ws j++(ws b)))] [4] ⟨RG.ld u117 i117,RG.pt i117,trivial⟩ ?_
  intro a3 w3 B
  refine wp_ret ?_
  refine bodyPost_ret (v:=(rv i j b)) (RG.results_row B.st 4 211 rfl 2 _ rfl (B.at (s:=(.p 2 0))) u117 i117) B.sl.defers ?_
  exact ⟨_,rfl,B.st.bel.below,rfl⟩
 refine M1.U [.x (rv f e k),.c (.bool false)] [2,3,4,19] ⟨RG.ld u117 i117,RG.cl (nothing_f_c C f e k x),trivial⟩ ?_
 intro a2 w2 O
 repeat refine wp_seq ?_
 refine wp_cond_false O.ev ?_
 refine wp_skip ?_
 repeat refine wp_seq ?_
 by_cases z:b=0
 ·obtain rfl:=hb x z
  refine O.U [.x (rv i j b),.c (.bool true)] [2,4,22] ⟨RG.ld u117 i117,RG.cl (nothing_t_c C i j b z),trivial⟩ ?_
  intro a3 w3 B
  repeat refine wp_seq ?_
  refine wp_cond_true B.ev ?_
  repeat refine wp_seq ?_
  refine B.T [.x (rv f e k),.u 2] [] [(2,1,(ws f++(ws e++(ws k))))] [(ws f++(ws e++(ws k))),(ws i++(ws j++(ws b))),(ws f++(ws e++(ws k)))] [4] ⟨RG.ld u117 i117,RG.pt i117,trivial⟩ ?_
  intro a4 w4 Q
  refine wp_ret ?_
  refine bodyPost_ret (v:=(rv f e k)) (RG.results_row Q.st 4 211 rfl 2 _ rfl (Q.at (s:=(.p 2 0))) u117 i117) Q.sl.defers ?_
  exact ⟨_,rfl,Q.st.bel.below,rfl⟩
 refine O.U [.x (rv i j b),.c (.bool false)] [2,3,4,22] ⟨RG.ld u117 i117,RG.cl (nothing_f_c C i j b z),trivial⟩ ?_
 intro a3 w3 B
 repeat refine wp_seq ?_
 refine wp_cond_false B.ev ?_
 refine wp_skip ?_
 repeat refine wp_seq ?_
 refine B.D [.s (.p 0 8),.x (fv k),.s (.p 0 8),.x (fv k),.c (fv c1),.s (.p 1 8),.x (fv b),.s (.p 1 8),.x (fv b),.c (fv c2),.m 3,.m 4,.u 3,.u 4] [(10,(RG.z 4)),(11,(RG.z 4))] [(3,12,(ws c1)),(4,13,(ws c2))] [(ws f++(ws e++(ws k))),(ws i++(ws j++(ws b))),(RG.z 12),(ws c1),(ws c2)] [2,3,4,5,6] ⟨RG.st,RG.ld u115 i115,RG.st,RG.ld u115 i115,RG.cl ((CTimes_c C k k).e hi),RG.st,RG.ld u115 i115,RG.st,RG.ld u115 i115,RG.cl ((CTimes_c C b b).e hk),RG.mk 3 209,RG.mk 4 209,RG.pt i115,RG.pt i115,trivial⟩ ?_
 intro j4 i4 a4 w4 Q
 repeat refine wp_seq ?_
 refine Q.D [.s (.p 0 0),.x (fv f),.x (fv c2),.c (fv p),.s (.p 1 0),.x (fv i),.x (fv c1),.c (fv r),.m 5,.m 6,.u 5,.u 6] [(8,(RG.z 4)),(9,(RG.z 4))] [(5,10,(ws p)),(6,11,(ws r))] [(ws f++(ws e++(ws k))),(ws i++(ws j++(ws b))),(RG.z 12),(ws c1),(ws c2),(ws p),(ws r)] [2,3,4,5,6,7,8] ⟨RG.st,RG.ld u115 i115,RG.ld u115 i115,RG.cl ((CTimes_c C f c2).e hj),RG.st,RG.ld u115 i115,RG.ld u115 i115,RG.cl ((CTimes_c C i c1).e h8),RG.mk 5 209,RG.mk 6 209,RG.pt i115,RG.pt i115,trivial⟩ ?_
 intro j5 i5 a5 w5 M5
 repeat refine wp_seq ?_
 refine M5.D [.s (.p 0 4),.x (fv e),.x (fv c2),.c (fv c5),.s (.p 1 8),.x (fv b),.c (fv t),.s (.p 1 4),.x (fv j),.x (fv c1),.c (fv c7),.s (.p 0 8),.x (fv k),.c (fv u),.m 7,.m 8,.u 7,.u 8] [(14,(RG.z 4)),(15,(RG.z 4))] [(7,16,(ws t)),(8,17,(ws u))] [(ws f++(ws e++(ws k))),(ws i++(ws j++(ws b))),(RG.z 12),(ws c1),(ws c2),(ws p),(ws r),(ws t),(ws u)] [2,3,4,7,8,9,10] ⟨RG.st,RG.ld u115 i115,RG.ld u115 i115,RG.cl ((CTimes_c C e c2).e h5),RG.st,RG.ld u115 i115,RG.cl ((CTimes_c C c5 b).e h7),RG.st,RG.ld u115 i115,RG.ld u115 i115,RG.cl ((CTimes_c C j c1).e h4),RG.st,RG.ld u115 i115,RG.cl ((CTimes_c C c7 k).e he),RG.mk 7 209,RG.mk 8 209,RG.pt i115,RG.pt i115,trivial⟩ ?_
 intro j6 i6 a6 w6 M6
 repeat refine wp_seq ?_
 by_cases E:EC.plAx f b=EC.plAx i k∧EC.plAy e b=EC.plAy j k
 ·have hR:=hc x z E
  obtain ⟨hx,D⟩:=E
  obtain ⟨m,K⟩:∃ c,c=EC.twX f e:=⟨_,rfl⟩
  obtain ⟨d,A⟩:∃ c,c=EC.twY f e:=⟨_,rfl⟩
  obtain ⟨g,a⟩:∃ c,c=EC.twZ e k:=⟨_,rfl⟩
  obtain rfl:R=rv m d g:=hR.trans (by subst_vars;rfl)
  refine M6.U [.x (fv p),.x (fv r),.x (.bool true),.x (.bool true),.x (fv t),.x (fv u),.x (.bool true),.x (.bool true)] [2,4,63] ⟨RG.ld u115 i115,RG.ld u115 i115,RG.cert_bin rfl .eql 209 209 56 57 (fv p) (fv r) (.bool true) rfl rfl RG.sx RG.sx (fun w=>kR) (eqC_t C (by subst_vars;exact hx)),RG.st,RG.ld u115 i115,RG.ld u115 i115,RG.cert_bin rfl .eql 209 209 60 61 (fv t) (fv u) (.bool true) rfl rfl RG.sx RG.sx (fun w=>kR) (eqC_t C (by subst_vars;exact D)),RG.st,trivial⟩ ?_
  intro a7 w7 M7
  repeat refine wp_seq ?_
  refine wp_cond_true M7.ev ?_
  repeat refine wp_seq ?_
  refine M7.T [.x (rv f e k),.c (rv m d g),.u 2] [] [(2,2,(ws m++(ws d++(ws g))))] [(ws f++(ws e++(ws k))),(ws i++(ws j++(ws b))),(ws m++(ws d++(ws g))),(ws c1),(ws c2),(ws p),(ws r),(ws t),(ws u)] [4] ⟨RG.ld u117 i117,RG.cl ((twice_c C f e k).e3 K A a),RG.pt i117,trivial⟩ ?_
  intro a8 w8 N
  refine wp_ret ?_
  refine bodyPost_ret (v:=(rv m d g)) (RG.results_row N.st 4 211 rfl 2 _ rfl (N.at (s:=(.p 2 0))) u117 i117) N.sl.defers ?_
  exact ⟨_,rfl,N.st.bel.below,rfl⟩
 have hR:=hd x z E
 obtain ⟨m,K⟩:∃ c,c=r-p:=⟨_,rfl⟩
 obtain ⟨d,A⟩:∃ c,c=u-t:=⟨_,rfl⟩
 obtain ⟨g,a⟩:∃ c,c=m*m:=⟨_,rfl⟩
 obtain ⟨n,T⟩:∃ c,c=g*m:=⟨_,rfl⟩
 obtain ⟨o,h0⟩:∃ c,c=g*p:=⟨_,rfl⟩
 obtain ⟨H,U⟩:∃ c,c=d*d:=⟨_,rfl⟩
 obtain ⟨L,Z⟩:∃ c,c=H-n:=⟨_,rfl⟩
 obtain ⟨G,h3⟩:∃ c,c=EC.dbl o:=⟨_,rfl⟩
 obtain ⟨l,h2⟩:∃ c,c=L-G:=⟨_,rfl⟩
 obtain ⟨J,X⟩:∃ c,c=o-l:=⟨_,rfl⟩
 obtain ⟨F,V⟩:∃ c,c=d*J:=⟨_,rfl⟩
 obtain ⟨I,Y⟩:∃ c,c=n*t:=⟨_,rfl⟩
 obtain ⟨q,S⟩:∃ c,c=F-I:=⟨_,rfl⟩
 obtain ⟨M,h1⟩:∃ c,c=k*b:=⟨_,rfl⟩
 obtain ⟨y,W⟩:∃ c,c=M*m:=⟨_,rfl⟩
 obtain rfl:R=rv l q y:=hR.trans (by subst_vars;rfl)
 by_cases hx:EC.plAx f b=EC.plAx i k
 case' pos =>
  have D:¬ EC.plAy e b=EC.plAy j k:=fun h=>E ⟨hx,h⟩
  refine M6.U [.x (fv p),.x (fv r),.x (.bool true),.x (.bool true),.x (fv t),.x (fv u),.x (.bool false),.x (.bool false)] [2,3,4,7,8,9,10,63] ⟨RG.ld u115 i115,RG.ld u115 i115,RG.cert_bin rfl .eql 209 209 56 57 (fv p) (fv r) (.bool true) rfl rfl RG.sx RG.sx (fun w=>kR) (eqC_t C (by subst_vars;exact hx)),RG.st,RG.ld u115 i115,RG.ld u115 i115,RG.cert_bin rfl .eql 209 209 60 61 (fv t) (fv u) (.bool false) rfl rfl RG.sx RG.sx (fun w=>kR) (eqC_f C (by subst_vars;exact D)),RG.st,trivial⟩ ?_
 case' neg =>
  refine M6.u [.x 56 [] (fv p),.x 57 [] (fv r),.x 58 [(56,0),(57,1)] (.bool false),.x 59 [(58,2)] (.bool false),⟨some 60,[],(.v undef),.pass⟩,⟨some 61,[],(.v undef),.pass⟩,⟨some 62,[],(.v undef),.pass⟩,.x 63 [(59,3),(62,6)] (.bool false)] [(2,(.p 0 0)),(3,(.p 1 0)),(4,(.p 2 0)),(7,(.p 5 0)),(8,(.p 6 0)),(9,(.p 7 0)),(10,(.p 8 0)),(63,(.v (.bool false)))] ⟨RG.ld u115 i115,RG.ld u115 i115,RG.cert_bin rfl .eql 209 209 56 57 (fv p) (fv r) (.bool false) rfl rfl RG.sx RG.sx (fun w=>kR) (eqC_f C (by subst_vars;exact hx)),RG.st,RG.cert_pass rfl rfl,RG.cert_pass rfl rfl,RG.cert_pass rfl rfl,RG.st,trivial⟩ ?_
 all_goals
  intro a7 w7 M7
  repeat refine wp_seq ?_
  refine wp_cond_false M7.ev ?_
  refine wp_skip ?_
  repeat refine wp_seq ?_
  refine M7.D [.x (fv r),.x (fv p),.c (fv m),.x (fv u),.x (fv t),.c (fv d),.m 9,.m 10,.u 9,.u 10] [(6,(RG.z 4)),(7,(RG.z 4))] [(9,8,(ws m)),(10,9,(ws d))] [(ws f++(ws e++(ws k))),(ws i++(ws j++(ws b))),(RG.z 12),(ws c1),(ws c2),(ws p),(ws r),(ws t),(ws u),(ws m),(ws d)] [2,3,4,7,9,11,12] ⟨RG.ld u115 i115,RG.ld u115 i115,RG.cl ((CMinus_c C r p).e K),RG.ld u115 i115,RG.ld u115 i115,RG.cl ((CMinus_c C u t).e A),RG.mk 9 209,RG.mk 10 209,RG.pt i115,RG.pt i115,trivial⟩ ?_
  intro j8 i8 a8 w8 N
  repeat refine wp_seq ?_
  refine N.T [.x (fv m),.x (fv m),.c (fv g),.m 11,.u 11] [(3,(RG.z 4))] [(11,4,(ws g))] [(ws f++(ws e++(ws k))),(ws i++(ws j++(ws b))),(RG.z 12),(ws c1),(ws c2),(ws p),(ws r),(ws t),(ws u),(ws m),(ws d),(ws g)] [2,3,4,7,9,11,12,13] ⟨RG.ld u115 i115,RG.ld u115 i115,RG.cl ((CTimes_c C m m).e a),RG.mk 11 209,RG.pt i115,trivial⟩ ?_
  intro j9 a9 w9 M9
  repeat refine wp_seq ?_
  refine M9.D [.x (fv g),.x (fv m),.c (fv n),.x (fv g),.x (fv p),.c (fv o),.m 12,.m 13,.u 12,.u 13] [(6,(RG.z 4)),(7,(RG.z 4))] [(12,8,(ws n)),(13,9,(ws o))] [(ws f++(ws e++(ws k))),(ws i++(ws j++(ws b))),(RG.z 12),(ws c1),(ws c2),(ws p),(ws r),(ws t),(ws u),(ws m),(ws d),(ws g),(ws n),(ws o)] [2,3,4,9,11,12,14,15] ⟨RG.ld u115 i115,RG.ld u115 i115,RG.cl ((CTimes_c C g m).e T),RG.ld u115 i115,RG.ld u115 i115,RG.cl ((CTimes_c C g p).e h0),RG.mk 12 209,RG.mk 13 209,RG.pt i115,RG.pt i115,trivial⟩ ?_
  intro hp ht hl hs hg
  repeat refine wp_seq ?_
  refine hg.D [.x (fv d),.x (fv d),.c (fv H),.x (fv n),.c (fv L),.x (fv o),.c (fv G),.c (fv l),.m 14,.u 14] [(8,(RG.z 4))] [(14,9,(ws l))] [(ws f++(ws e++(ws k))),(ws i++(ws j++(ws b))),(RG.z 12),(ws c1),(ws c2),(ws p),(ws r),(ws t),(ws u),(ws m),(ws d),(ws g),(ws n),(ws o),(ws l)] [2,3,4,9,11,12,14,15,16] ⟨RG.ld u115 i115,RG.ld u115 i115,RG.cl ((CTimes_c C d d).e U),RG.ld u115 i115,RG.cl ((CMinus_c C H n).e Z),RG.ld u115 i115,RG.cl ((double_c C o).e h3),RG.cl ((CMinus_c C L G).e h2),RG.mk 14 209,RG.pt i115,trivial⟩ ?_
  intro hu hm hw h6
  repeat refine wp_seq ?_
  refine h6.D [.x (fv d),.x (fv o),.x (fv l),.c (fv J),.c (fv F),.x (fv n),.x (fv t),.c (fv I),.c (fv q),.m 15,.u 15] [(9,(RG.z 4))] [(15,10,(ws q))] [(ws f++(ws e++(ws k))),(ws i++(ws j++(ws b))),(RG.z 12),(ws c1),(ws c2),(ws p),(ws r),(ws t),(ws u),(ws m),(ws d),(ws g),(ws n),(ws o),(ws l),(ws q)] [2,3,4,11,16,17] ⟨RG.ld u115 i115,RG.ld u115 i115,RG.ld u115 i115,RG.cl ((CMinus_c C o l).e X),RG.cl ((CTimes_c C d J).e V),RG.ld u115 i115,RG.ld u115 i115,RG.cl ((CTimes_c C n t).e Y),RG.cl ((CMinus_c C F I).e S),RG.mk 15 209,RG.pt i115,trivial⟩ ?_
  intro hn k0 hq h9
  repeat refine wp_seq ?_
  refine h9.D [.x (fv l),.x (fv q),.s (.p 0 8),.x (fv k),.s (.p 1 8),.x (fv b),.c (fv M),.x (fv m),.c (fv y),.x (rv l q y),.u 2] [] [(2,10,(ws l++(ws q++(ws y))))] [(ws f++(ws e++(ws k))),(ws i++(ws j++(ws b))),(ws l++(ws q++(ws y))),(ws c1),(ws c2),(ws p),(ws r),(ws t),(ws u),(ws m),(ws d),(ws g),(ws n),(ws o),(ws l),(ws q)] [4] ⟨RG.ld u115 i115,RG.ld u115 i115,RG.st,RG.ld u115 i115,RG.st,RG.ld u115 i115,RG.cl ((CTimes_c C k b).e h1),RG.ld u115 i115,RG.cl ((CTimes_c C M m).e W),RG.st,RG.pt i117,trivial⟩ ?_
  intro hz hr D
  refine wp_ret ?_
  refine bodyPost_ret (v:=(rv l q y)) (RG.results_row D.st 4 211 rfl 2 _ rfl (D.at (s:=(.p 2 0))) u117 i117) D.sl.defers ?_
  exact ⟨_,rfl,D.st.bel.below,rfl⟩
abbrev T3 (P:Nat):=Fin P × Fin P × Fin P
abbrev tv (t:T3 P):Value:=rv t.1 t.2.1 t.2.2
abbrev tw (t:T3 P):List Value:=ws t.1++(ws t.2.1++ws t.2.2)
def JacT (t:T3 P) (p:EC.Pt P):Prop:=EC.Jac t.1 t.2.1 t.2.2 p∧EC.On p
def twJ (t:T3 P):T3 P:=(EC.twX t.1 t.2.1,EC.twY t.1 t.2.1,EC.twZ t.2.1 t.2.2)
def plJ (a b:T3 P):T3 P:=
 if a.2.2=0 then b else if b.2.2=0 then a else
 if EC.plAx a.1 b.2.2=EC.plAx b.1 a.2.2∧EC.plAy a.2.1 b.2.2=EC.plAy b.2.1 a.2.2 then twJ a else
 (EC.plX (EC.plAx a.1 b.2.2) (EC.plAy a.2.1 b.2.2) (EC.plAx b.1 a.2.2) (EC.plAy b.2.1 a.2.2),EC.plY (EC.plAx a.1 b.2.2) (EC.plAy a.2.1 b.2.2) (EC.plAx b.1 a.2.2) (EC.plAy b.2.1 a.2.2),EC.plZ a.2.2 b.2.2 (EC.plAx a.1 b.2.2) (EC.plAx b.1 a.2.2))
def opJ (t:T3 P):T3 P:=(t.1,0-t.2.1,t.2.2)
def raJ (x y:Fin P):T3 P:=if x=0∧y=0 then (0,0,0) else (x,y,1)
theorem twJ_c (C:Fld P) (t:T3 P):Gives 113 #[tv t] (tv (twJ t)):=twice_c C t.1 t.2.1 t.2.2
theorem plJ_c (C:Fld P) (a b:T3 P):Gives 114 #[tv a,tv b] (tv (plJ a b)):=by
 obtain ⟨j,i,e⟩:=a
 obtain ⟨f,g,d⟩:=b
 exact plusJ_any C j i e f g d _ (fun h=>by unfold plJ;rw[if_pos h]) (fun c k=>by unfold plJ;rw[if_neg c,if_pos k]) (fun c k h=>by unfold plJ;rw[if_neg c,if_neg k,if_pos h];rfl) (fun c k h=>by unfold plJ;rw[if_neg c,if_neg k,if_neg h])
theorem opJ_c (C:Fld P) (t:T3 P):Gives 173 #[tv t] (tv (opJ t)):=opposite_c C t.1 t.2.1 t.2.2
theorem raJ_c (C:Fld P) (x y:Fin P):Gives 167 #[pv x y] (tv (raJ x y)):=by
 unfold raJ
 by_cases k:x=0∧y=0
 ·rw[if_pos k]
  exact ratio_t_c C x y k
 ·rw[if_neg k]
  exact ratio_f_c C x y k
theorem ptJ_c (C:Fld P) (t:T3 P):Gives 116 #[tv t] (pv (t.1*(EC.inv t.2.2*EC.inv t.2.2)) (t.2.1*(EC.inv t.2.2*EC.inv t.2.2)*EC.inv t.2.2)):=point_c C t.1 t.2.1 t.2.2
theorem JacT.twice (C:Fld P) {t:T3 P} {p:EC.Pt P} (h:JacT t p):JacT (twJ t) (EC.add p p):=⟨h.1.twice C.cur h.2,C.cur.on h.2 h.2⟩
theorem JacT.plus (C:Fld P) {a b:T3 P} {p q:EC.Pt P} (h:JacT a p) (k:JacT b q):JacT (plJ a b) (EC.add p q):=by
 refine ⟨?_,C.cur.on h.2 k.2⟩
 obtain ⟨m,l,i⟩:=a
 obtain ⟨j,n,g⟩:=b
 unfold plJ
 by_cases c:i=0
 ·rw[if_pos c]
  obtain rfl:=h.1.zero C.cur c
  exact k.1
 ·rw[if_neg c]
  by_cases d:g=0
  ·rw[if_pos d]
   obtain rfl:=k.1.zero C.cur d
   rw[EC.add_none]
   exact h.1
  ·rw[if_neg d]
   rcases h.1.plus C.cur h.2 k.1 k.2 c d with ⟨e,f,e3⟩|⟨e,f⟩
   ·rw[if_pos ⟨e,f⟩,e3]
    exact h.1.twice C.cur h.2
   ·rw[if_neg e]
    exact f
theorem JacT.neg {t:T3 P} {p:EC.Pt P} (h:JacT t p):JacT (opJ t) (EC.neg p):=⟨h.1.neg,EC.neg_on h.2⟩
theorem raJ_J (C:Fld P) {x y:Fin P} {p:EC.Pt P} (h:EC.Pair x y p) (b:EC.On p):JacT (raJ x y) p:=by
 refine ⟨?_,b⟩
 unfold raJ
 by_cases k:x=0∧y=0
 ·obtain rfl:=h.nothing C.cur b k
  rw[if_pos k]
  rfl
 ·rw[if_neg k]
  exact h.jac C.cur k
theorem JacT.pair (C:Fld P) {t:T3 P} {p:EC.Pt P} (h:JacT t p):EC.Pair (t.1*(EC.inv t.2.2*EC.inv t.2.2)) (t.2.1*(EC.inv t.2.2*EC.inv t.2.2)*EC.inv t.2.2) p:=h.1.pair C.cur
theorem JacT.none:JacT ((0,0,0):T3 P) .none:=⟨rfl,EC.none_on⟩
end
namespace DG
def dsum (d:Nat→Int):Nat→Int
 | 0=>0
 | k+1=>dsum d k+d k*2^k
def upd (d:Nat→Int) (i:Nat) (v:Int):Nat→Int:=fun j=>if j=i then v else d j
theorem dsum_congr {d e:Nat→Int}:∀ k,(∀ j,j<k→d j=e j)→dsum d k=dsum e k
 | 0,_=>rfl
 | k+1,h=>by
  show dsum d k+d k*2^k=dsum e k+e k*2^k
  rw[dsum_congr k fun j b=>h j oM,h k oM]
theorem dsum_pad {d:Nat→Int} (i:Nat) (h:∀ j,i≤j→d j=0):∀ k,dsum d (i+k)=dsum d i
 | 0=>rfl
 | k+1=>by
  show dsum d (i+k)+d (i+k)*2^(i+k)=_
  rw[h (i+k) oM,Int.zero_mul,Int.add_zero,dsum_pad i h k]
theorem upd_same (d:Nat→Int) (i:Nat) (v:Int):upd d i v i=v:=if_pos rfl
theorem upd_other {d:Nat→Int} {i j:Nat} {v:Int} (h:j≠i):upd d i v j=d j:=if_neg h
theorem dsum_upd {d:Nat→Int} (i:Nat) (v:Int) (h:∀ j,i≤j→d j=0) (k:Nat):dsum (upd d i v) (i+1+k)=dsum d i+v*2^i:=by
 rw[dsum_pad (i+1) (fun j b=>by rw[upd_other oM];exact h j oM) k]
 show dsum (upd d i v) i+upd d i v i*2^i=_
 rw[upd_same,dsum_congr i fun j b=>upd_other oM]
structure DI (n:Nat) (d:Nat→Int) (i c:Nat):Prop where
 hc:c≤1
 hz:∀ j,i≤j→d j=0
 hw:∀ j,257≤j→d j=0
 ho:∀ j,d j=0∨(d j%2=1∧-15≤d j∧d j≤15)
 hs:(n:Int)=dsum d i+((n/2^i+c:Nat):Int)*2^i
 he:257≤i→n/2^i+c=0
theorem DI.start (n:Nat):DI n (fun _=>0) 0 0:=by
 refine ⟨dC,fun _ _=>rfl,fun _ _=>rfl,fun _=>Or.inl rfl,?_,fun h=>oM⟩
 rw[Nat.pow_zero,Nat.div_one]
 show (n:Int)=0+((n+0:Nat):Int)*1
 omega
theorem high {n i:Nat} (k:n<2^256) (b:256≤i):n/2^i=0:=
 Nat.div_eq_of_lt (Nat.lt_of_lt_of_le k (Nat.pow_le_pow_right dC b))
theorem DI.skip {n i c:Nat} {d:Nat→Int} (h:DI n d i c) (g:n<2^256) (m:i<257) (f:n/2^i%2=c):DI n d (i+1) c:=by
 have k:n/2^(i+1)=n/2^i/2:=by rw[Nat.pow_succ,Nat.div_div_eq_div_mul]
 refine ⟨h.hc,fun j l=>h.hz j oM,h.hw,h.ho,?_,fun e=>?_⟩
 ·rw[h.hs]
  show _=dsum d i+d i*2^i+_
  rw[h.hz i (Nat.le_refl _),Int.zero_mul,Int.add_zero,k,show n/2^i+c=(n/2^i/2+c)*2 by have:=h.hc;omega]
  rw[show (2:Int)^(i+1)=2^i*2 by rw[Int.pow_succ]]
  generalize (2:Int)^i=t
  rw[Int.natCast_mul,Int.mul_assoc,Int.mul_comm (2:Nat) t]
  rfl
 ·have o:i=256:=oM
  have b:n/2^i=0:=high g oM
  rw[k,b]
  rw[b] at f
  omega
theorem DI.take {n i c:Nat} {d:Nat→Int} (h:DI n d i c) (p:n<2^256) (s:i<257) (l:n/2^i%2≠c) :
 DI n (upd d i (((n/2^i%32+c:Nat):Int)-32*(((n/2^i%32+c)/16:Nat):Int))) (i+5) ((n/2^i%32+c)/16):=by
 have k:n/2^(i+5)=n/2^i/32:=by rw[Nat.pow_add,Nat.div_div_eq_div_mul]
 have r:=h.hc
 have b:(n/2^i%32+c)%2=1:=oM
 have f:n/2^i%32+c<32:=oM
 refine ⟨oM,fun j e=>?_,fun j e=>?_,fun j=>?_,?_,fun g=>?_⟩
 ·rw[upd_other oM];exact h.hz j oM
 ·rw[upd_other oM];exact h.hw j e
 ·by_cases e:j=i
  ·subst e
   rw[upd_same]
   right
   omega
  ·rw[upd_other e];exact h.ho j
 ·rw[show i+5=i+1+4 by omega,dsum_upd i _ h.hz 4,show i+1+4=i+5 by omega,h.hs,Int.add_assoc]
  congr 1
  rw[k,Int.pow_add,show (2:Int)^5=32 by decide,← Int.mul_comm (32:Int),← Int.mul_assoc,← Int.add_mul]
  congr 1
  omega
 ·have o:n/2^i<16:=by
   rw[Nat.div_lt_iff_lt_mul (Nat.pow_pos dC)]
   refine Nat.lt_of_lt_of_le p ?_
   calc 2^256=16*2^252:=dK
    _≤16*2^i:=Nat.mul_le_mul (Nat.le_refl _) (Nat.pow_le_pow_right dC oM)
  rw[k]
  generalize n/2^i=m at o l b f ⊢
  rw[Nat.mod_eq_of_lt (show m<32 by omega)] at b ⊢
  have q:m+c<16:=oM
  rw[Nat.div_eq_of_lt q,Nat.div_eq_of_lt (show m<32 by omega)]
theorem DI.all {n i c:Nat} {d:Nat→Int} (h:DI n d i c) (b:257≤i):(n:Int)=dsum d 257:=by
 have k:=h.hs
 rw[h.he b,Int.natCast_zero,Int.zero_mul,Int.add_zero] at k
 rw[k,show i=257+(i-257) by omega,dsum_pad 257 h.hw]
def hor (d:Nat→Int):Nat→Int
 | 0=>0
 | k+1=>2*hor d k+d (256-k)
theorem hor_sum (d:Nat→Int):∀ k,k≤257→hor d k*2^(257-k)+dsum d (257-k)=dsum d 257
 | 0,_=>by show 0*_+_=_;rw[Int.zero_mul,Int.zero_add]
 | k+1,hk=>by
  rw[← hor_sum d k oM]
  show (2*hor d k+d (256-k))*2^(257-(k+1))+dsum d (257-(k+1))=_
  rw[show 257-(k+1)=256-k by omega,show 257-k=(256-k)+1 by omega]
  show _=hor d k*2^(256-k+1)+(dsum d (256-k)+d (256-k)*2^(256-k))
  rw[Int.pow_succ]
  generalize (2:Int)^(256-k)=t
  generalize hor d k=a
  rw[Int.add_mul,Int.mul_comm t 2,← Int.mul_assoc,Int.mul_comm a 2]
  omega
theorem hor_all {n i c:Nat} {d:Nat→Int} (h:DI n d i c) (b:257≤i):hor d 257=(n:Int):=by
 have k:=hor_sum d 257 (Nat.le_refl _)
 rw[Nat.sub_self] at k
 rw[h.all b,← k]
 show hor d 257=hor d 257*1+0
 omega
end DG
section
open Go.RowKit Go.Sort
variable {P:Nat} [NeZero P] {N:Nat}
theorem at138 (k o i:Nat) (c:i<257) (w:World):(Instr.indexAt 214 (.pointer (some ⟨k,o,none⟩)) (.int .i64 i)).run Tryz.prog w=.ok (.pointer (some ⟨k,o+i,none⟩)) w:=by
 have d:¬ (i:Int)<0:=oM
 have b:(i:Int)<257:=oM
 go_simp
theorem at138z (k i:Nat) (b:i<257) (w:World):(Instr.indexAt 214 (.pointer (some ⟨k,0,none⟩)) (.int .i64 i)).run Tryz.prog w=.ok (.pointer (some ⟨k,i,none⟩)) w:=by
 rw[at138 k 0 i b,Nat.zero_add]
theorem at136 (k o i:Nat) (c:i<8) (w:World):(Instr.indexAt 212 (.pointer (some ⟨k,o,none⟩)) (.int .i64 i)).run Tryz.prog w=.ok (.pointer (some ⟨k,o+12*i,none⟩)) w:=by
 have d:¬ (i:Int)<0:=oM
 have b:(i:Int)<8:=oM
 go_simp
theorem at136b (k o i:Nat) (c:i<8) (w:World):(Instr.indexAt 212 (.pointer (some ⟨k,o,none⟩)) (.int .i8 i)).run Tryz.prog w=.ok (.pointer (some ⟨k,o+12*i,none⟩)) w:=by
 have d:¬ (i:Int)<0:=oM
 have b:(i:Int)<8:=oM
 go_simp
theorem at135 (k n c i:Nat) (b:i<n) (w:World):(Instr.indexAt 208 (.slice (some ⟨k,0,none⟩) n c) (.int .i64 i)).run Tryz.prog w=.ok (.pointer (some ⟨k,353*i,none⟩)) w:=by
 go_simp
theorem at82 (k o n c i:Nat) (b:i<n) (w:World):(Instr.indexAt 127 (.slice (some ⟨k,o,none⟩) n c) (.int .i64 i)).run Tryz.prog w=.ok (.pointer (some ⟨k,o+4*i,none⟩)) w:=by
 go_simp
theorem at112 (k o n c i:Nat) (b:i<n) (w:World):(Instr.indexAt 138 (.slice (some ⟨k,o,none⟩) n c) (.int .i64 i)).run Tryz.prog w=.ok (.pointer (some ⟨k,o+8*i,none⟩)) w:=by
 go_simp
theorem i8neg (d:Int) (hd:-15≤d∧d≤15) (w:World):(Op.unary .neg (.int .i8 d)).run Tryz.prog w=.ok (.int .i8 (-d)) w:=by
 have h:=IntWalk.i8_in (-d) oM
 go_simp
theorem i8quo (k:Nat) (c:k<8) (w:World):(binOp .quo 213 (.int .i8 (2*(k:Int)+1)) (.int .i8 2)).run Tryz.prog w=.ok (.int .i8 k) w:=by
 have b:(2*(k:Int)+1).tdiv 2=(k:Int):=by rw[Int.tdiv_eq_ediv_of_nonneg oM];omega
 have h:=IntWalk.i8_in (k:Int) oM
 go_simp
theorem shr4 (g:Nat) (k:g<32) (w:World):(binOp .shr 3 (.int .i64 g) (.int .u64 4)).run Tryz.prog w=.ok (.int .i64 ((g/16:Nat):Int)) w:=by
 go_simp
theorem shl5 (g:Nat) (b:g<32) (w:World):(binOp .shl 3 (.int .i64 g) (.int .u64 5)).run Tryz.prog w=.ok (.int .i64 (32*(g:Int))) w:=by
 have h:=IntWalk.i64_in (32*(g:Int)) oM
 have k:(g:Int)*32=32*(g:Int):=oM
 go_simp
theorem sub64i (a b:Int) (c:-1000≤a∧a≤1000) (k:-1000≤b∧b≤1000) (w:World):(binOp .sub 3 (.int .i64 a) (.int .i64 b)).run Tryz.prog w=.ok (.int .i64 (a-b)) w:=by
 have h:=IntWalk.i64_in (a-b) oM
 go_simp
theorem addn (a b:Nat) (c:a≤1000000) (k:b≤1000000) (w:World):(binOp .add 3 (.int .i64 a) (.int .i64 b)).run Tryz.prog w=.ok (.int .i64 ((a+b:Nat):Int)) w:=by
 have h:=IntWalk.i64_in ((a:Int)+(b:Int)) oM
 go_simp
theorem cv8 (v:Int) (hv:-15≤v∧v≤15) (w:World):(convert 3 213 (.int .i64 v)).run Tryz.prog w=.ok (.int .i8 v) w:=by
 have h:=IntWalk.i8_in v oM
 go_simp
theorem cmp_t {b c:Nat} (e:b=c) (w:World):(binOp .eql 3 (.int .i64 b) (.int .i64 c)).run Tryz.prog w=.ok (.bool true) w:=by
 subst e
 go_simp
theorem cmp_f {b c:Nat} (e:¬ b=c) (w:World):(binOp .eql 3 (.int .i64 b) (.int .i64 c)).run Tryz.prog w=.ok (.bool false) w:=by
 have h:¬ (b:Int)=(c:Int):=oM
 go_simp
theorem lssn_t {i n:Nat} (e:i<n) (w:World):(binOp .lss 3 (.int .i64 i) (.int .i64 n)).run Tryz.prog w=.ok (.bool true) w:=by
 go_simp
theorem lssn_f {i n:Nat} (e:¬ i<n) (w:World):(binOp .lss 3 (.int .i64 i) (.int .i64 n)).run Tryz.prog w=.ok (.bool false) w:=by
 go_simp
theorem Bits_c {n f c:Nat} (b:n<top) (hf:f≤256) (d:c≤32):Gives 198 #[nv n,.int .i64 f,.int .i64 c] (.int .i64 ((n/2^f%2^c:Nat):Int)):=fun w =>
 (Bits_any _ n f c (four_nv b) hf d w).mono (by rintro e w' ⟨v,rfl,k,rfl⟩;exact ⟨_,rfl,k,rfl⟩)
def dg (d:Nat→Int):List Value:=(List.range 257).map (fun j=>Value.int .i8 (d j))
def dv (d:Nat→Int):Value:=.agg (dg d).toArray
theorem dg_length (d:Nat→Int):(dg d).length=257:=by unfold dg;rw[List.length_map,List.length_range]
theorem dg_at (d:Nat→Int) (j:Nat) (k:j<257):(dg d)[j]? = some (.int .i8 (d j)):=by
 unfold dg
 rw[List.getElem?_map,List.getElem?_range k]
 rfl
theorem dg_set (d:Nat→Int) (i:Nat) (v:Int):dg (DG.upd d i v)=(dg d).set i (.int .i8 v):=by
 apply List.ext_getElem?
 intro j
 rw[List.getElem?_set]
 by_cases b:j<257
 ·rw[dg_at _ j b,dg_at _ j b]
  by_cases k:i=j
  ·subst k
   rw[if_pos rfl,if_pos (by rw[dg_length];exact b),DG.upd_same]
  ·rw[if_neg k,DG.upd_other (fun h=>k h.symm)]
 ·rw[List.getElem?_eq_none (by rw[dg_length];omega)]
  by_cases k:i=j
  ·rw[if_pos k,if_neg (by rw[dg_length];omega)]
  ·rw[if_neg k,List.getElem?_eq_none (by rw[dg_length];omega)]
theorem dg_one (d:Nat→Int):(dg d).all (·.oneCell')=true:=by
 unfold dg
 rw[List.all_map]
 exact List.all_eq_true.2 fun _ _=>rfl
theorem dg_sub (d:Nat→Int):((dg d).drop 0).take (dg d).length=dg d:=by rw[List.drop_zero,List.take_length]
def dgo (n:Nat):Nat→(Nat→Int)→Nat→Nat→(Nat→Int)
 | 0,d,_,_=>d
 | f+1,d,i,c=>if i<257 then (if n/2^i%2=c then dgo n f d (i+1) c else
  dgo n f (DG.upd d i (((n/2^i%32+c:Nat):Int)-32*(((n/2^i%32+c)/16:Nat):Int))) (i+5) ((n/2^i%32+c)/16)) else d
theorem dgo_end (n:Nat) (f:Nat) (d:Nat→Int) (i c:Nat) (h:¬ i<257):dgo n f d i c=d:=by
 cases f with
 | zero=>rfl
 | succ f=>rw[dgo,if_neg h]
theorem dgo_DI {n:Nat} (b:n<2^256):∀ (f:Nat) (d:Nat→Int) (i c:Nat),DG.DI n d i c→257≤i+f→∃ g j,257≤g∧DG.DI n (dgo n f d i c) g j
 | 0,d,i,c,h,hf=>⟨i,c,oM,h⟩
 | f+1,d,i,c,h,hf=>by
  by_cases e:i<257
  ·rw[dgo,if_pos e]
   by_cases k:n/2^i%2=c
   ·rw[if_pos k]
    exact dgo_DI b f d (i+1) c (h.skip b e k) oM
   ·rw[if_neg k]
    exact dgo_DI b f _ (i+5) _ (h.take b e k) oM
  ·rw[dgo_end n _ d i c e]
   exact ⟨i,c,oM,h⟩
def digs (n:Nat):Nat→Int:=dgo n 257 (fun _=>0) 0 0
theorem digs_DI {n:Nat} (k:n<2^256):∃ i c,257≤i∧DG.DI n (digs n) i c:=dgo_DI k 257 _ 0 0 (DG.DI.start n) oM
theorem u138:(Tryz.prog.underlying 214).map (·.isRow)=some true:=kR
theorem i138:(Tryz.prog.info? 214).map (·.size)=some 257:=kR
theorem i137:(Tryz.prog.info? 213).map (·.size)=some 1:=kR
theorem u137:(Tryz.prog.underlying 213).map (·.isRow)=some false:=kR
theorem al138 (w:World):(Instr.alloc 214 true (.tuple #[])).run Tryz.prog w=.ok (.pointer (some ⟨w.heap.size,0,none⟩)) (w.alloc (.cells (dg (fun _=>0)).toArray 214)):=kR
theorem digits_c {n:Nat} (hn:n<top):Gives 166 #[nv n] (dv (digs n)):=by
 intro w
 go_enter Tryz.func166,Tryz.ntmps166
 refine RG.var1 (v0:=nv n) (n:=33) kR kR kR ?_
 intro a0 h2 f0
 have h3:=RG.St.begin w
 have q:RG.M w w.heap.size [] 33 [] [] [(0,(.v (nv n)))] a0 _:=⟨h3,h2,⟨f0,trivial⟩⟩
 repeat refine wp_seq ?_
 refine q.T [.m 0,.m 1] [(0,(wn n)),(1,(dg (fun _=>0)))] [] [(wn n),(dg (fun _=>0))] [1,2] ⟨RG.mk 0 42,RG.cert_alloc 1 rfl rfl _ rfl 214 rfl (al138),trivial⟩ ?_
 intro X V a1 w1 j
 repeat refine wp_seq ?_
 refine j.T [.m 2] [(0,(dg (fun _=>0)))] [] [(wn n),(dg (fun _=>0)),(dg (fun _=>0))] [1,2,3] ⟨RG.cert_alloc 2 rfl rfl _ rfl 214 rfl (al138),trivial⟩ ?_
 intro W a2 Z k
 repeat refine wp_seq ?_
 refine k.U [.x (.int .i64 0)] [1,2,3,4] ⟨RG.st,trivial⟩ ?_
 intro t w3 f
 repeat refine wp_seq ?_
 refine f.U [.x (.int .i64 0)] [1,2,3,4,5] ⟨RG.st,trivial⟩ ?_
 intro z w4 l
 have U:z.tmps[1]? = some (.pointer (some ⟨X,0,none⟩)):=l.at (s:=(.p 0 0))
 have C:z.tmps[2]? = some (.pointer (some ⟨V,0,none⟩)):=l.at (s:=(.p 1 0))
 have F:z.tmps[3]? = some (.pointer (some ⟨W,0,none⟩)):=l.at (s:=(.p 2 0))
 have K:z.tmps[4]? = some (.int .i64 0):=l.at (s:=(.v (.int .i64 0)))
 have D:z.tmps[5]? = some (.int .i64 0):=l.at (s:=(.v (.int .i64 0)))
 repeat refine wp_seq ?_
 refine wp_block ?_
 refine wp_loop_ghost (fun m a wr=>∃ (d:Nat→Int) (i c:Nat),c≤1∧i≤261∧257≤i+m∧dgo n m d i c=digs n∧RG.Sl a 33∧a.tmps[1]? = some (.pointer (some ⟨X,0,none⟩))∧a.tmps[2]? = some (.pointer (some ⟨V,0,none⟩))∧a.tmps[3]? = some (.pointer (some ⟨W,0,none⟩))∧a.tmps[4]? = some (.int .i64 c)∧a.tmps[5]? = some (.int .i64 i)∧RG.St w w.heap.size [] [wn n,dg (fun _=>0),dg d] [X,V,W] wr) 257 ⟨fun _=>0,0,0,oM,oM,oM,rfl,l.sl,U,C,F,K,D,l.st⟩ ?_
 intro m a wr
 rintro ⟨d,i,c,hc,h5,hm,hd,sl,y,f2,u,f4,f5,x⟩
 obtain ⟨b,T⟩:∃ b,n/2^i%2=b:=⟨_,rfl⟩
 obtain ⟨e,P⟩:∃ e,n/2^i%32=e:=⟨_,rfl⟩
 obtain ⟨g,Q⟩:∃ g,e+c=g:=⟨_,rfl⟩
 obtain ⟨v,S⟩:∃ v:Int,(g:Int)-32*((g/16:Nat):Int)=v:=⟨_,rfl⟩
 generalize X=L at y f2 u x
 generalize V=H at y f2 u x
 generalize W=O at y f2 u x
 by_cases p:i<257
 ·have I:Gives 198 #[nv n,.int .i64 i,.int .i64 1] (.int .i64 b):=by rw[← T];exact Bits_c (c:=1) hn oM oM
  have h1:Gives 198 #[nv n,.int .i64 i,.int .i64 5] (.int .i64 e):=by rw[← P];exact Bits_c (c:=5) hn oM oM
  have h0:∃ o,m=o+1:=by
   cases m with
   | zero=>exact absurd hm oM
   | succ o=>exact ⟨o,rfl⟩
  obtain ⟨o,rfl⟩:=h0
  rw[dgo,if_pos p,T,P,Q,S] at hd
  by_cases Y:b=c
  ·rw[if_pos Y] at hd
   have q:RG.M w w.heap.size [] 33 [(wn n),(dg (fun _=>0)),(dg d)] [L,H,O] [(1,(.p 0 0)),(2,(.p 1 0)),(3,(.p 2 0)),(4,(.v (.int .i64 c))),(5,(.v (.int .i64 i)))] a _:=⟨x,sl,⟨y,f2,u,f4,f5,trivial⟩⟩
   repeat refine wp_seq ?_
   refine q.U [.x (.int .i64 i),.x (.bool true)] [1,2,3,4,5,8] ⟨RG.st,RG.cert_binc rfl .lss 3 3 7 (.int .i64 i) (.int .i64 257) (.bool true) rfl rfl RG.sx (fun w=>kR) (lssn_t (n:=257) p),trivial⟩ ?_
   intro a1 w1 j
   repeat refine wp_seq ?_
   refine wp_cond_true j.ev ?_
   refine wp_skip ?_
   refine wp_seq ?_
   refine wp_block ?_
   repeat refine wp_seq ?_
   refine j.U [.x (nv n),.x (.int .i64 i),.c (.int .i64 b),.x (.int .i64 c),.x (.bool true)] [1,2,3,4,5,15] ⟨RG.ld u85 i85,RG.st,RG.cl (I),RG.st,RG.cert_bin rfl .eql 3 3 13 14 (.int .i64 b) (.int .i64 c) (.bool true) rfl rfl RG.sx RG.sx (fun w=>kR) (cmp_t Y),trivial⟩ ?_
   intro a2 Z k
   repeat refine wp_seq ?_
   refine wp_cond_true k.ev ?_
   refine wp_exit ?_
   dsimp only[Exit.then,Exit.inBlock]
   rw[if_pos rfl]
   repeat refine wp_seq ?_
   refine k.U [.x (.int .i64 i),.x (.int .i64 ((i+1:Nat):Int)),.x (.int .i64 ((i+1:Nat):Int))] [1,2,3,4,5] ⟨RG.st,RG.cert_binc rfl .add 3 3 9 (.int .i64 i) (.int .i64 1) (.int .i64 ((i+1:Nat):Int)) rfl rfl RG.sx (fun w=>kR) (addn i 1 oM oM),RG.st,trivial⟩ ?_
   intro t w3 f
   have r:t.tmps[1]? = some (.pointer (some ⟨L,0,none⟩)):=f.at (s:=(.p 0 0))
   have A:t.tmps[2]? = some (.pointer (some ⟨H,0,none⟩)):=f.at (s:=(.p 1 0))
   have E:t.tmps[3]? = some (.pointer (some ⟨O,0,none⟩)):=f.at (s:=(.p 2 0))
   have B:t.tmps[4]? = some (.int .i64 c):=f.at (s:=(.v (.int .i64 c)))
   have G:t.tmps[5]? = some (.int .i64 ((i+1:Nat):Int)):=f.at (s:=(.v (.int .i64 ((i+1:Nat):Int))))
   show ∃ n',_
   exact ⟨o,Nat.lt_succ_self o,d,i+1,c,hc,oM,oM,hd,f.sl,r,A,E,B,G,f.st⟩
  ·rw[if_neg Y] at hd
   have he:e<32:=oM
   have h4:g%2=1:=oM
   have hg:g<32:=oM
   have hv:-15≤v∧v≤15:=oM
   have A:∀ w,(binOp .add 3 (.int .i64 e) (.int .i64 c)).run Tryz.prog w=.ok (.int .i64 g) w:=fun w=>by rw[addn e c oM oM,Q]
   have G:∀ w,(binOp .sub 3 (.int .i64 g) (.int .i64 (32*((g/16:Nat):Int)))).run Tryz.prog w=.ok (.int .i64 v) w:=fun w=>by rw[sub64i _ _ oM oM,S]
   have q:RG.M w w.heap.size [] 33 [(wn n),(dg (fun _=>0)),(dg d)] [L,H,O] [(1,(.p 0 0)),(2,(.p 1 0)),(3,(.p 2 0)),(4,(.v (.int .i64 c))),(5,(.v (.int .i64 i)))] a _:=⟨x,sl,⟨y,f2,u,f4,f5,trivial⟩⟩
   repeat refine wp_seq ?_
   refine q.U [.x (.int .i64 i),.x (.bool true)] [1,2,3,4,5,8] ⟨RG.st,RG.cert_binc rfl .lss 3 3 7 (.int .i64 i) (.int .i64 257) (.bool true) rfl rfl RG.sx (fun w=>kR) (lssn_t (n:=257) p),trivial⟩ ?_
   intro a1 w1 j
   repeat refine wp_seq ?_
   refine wp_cond_true j.ev ?_
   refine wp_skip ?_
   refine wp_seq ?_
   refine wp_block ?_
   repeat refine wp_seq ?_
   refine j.U [.x (nv n),.x (.int .i64 i),.c (.int .i64 b),.x (.int .i64 c),.x (.bool false)] [1,2,3,4,5,15] ⟨RG.ld u85 i85,RG.st,RG.cl (I),RG.st,RG.cert_bin rfl .eql 3 3 13 14 (.int .i64 b) (.int .i64 c) (.bool false) rfl rfl RG.sx RG.sx (fun w=>kR) (cmp_f Y),trivial⟩ ?_
   intro a2 Z k
   repeat refine wp_seq ?_
   refine wp_cond_false k.ev ?_
   refine wp_skip ?_
   repeat refine wp_seq ?_
   refine k.U [.x (nv n),.x (.int .i64 i),.c (.int .i64 e),.x (.int .i64 c),.x (.int .i64 g),.x (.int .i64 g)] [1,2,3,4,5,6] ⟨RG.ld u85 i85,RG.st,RG.cl (h1),RG.st,RG.cert_bin rfl .add 3 3 18 19 (.int .i64 e) (.int .i64 c) (.int .i64 g) rfl rfl RG.sx RG.sx (fun w=>kR) (A),RG.st,trivial⟩ ?_
   intro t w3 f
   repeat refine wp_seq ?_
   refine f.U [.x (.int .i64 g),.x (.int .i64 ((g/16:Nat):Int)),.x (.int .i64 ((g/16:Nat):Int))] [1,2,3,4,5,6] ⟨RG.st,RG.cert_binc rfl .shr 3 189 21 (.int .i64 g) (.int .u64 4) (.int .i64 ((g/16:Nat):Int)) rfl rfl RG.sx (fun w=>kR) (shr4 g hg),RG.st,trivial⟩ ?_
   intro z w4 l
   repeat refine wp_seq ?_
   refine l.T [.x (.int .i64 i),.x (.int .i64 g),.x (.int .i64 ((g/16:Nat):Int)),.x (.int .i64 (32*((g/16:Nat):Int))),.x (.int .i64 v),.x (.int .i8 v),.s (.p 2 i),.u 2] [] [(2,7,(dg (DG.upd d i v)))] [(wn n),(dg (fun _=>0)),(dg (DG.upd d i v))] [1,2,3,4,5] ⟨RG.st,RG.st,RG.st,RG.cert_binc rfl .shl 3 189 25 (.int .i64 ((g/16:Nat):Int)) (.int .u64 5) (.int .i64 (32*((g/16:Nat):Int))) rfl rfl RG.sx (fun w=>kR) (shl5 (g/16) oM),RG.cert_bin rfl .sub 3 3 24 26 (.int .i64 g) (.int .i64 (32*((g/16:Nat):Int))) (.int .i64 v) rfl rfl RG.sx RG.sx (fun w=>kR) (G),RG.cert_conv rfl 3 213 27 (.int .i64 v) (.int .i8 v) rfl rfl RG.sx (cv8 v hv),RG.cert_idx rfl 214 3 23 rfl (.p 2 0) (.int .i64 i) RG.sx RG.sx (fun μ w=>at138z _ i p w),RG.cert_put1 2 i rfl _ rfl 213 (.tmp 29) (.tmp 28) (.int .i8 v) rfl rfl RG.sx RG.sx (by show i<(dg _).length;rw[dg_length];exact p) (dg_set d i v) i137 rfl rfl,trivial⟩ ?_
   intro a5 w5 M5
   repeat refine wp_seq ?_
   refine M5.U [.x (.int .i64 i),.x (.int .i64 ((i+4:Nat):Int)),.x (.int .i64 ((i+4:Nat):Int))] [1,2,3,4,5] ⟨RG.st,RG.cert_binc rfl .add 3 3 30 (.int .i64 i) (.int .i64 4) (.int .i64 ((i+4:Nat):Int)) rfl rfl RG.sx (fun w=>kR) (addn i 4 oM oM),RG.st,trivial⟩ ?_
   intro a6 w6 M6
   repeat refine wp_seq ?_
   refine M6.U [.x (.int .i64 ((i+4:Nat):Int)),.x (.int .i64 ((i+4+1:Nat):Int)),.x (.int .i64 ((i+4+1:Nat):Int))] [1,2,3,4,5] ⟨RG.st,RG.cert_binc rfl .add 3 3 9 (.int .i64 ((i+4:Nat):Int)) (.int .i64 1) (.int .i64 ((i+4+1:Nat):Int)) rfl rfl RG.sx (fun w=>kR) (addn (i+4) 1 oM oM),RG.st,trivial⟩ ?_
   intro N w7 r
   have J:N.tmps[1]? = some (.pointer (some ⟨L,0,none⟩)):=r.at (s:=(.p 0 0))
   have R:N.tmps[2]? = some (.pointer (some ⟨H,0,none⟩)):=r.at (s:=(.p 1 0))
   have E:N.tmps[3]? = some (.pointer (some ⟨O,0,none⟩)):=r.at (s:=(.p 2 0))
   have M:N.tmps[4]? = some (.int .i64 ((g/16:Nat):Int)):=r.at (s:=(.v (.int .i64 ((g/16:Nat):Int))))
   have B:N.tmps[5]? = some (.int .i64 ((i+4+1:Nat):Int)):=r.at (s:=(.v (.int .i64 ((i+4+1:Nat):Int))))
   show ∃ n',_
   exact ⟨o,Nat.lt_succ_self o,DG.upd d i v,i+5,g/16,oM,oM,oM,hd,r.sl,J,R,E,M,B,r.st⟩
 ·have o:d=digs n:=by rw[← hd,dgo_end n m d i c p]
  have q:RG.M w w.heap.size [] 33 [(wn n),(dg (fun _=>0)),(dg d)] [L,H,O] [(1,(.p 0 0)),(2,(.p 1 0)),(3,(.p 2 0)),(4,(.v (.int .i64 c))),(5,(.v (.int .i64 i)))] a _:=⟨x,sl,⟨y,f2,u,f4,f5,trivial⟩⟩
  repeat refine wp_seq ?_
  refine q.U [.x (.int .i64 i),.x (.bool false)] [2,3,8] ⟨RG.st,RG.cert_binc rfl .lss 3 3 7 (.int .i64 i) (.int .i64 257) (.bool false) rfl rfl RG.sx (fun w=>kR) (lssn_f (n:=257) p),trivial⟩ ?_
  intro a1 w1 j
  repeat refine wp_seq ?_
  refine wp_cond_false j.ev ?_
  refine wp_exit ?_
  dsimp only[Exit.then,Exit.inBlock]
  rw[if_pos rfl]
  repeat refine wp_seq ?_
  refine j.T [.x (dv d),.u 1] [] [(1,1,(dg d))] [(wn n),(dg d),(dg d)] [2] ⟨RG.cert_load rfl 2 0 _ rfl rfl kR 214 3 rfl (dg d) rfl RG.sx (dg_sub _) u138 (by rw[dg_length];exact i138),RG.cert_put 1 rfl _ rfl 214 (.tmp 2) (.tmp 32) rfl rfl (by show (dg _).length=(dg _).length;rw[dg_length,dg_length]) RG.sx RG.sx (by show _=some (dg _).length;rw[dg_length];exact i138) (dg_one _),trivial⟩ ?_
  intro a2 Z k
  refine wp_ret ?_
  refine bodyPost_ret (v:=dv d) (RG.results_row k.st 2 214 rfl 1 _ rfl (k.at (s:=(.p 1 0))) u138 (by rw[dg_length];exact i138)) k.sl.defers ?_
  exact ⟨_,rfl,k.st.bel.below,by rw[o]⟩
omit [NeZero P] in
theorem tw_length (t:T3 P):(tw t).length=12:=rfl
omit [NeZero P] in
theorem tw_one (t:T3 P):(tw t).all (·.oneCell')=true:=rfl
def od (x y:Fin P):Nat→T3 P
 | 0=>raJ x y
 | q+1=>plJ (od x y q) (twJ (raJ x y))
theorem od_J (C:Fld P) {x y:Fin P} {p:EC.Pt P} (h:EC.Pair x y p) (k:EC.On p):∀ q,JacT (od x y q) (EC.zmul ((2*q+1:Nat):Int) p)
 | 0=>by
  show JacT (raJ x y) (EC.zmul 1 p)
  rw[EC.zmul_one]
  exact raJ_J C h k
 | q+1=>by
  have d:=od_J C h k q
  have b:=(raJ_J C h k).twice C
  have c:=d.plus C b
  have e:EC.zmul ((2*(q+1)+1:Nat):Int) p=EC.add (EC.zmul ((2*q+1:Nat):Int) p) (EC.add p p):=by
   have:EC.add p p=EC.zmul 2 p:=by
    rw[show (2:Int)=1+1 by rfl,EC.zmul_add C.cur k,EC.zmul_one]
   rw[this,← EC.zmul_add C.cur k]
   congr 1
  rw[e]
  exact c
structure Fi (x y:Fin P) (D:Nat→Int) (C0:List Value) (off m:Nat) (C:List Value):Prop where
 len:C.length=C0.length
 out:∀ j,j<off∨off+353≤j→C[j]? = C0[j]?
 dig:∀ j,j<257→C[off+96+j]? = some (.int .i8 (D j))
 odd:∀ q j,q<m→j<12→C[off+12*q+j]? = (tw (od x y q))[j]?
theorem Fi.first {x y:Fin P} {D:Nat→Int} {C0:List Value} {off:Nat} (h:off+353≤C0.length):Fi x y D C0 off 0 (RG.rep C0 (off+96) (dg D)):=by
 have k:off+96+(dg D).length≤C0.length:=by rw[dg_length];omega
 refine ⟨RG.rep_length k,fun j b=>?_,fun j b=>?_,fun q j c _=>oM⟩
 ·rw[RG.rep_at k,if_neg (by rw[dg_length];omega)]
 ·rw[RG.rep_at k,if_pos (by rw[dg_length];omega),show off+96+j-(off+96)=j by omega,dg_at D j b]
theorem Fi.next {x y:Fin P} {D:Nat→Int} {C0 C:List Value} {off m:Nat} (h:off+353≤C0.length) (d:Fi x y D C0 off m C) (f:m<8):Fi x y D C0 off (m+1) (RG.rep C (off+12*m) (tw (od x y m))):=by
 have k:=d.len
 have c:off+12*m+(tw (od x y m)).length≤C.length:=by rw[tw_length];omega
 refine ⟨by rw[RG.rep_length c];exact k,fun j b=>?_,fun j b=>?_,fun q j g b=>?_⟩
 ·rw[RG.rep_at c,if_neg (by rw[tw_length];omega)]
  exact d.out j b
 ·rw[RG.rep_at c,if_neg (by rw[tw_length];omega)]
  exact d.dig j b
 ·rw[RG.rep_at c]
  by_cases e:q=m
  ·subst e
   rw[if_pos (by rw[tw_length];omega),show off+12*q+j-(off+12*q)=j by omega]
  ·rw[if_neg (by rw[tw_length];omega)]
   exact d.odd q j oM b
theorem Fi.sub {x y:Fin P} {D:Nat→Int} {C0 C:List Value} {off m q:Nat} (h:off+353≤C0.length) (b:Fi x y D C0 off m C) (c:q<m) (d:m≤8):(C.drop (off+12*q)).take (tw (od x y q)).length=tw (od x y q):=
 RG.sub_of (fun j k=>b.odd q j c (by rw[tw_length] at k;exact k)) (by rw[tw_length];have:=b.len;omega)
def fc (x y:Fin P) (D:Nat→Int) (C0:List Value) (off:Nat):Nat→List Value
 | 0=>RG.rep C0 (off+96) (dg D)
 | m+1=>RG.rep (fc x y D C0 off m) (off+12*m) (tw (od x y m))
theorem fc_Fi {x y:Fin P} {D:Nat→Int} {C0:List Value} {off:Nat} (h:off+353≤C0.length):∀ m,m≤8→Fi x y D C0 off m (fc x y D C0 off m)
 | 0,_=>Fi.first h
 | m+1,hm=>(fc_Fi h m oM).next h oM
theorem Fi.uniq {x y:Fin P} {D:Nat→Int} {C0 C b:List Value} {off:Nat} (h:Fi x y D C0 off 8 C) (k:Fi x y D C0 off 8 b):C=b:=by
 apply List.ext_getElem?
 intro j
 by_cases c:j<off∨off+353≤j
 ·rw[h.out j c,k.out j c]
 ·by_cases d:j<off+96
  ·have e:j=off+12*((j-off)/12)+(j-off)%12:=oM
   rw[e,h.odd _ _ oM oM,k.odd _ _ oM oM]
  ·have e:j=off+96+(j-off-96):=oM
   rw[e,h.dig _ oM,k.dig _ oM]
theorem fill_c (F:Fld P) {n:Nat} (hn:n<top) (x y:Fin P) (C0:List Value) (k off:Nat) (j:off+353≤C0.length) (w:World) (hk:k<w.heap.size) (ht:w.there k 0 C0.length) (hr:w.rangeAt k 0 C0) :
 Calls Tryz.prog 112 #[.pointer (some ⟨k,off,none⟩),nv n,pv x y] w (Ret fun r w'=>(∃ C,Fi x y (digs n) C0 off 8 C∧RG.PutTo k C0.length C w w')∧r=.tuple #[]):=by
 obtain ⟨D,p⟩:∃ D,digs n=D:=⟨_,rfl⟩
 have hD:Gives 166 #[nv n] (dv D):=p ▸ digits_c hn
 obtain ⟨s0,d⟩:∃ s,raJ x y=s:=⟨_,rfl⟩
 have hb:Gives 167 #[pv x y] (tv s0):=d ▸ raJ_c F x y
 obtain ⟨s2,e⟩:∃ s,twJ s0=s:=⟨_,rfl⟩
 have h5:Gives 113 #[tv s0] (tv s2):=e ▸ twJ_c F s0
 obtain ⟨f,v⟩:∃ c,RG.rep C0 (off+96) (dg D)=c:=⟨_,rfl⟩
 have N:off+96+(dg D).length≤C0.length:=by rw[dg_length];omega
 have h4:=v ▸ RG.rep_at N
 have T:f.length=C0.length:=v ▸ RG.rep_length N
 have F1:Fi x y D C0 off 0 f:=v ▸ Fi.first j
 obtain ⟨l,b⟩:∃ c,RG.rep f (off+0+12*0) (tw s0)=c:=⟨_,rfl⟩
 have o:off+0+12*0+(tw s0).length≤f.length:=by rw[tw_length];omega
 have E:=b ▸ RG.rep_at o
 have A:l.length=f.length:=b ▸ RG.rep_length o
 have F2:Fi x y D C0 off 1 l:=by
  have:=F1.next j dC
  rw[← b,← d]
  exact this
 have t:(l.drop (off+0+12*0)).take (tw s0).length=tw s0:=by
  have:=F2.sub j (q:=0) dC dC
  rw[← d]
  exact this
 obtain ⟨i,hg⟩:∃ i:Nat,i=0:=⟨_,rfl⟩
 obtain ⟨s3,-⟩:∃ s:T3 P,s=s0:=⟨_,rfl⟩
 obtain ⟨K,-⟩:∃ s:T3 P,s=s0:=⟨_,rfl⟩
 go_enter Tryz.func112,Tryz.ntmps112
 refine RG.var3 (v0:=.pointer (some ⟨k,off,none⟩)) (v1:=nv n) (v2:=pv x y) (n:=43) kR kR kR kR kR ?_
 intro a0 h7 f0 f1 f2
 have ha:=RG.St.lent hk hr ht
 have M0:RG.M w w.heap.size [k] 43 [C0] [k] [(0,(.p 0 off)),(1,(.v (nv n))),(2,(.v (pv x y)))] a0 _:=⟨ha,h7,⟨f0,f1,f2,trivial⟩⟩
 repeat refine wp_seq ?_
 refine M0.T [.m 1,.m 2] [(0,(wn n)),(1,(ws x++(ws y)))] [] [C0,(wn n),(ws x++(ws y))] [0,4,5] ⟨RG.mk 1 42,RG.mk 2 131,trivial⟩ ?_
 intro R M B w1 g
 have G:B.tmps[0]? = some (.pointer (some ⟨k,off,none⟩)):=g.at (s:=(.p 0 off))
 have h0:B.tmps[4]? = some (.pointer (some ⟨R,0,none⟩)):=g.at (s:=(.p 1 0))
 have U:B.tmps[5]? = some (.pointer (some ⟨M,0,none⟩)):=g.at (s:=(.p 2 0))
 have g:RG.M w w.heap.size [k] 43 [C0,(wn n),(ws x++(ws y))] [k,R,M] [(0,(.p 0 off)),(4,(.p 1 0)),(5,(.p 2 0))] B _:=⟨g.st,g.sl,⟨G,h0,U,trivial⟩⟩
 repeat refine wp_seq ?_
 refine g.tx [.s 8 [] (.p 0 off),.x 9 [] (nv n),.c 10 [(9,1)] (dv D),.s 11 [(8,0)] (.p 0 off),.s 12 [(11,3)] (.p 0 (off+96)),.u [(12,4),(10,2)] 0] [] [(0,5,f)] [f,(wn n),(ws x++(ws y))] [(0,(.p 0 off)),(5,(.p 2 0))] kR (congrArg (fun n=>[n]) T) ⟨RG.st,RG.ld u85 i85,RG.cl (hD),RG.st,RG.st,RG.cert_putAt 0 (off+96) rfl _ rfl 214 (.tmp 12) (.tmp 10) (dg D) rfl rfl RG.sx RG.sx (by show off+96+(dg D).length≤C0.length;rw[dg_length];omega) (h4) (by show _=some (dg _).length;rw[dg_length];exact i138) (dg_one _),trivial⟩ ?_
 intro a2 w2 H
 have h1:a2.tmps[0]? = some (.pointer (some ⟨k,off,none⟩)):=H.at (s:=(.p 0 off))
 have W:a2.tmps[5]? = some (.pointer (some ⟨M,0,none⟩)):=H.at (s:=(.p 2 0))
 have H:RG.M w w.heap.size [k] 43 [f,(wn n),(ws x++(ws y))] [k,R,M] [(0,(.p 0 off)),(5,(.p 2 0))] a2 _:=⟨H.st,H.sl,⟨h1,W,trivial⟩⟩
 repeat refine wp_seq ?_
 refine H.dr kR [.s 13 [] (.p 0 off),.x 14 [] (pv x y),.c 15 [(14,1)] (tv s0),.s 16 [(13,0)] (.p 0 off),.s 17 [(16,3)] (.p 0 (off+0)),.s 18 [(17,4)] (.p 0 ((off+0)+12*0)),.u [(18,5),(15,2)] 0] [] [(0,6,l)] [l,(wn n),(ws x++(ws y))] [(0,(.p 0 off))] kR (congrArg (fun n=>[n]) A) ⟨RG.st,RG.ld u109 i109,RG.cl (hb),RG.st,RG.st,RG.cert_idxc rfl 212 17 (.int .i64 0) rfl (.p 0 (off+0)) RG.sx (fun μ w=>at136 _ _ 0 dC w),RG.cert_putAt 0 ((off+0)+12*0) rfl _ rfl 211 (.tmp 18) (.tmp 15) (tw s0) rfl rfl RG.sx RG.sx (by show off+0+12*0+(tw s0).length≤f.length;rw[tw_length];omega) (E) i117 (tw_one _),trivial⟩ ?_
 intro S w3 u
 have z:S.tmps[0]? = some (.pointer (some ⟨k,off,none⟩)):=u.at (s:=(.p 0 off))
 have u:RG.M w w.heap.size [k] 43 [l,(wn n),(ws x++(ws y))] [k,R,M] [(0,(.p 0 off))] S _:=⟨u.st,u.sl,⟨z,trivial⟩⟩
 repeat refine wp_seq ?_
 refine u.T [.s (.p 0 off),.s (.p 0 off),.s (.p 0 (off+0)),.s (.p 0 ((off+0)+12*0)),.x (tv s0),.c (tv s2),.m 3,.u 3] [(6,(RG.z 12))] [(3,7,(tw s2))] [l,(wn n),(ws x++(ws y)),(tw s2)] [0,6] ⟨RG.st,RG.st,RG.st,RG.cert_idxc rfl 212 21 (.int .i64 0) rfl (.p 0 (off+0)) RG.sx (fun μ w=>at136 _ _ 0 dC w),RG.cert_load rfl 0 ((off+0)+12*0) _ rfl rfl kR 211 22 rfl (tw s0) rfl RG.sx (t) u117 i117,RG.cl (h5),RG.mk 3 211,RG.pt i117,trivial⟩ ?_
 intro j4 a4 w4 M4
 repeat refine wp_seq ?_
 refine M4.U [.x (.int .i64 1)] [0,6,7] ⟨RG.st,trivial⟩ ?_
 intro a5 w5 M5
 have h2:a5.tmps[0]? = some (.pointer (some ⟨k,off,none⟩)):=M5.at (s:=(.p 0 off))
 have X:a5.tmps[6]? = some (.pointer (some ⟨j4,0,none⟩)):=M5.at (s:=(.p 3 0))
 have h3:a5.tmps[7]? = some (.int .i64 1):=M5.at (s:=(.v (.int .i64 1)))
 subst p
 subst d
 subst e
 clear h4 E t T A N o
 repeat refine wp_seq ?_
 refine wp_block ?_
 refine wp_loop_ghost (fun m a wr=>∃ (i:Nat) (C:List Value),1≤i∧i≤8∧i+m=8∧Fi x y (digs n) C0 off i C∧RG.Sl a 43∧a.tmps[0]? = some (.pointer (some ⟨k,off,none⟩))∧a.tmps[6]? = some (.pointer (some ⟨j4,0,none⟩))∧a.tmps[7]? = some (.int .i64 i)∧RG.St w w.heap.size [k] [C,wn n,ws x++ws y,tw (twJ (raJ x y))] [k,R,M,j4] wr) 7 ⟨1,l,oM,oM,oM,F2,M5.sl,h2,X,h3,M5.st⟩ ?_
 intro m a wr
 rintro ⟨i,f,hj,hl,hm,Q,sl,g0,Z,g7,O⟩
 generalize R=k1 at Z O
 generalize M=k2 at Z O
 generalize j4=k3 at Z O
 obtain ⟨D,p⟩:∃ D,digs n=D:=⟨_,rfl⟩
 rw[p] at Q
 obtain ⟨s0,d⟩:∃ s,raJ x y=s:=⟨_,rfl⟩
 obtain ⟨s2,e⟩:∃ s,twJ (raJ x y)=s:=⟨_,rfl⟩
 rw[e] at O
 obtain ⟨K,J⟩:∃ s,od x y (i-1)=s:=⟨_,rfl⟩
 obtain ⟨s3,I⟩:∃ s,plJ K s2=s:=⟨_,rfl⟩
 have h9:Gives 114 #[tv K,tv s2] (tv s3):=I ▸ plJ_c F K s2
 have he:=Q.len
 by_cases hi:i<8
 ·have h6:od x y i=s3:=by
   obtain ⟨q,rfl⟩:∃ q,i=q+1:=⟨i-1,oM⟩
   rw[← I,← J,← e]
   rfl
  have L:(f.drop (off+0+12*(i-1))).take (tw K).length=tw K:=by
   have:=Q.sub j (q:=i-1) oM oM
   rw[J] at this
   exact this
  obtain ⟨l,b⟩:∃ c,RG.rep f (off+0+12*i) (tw s3)=c:=⟨_,rfl⟩
  have o:off+0+12*i+(tw s3).length≤f.length:=by rw[tw_length];omega
  have E:=b ▸ RG.rep_at o
  have A:l.length=f.length:=b ▸ RG.rep_length o
  have hc:Fi x y D C0 off (i+1) l:=by
   have:=Q.next j hi
   rw[h6] at this
   rw[← b]
   exact this
  have h8:∀ w,(binOp .sub 3 (.int .i64 i) (.int .i64 1)).run Tryz.prog w=.ok (.int .i64 ((i-1:Nat):Int)) w:=fun w=>by
   rw[sub64i _ _ oM oM,show (i:Int)-1=((i-1:Nat):Int) by omega]
  clear d b
  have M0:RG.M w w.heap.size [k] 43 [f,(wn n),(ws x++(ws y)),(tw s2)] [k,k1,k2,k3] [(0,(.p 0 off)),(6,(.p 3 0)),(7,(.v (.int .i64 i)))] a _:=⟨O,sl,⟨g0,Z,g7,trivial⟩⟩
  repeat refine wp_seq ?_
  refine M0.U [.x (.int .i64 i),.x (.bool true)] [0,6,7,26] ⟨RG.st,RG.cert_binc rfl .lss 3 3 25 (.int .i64 i) (.int .i64 8) (.bool true) rfl rfl RG.sx (fun w=>kR) (lssn_t (n:=8) hi),trivial⟩ ?_
  intro B w1 g
  repeat refine wp_seq ?_
  refine wp_cond_true g.ev ?_
  refine wp_skip ?_
  refine wp_seq ?_
  refine wp_block ?_
  repeat refine wp_seq ?_
  refine g.dr kR [.s 29 [] (.p 0 off),.x 30 [] (.int .i64 i),.s 31 [] (.p 0 off),.x 32 [] (.int .i64 i),.x 33 [(32,3)] (.int .i64 ((i-1:Nat):Int)),.s 34 [(31,2)] (.p 0 off),.s 35 [(34,5)] (.p 0 (off+0)),.s 36 [(35,6),(33,4)] (.p 0 ((off+0)+12*(i-1))),.x 37 [(36,7)] (tv K),.x 38 [] (tv s2),.c 39 [(37,8),(38,9)] (tv s3),.s 40 [(29,0)] (.p 0 off),.s 41 [(40,11)] (.p 0 (off+0)),.s 42 [(41,12),(30,1)] (.p 0 ((off+0)+12*i)),.u [(42,13),(39,10)] 0] [] [(0,14,l)] [l,(wn n),(ws x++(ws y)),(tw s2)] [(0,(.p 0 off)),(6,(.p 3 0)),(7,(.v (.int .i64 i)))] kR (congrArg (fun n=>[n]) A) ⟨RG.st,RG.st,RG.st,RG.st,RG.cert_binc rfl .sub 3 3 32 (.int .i64 i) (.int .i64 1) (.int .i64 ((i-1:Nat):Int)) rfl rfl RG.sx (fun w=>kR) (h8),RG.st,RG.st,RG.cert_idx rfl 212 35 33 rfl (.p 0 (off+0)) (.int .i64 ((i-1:Nat):Int)) RG.sx RG.sx (fun μ w=>at136 _ _ (i-1) oM w),RG.cert_load rfl 0 ((off+0)+12*(i-1)) _ rfl rfl kR 211 36 rfl (tw K) rfl RG.sx (L) u117 i117,RG.ld u117 i117,RG.cl (h9),RG.st,RG.st,RG.cert_idx rfl 212 41 30 rfl (.p 0 (off+0)) (.int .i64 i) RG.sx RG.sx (fun μ w=>at136 _ _ i oM w),RG.cert_putAt 0 ((off+0)+12*i) rfl _ rfl 211 (.tmp 42) (.tmp 39) (tw s3) rfl rfl RG.sx RG.sx (by show off+0+12*i+(tw s3).length≤f.length;rw[tw_length];omega) (E) i117 (tw_one _),trivial⟩ ?_
  intro a2 w2 H
  repeat refine wp_seq ?_
  refine H.U [.x (.int .i64 i),.x (.int .i64 ((i+1:Nat):Int)),.x (.int .i64 ((i+1:Nat):Int))] [0,6,7] ⟨RG.st,RG.cert_binc rfl .add 3 3 27 (.int .i64 i) (.int .i64 1) (.int .i64 ((i+1:Nat):Int)) rfl rfl RG.sx (fun w=>kR) (addn i 1 oM oM),RG.st,trivial⟩ ?_
  intro S w3 u
  have z:S.tmps[0]? = some (.pointer (some ⟨k,off,none⟩)):=u.at (s:=(.p 0 off))
  have Y:S.tmps[6]? = some (.pointer (some ⟨k3,0,none⟩)):=u.at (s:=(.p 3 0))
  have V:S.tmps[7]? = some (.int .i64 ((i+1:Nat):Int)):=u.at (s:=(.v (.int .i64 ((i+1:Nat):Int))))
  show ∃ n',_
  exact ⟨m-1,oM,i+1,l,oM,oM,oM,p.symm ▸ hc,u.sl,z,Y,V,by rw[e];exact u.st⟩
 ·have L:i=8:=oM
  obtain ⟨l,-⟩:∃ c:List Value,c=f:=⟨_,rfl⟩
  have M0:RG.M w w.heap.size [k] 43 [f,(wn n),(ws x++(ws y)),(tw s2)] [k,k1,k2,k3] [(0,(.p 0 off)),(6,(.p 3 0)),(7,(.v (.int .i64 i)))] a _:=⟨O,sl,⟨g0,Z,g7,trivial⟩⟩
  repeat refine wp_seq ?_
  refine M0.U [.x (.int .i64 i),.x (.bool false)] [0,6,7,26] ⟨RG.st,RG.cert_binc rfl .lss 3 3 25 (.int .i64 i) (.int .i64 8) (.bool false) rfl rfl RG.sx (fun w=>kR) (lssn_f (n:=8) hi),trivial⟩ ?_
  intro B w1 g
  repeat refine wp_seq ?_
  refine wp_cond_false g.ev ?_
  refine wp_exit ?_
  dsimp only[Exit.then,Exit.inBlock]
  rw[if_pos rfl]
  have G:B.tmps[0]? = some (.pointer (some ⟨k,off,none⟩)):=g.at (s:=(.p 0 off))
  have Y:B.tmps[6]? = some (.pointer (some ⟨k3,0,none⟩)):=g.at (s:=(.p 3 0))
  have V:B.tmps[7]? = some (.int .i64 i):=g.at (s:=(.v (.int .i64 i)))
  exact ⟨g.sl.defers,.tuple #[],RG.results_none rfl,_,rfl,⟨f,p.symm ▸ L ▸ Q,g.st.putTo Q.len⟩,rfl⟩
end
end Go.Proofs.YtlofhpkoaljmeaaGreat
