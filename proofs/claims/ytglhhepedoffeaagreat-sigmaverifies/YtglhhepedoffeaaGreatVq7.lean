import Derived.Lib.AppendZeros
import Derived.Deep.LoopGhost
import Derived.Deep.AppendSrc
import Derived.Lib.ConvBytes
import Derived.Test.YtglhhepedoffeaaGreatVq6
set_option linter.unusedVariables false
set_option linter.unusedSimpArgs false
set_option maxRecDepth 1000000
set_option maxHeartbeats 4000000
namespace Go.Proofs.YtglhhepedoffeaaGreat
section
open Go.RowKit Go.Sort Go.Deep
variable {P:Nat} [NeZero P] {N:Nat}
theorem zRt {p:Option Addr} {n c:Nat} {x:UInt8}:encB x≠.slice p n c:=fun h=>by cases h
def El (n:Nat) (W:World) (x:Value) (b:Bs):Prop:=∃ k c,x=.slice (some ⟨k,0,none⟩) n c∧n≤c∧b.size=n∧k<W.heap.size∧Holds encB W k 0 b
def isL (n:Nat) (W:World) (g:Nat):Prop:=∃ p c,W.cell? ⟨g,0,none⟩=some (.slice p n c)
structure Gr (n:Nat) (v:Value) (W W':World):Prop where
 gr:W.grownBy W' v.ownBlock
 is:∀ g,v.ownBlock=some g→isL n W g
theorem Gr.of {W W':World} {n:Nat} (h:Below W.heap.size W W'):Gr n (.slice none 0 0) W W':=
 ⟨⟨h.os,h.tape,h.output,h.size,fun k hk _=>h.block k hk⟩,fun g hg=>by cases hg⟩
theorem Gr.below {n:Nat} {v:Value} {w W W':World} {B:Nat} (h:Gr n v W W') (hb:Below B w W) (hB:B≤W.heap.size) (hv:∀ g,v.ownBlock=some g→B≤g):Below B w W':=
 hb.grown h.gr hB (fun k hk=>hv k hk)
theorem Gr.block {n k:Nat} {v:Value} {W W':World} (h:Gr n v W W') (hk:k<W.heap.size) (hne:∀ p c,W.cell? ⟨k,0,none⟩≠some (.slice p n c)):W'.heap[k]? = W.heap[k]? :=
 h.gr.block k hk fun e=>by
  obtain ⟨p,c,hc⟩:=h.is k e.symm
  exact hne p c hc
theorem Holds.kept {W W':World} {k:Nat} {b:Bs} (h:Holds encB W k 0 b) (e:W'.heap[k]? = W.heap[k]?):Holds encB W' k 0 b:=fun j hj=>by
 rw[World.cell?_of_block (a:=⟨k,0+j,none⟩) e,World.frozen?_of_block (a:=⟨k,0+j,none⟩) e]
 exact h j hj
theorem El.kept {m n:Nat} {v x:Value} {W W':World} {b:Bs} (h:El m W x b) (hm:0<m) (hg:Gr n v W W'):El m W' x b:=by
 obtain ⟨k,c,rfl,h1,h2,h3,h4⟩:=h
 refine ⟨k,c,rfl,h1,h2,Nat.lt_of_lt_of_le h3 hg.gr.size,Holds.kept h4 (hg.block h3 fun p c' hc=>?_)⟩
 have:=(h4 0 (by omega)).1
 rw[Nat.zero_add,hc] at this
 exact zRt (Option.some.inj this).symm
theorem Row.kept {n k:Nat} {v:Value} {W W':World} {vs:List Value} (h:Row W k vs) (hg:Gr n v W W') (hne:∀ p c,vs[0]?≠some (.slice p n c)) (hl:0<vs.length):Row W' k vs:=by
 have e:=hg.block h.1 fun p c hc=>by
  have h0:=h.2.1 0 vs[0] (List.getElem?_eq_getElem hl)
  rw[Nat.zero_add,hc] at h0
  exact hne p c (by rw[List.getElem?_eq_getElem hl,h0])
 refine ⟨Nat.lt_of_lt_of_le h.1 hg.gr.size,fun j u hj=>?_,fun j hj=>?_⟩
 ·rw[World.cell?_of_block (a:=⟨k,0+j,none⟩) e];exact h.2.1 j u hj
 ·rw[World.cell?_of_block (a:=⟨k,0+j,none⟩) e,World.frozen?_of_block (a:=⟨k,0+j,none⟩) e];exact h.2.2 j hj
structure Lo (n base:Nat) (W:World) (v:Value) (bs:List Bs):Prop where
 ex:∃ xs:List Value,xs.length=bs.length∧W.ownsRow base 22 1 v bs.length xs∧∀ (j:Nat) (x:Value) (b:Bs),xs[j]? = some x→bs[j]? = some b→El n W x b
 nil:bs=[]→v=.slice none 0 0
theorem Lo.begin (n base:Nat) (W:World):Lo n base W (.slice none 0 0) []:=⟨⟨[],rfl,World.ownsRow_nil _ _ _ _,fun j x b h=>by cases h⟩,fun _=>rfl⟩
theorem add0 (g j:Nat):(⟨g,0,none⟩:Addr).add j=⟨g,j,none⟩:=by unfold Addr.add;split<;>simp_all
theorem Lo.isL {n base:Nat} {W:World} {v:Value} {bs:List Bs} (h:Lo n base W v bs) {g:Nat} (hg:v.ownBlock=some g):isL n W g:=by
 obtain ⟨xs,h1,h2,h3⟩:=h.ex
 have hne:bs≠[]:=fun e=>by rw[h.nil e] at hg;cases hg
 cases bs with
 | nil=>exact absurd rfl hne
 | cons b r =>
  cases xs with
  | nil=>cases h1
  | cons x xr =>
   obtain ⟨k,c,rfl,-⟩:=h3 0 x b rfl rfl
   have:=h2.cells hg 0 _ rfl
   rw[add0] at this
   exact ⟨_,_,this⟩
theorem Lo.lt {n base:Nat} {W:World} {v:Value} {bs:List Bs} (h:Lo n base W v bs):∀ g,v.ownBlock=some g→base≤g∧g<W.heap.size:=by
 obtain ⟨xs,h1,h2,h3⟩:=h.ex
 exact h2.lt
theorem Lo.kept {m n base:Nat} {W W':World} {v v':Value} {bs:List Bs} (h:Lo m base W v bs) (hm:0<m) (hg:Gr n v' W W') (hne:m≠n):Lo m base W' v bs:=by
 have hL:=fun {g}=>h.isL (g:=g)
 obtain ⟨xs,h1,h2,h3⟩:=h.ex
 refine ⟨⟨xs,h1,h2.kept hg.gr ?_,fun j x b hx hb=>(h3 j x b hx hb).kept hm hg⟩,h.nil⟩
 cases hv:v.ownBlock with
 | none=>exact Or.inl rfl
 | some g =>
  refine Or.inr fun e=>hne ?_
  obtain ⟨p,c,hc⟩:=hL hv
  obtain ⟨p',c',hc'⟩:=hg.is g e.symm
  rw[hc] at hc'
  injection hc' with hc'
  injection hc' with _ h5 _
theorem zRS:(Tryz.prog.info? 22).map (fun i=>(i.size,i.bytes,i.zero.map fun z=>z.cells.size))=some (1,24,some 1):=by kernel_rfl
theorem undB:Tryz.prog.underlying 44=some (.slice 22):=by kernel_rfl
theorem Lo.app {n base g:Nat} {W:World} {v x:Value} {bs:List Bs} {b:Bs} (h:Lo n base W v bs) (hn:0<n) (hx:El n W x b) (hc:W.cell? ⟨g,0,none⟩=some x) (hk:bs.length≤1000000) (hb:base≤W.heap.size) :
 ∃ v' W',(Builtin.append_ #[44,44] 44 #[v,.slice (some ⟨g,0,none⟩) 1 1]).run Tryz.prog W=.ok v' W'∧Lo n base W' v' (bs++[b])∧Gr n v W W':=by
 obtain ⟨i,hi,he⟩:=Option.map_eq_some_iff.1 zRS
 simp only[Prod.mk.injEq] at he
 obtain ⟨h1,h2,h3⟩:=he
 obtain ⟨z,hz,hz2⟩:=Option.map_eq_some_iff.1 h3
 obtain ⟨xs,x1,x2,x3⟩:=h.ex
 obtain ⟨v',W',r1,r2,r3,r4⟩:=run_append_own (P:=Tryz.prog) W base 44 44 22 i z 1 24 undB hi hz h1 h2 hz2 (by decide) v bs.length xs x2 ⟨g,0,none⟩ 1 1 [x] rfl
  (fun j u hj=>by
   cases j with
   | zero =>
    obtain rfl:x=u:=by simpa using hj
    rw[add0];exact hc
   | succ j=>simp at hj) (fun u hu=>by
   obtain rfl:u=x:=by simpa using hu
   obtain ⟨k,c,rfl,-⟩:=hx
   rfl) (by unfold maxLen;omega) (by omega) hb
 have G:Gr n v W W':=⟨r3,fun g hg=>h.isL hg⟩
 refine ⟨v',W',r1,⟨⟨xs++[x],by simp[x1],by rw[List.length_append];exact r2,fun j y c hy hcy=>?_⟩,fun e=>by simp at e⟩,G⟩
 by_cases hj:j<bs.length
 ·rw[List.getElem?_append_left (by omega)] at hy hcy
  exact (x3 j y c hy hcy).kept hn G
 ·rw[List.getElem?_append_right (by omega)] at hy hcy
  rw[x1] at hy
  cases hjj:j-bs.length with
  | zero =>
   rw[hjj] at hy hcy
   obtain rfl:x=y:=by simpa using hy
   obtain rfl:b=c:=by simpa using hcy
   exact hx.kept hn G
  | succ d=>rw[hjj] at hy;simp at hy
theorem zKm {a:Bs} (ha:a.size=33) (w:World):Calls Tryz.prog 85 #[pvl a] w (Ret fun e w'=>Below w.heap.size w w'∧El 33 w' e a):=by
 have B1:=Hid.mk' (zHZ ha w)
 obtain ⟨w1,hw1⟩:∃ w1,Hid (w.alloc (.cells (bl33 a).toArray 54)=w1):=⟨_,rfl⟩
 rw[hw1.out] at B1
 have K:Hid (Row w1 w.heap.size (bl33 a)∧Below w.heap.size w w1):=by rw[← hw1.out];exact ⟨zAi w _ _,zAf w _⟩
 obtain ⟨va,hva⟩:∃ v,Hid (pvl a=v):=⟨_,rfl⟩
 have B1':Hid ((Instr.box 54 va).run Tryz.prog w=.ok (.pointer (some ⟨w.heap.size,0,none⟩)) w1):=by rw[← hva.out];exact B1
 rw[hva.out]
 have hs:=slCP w.heap.size
 clear B1 hw1
 go_enter Tryz.func85,Tryz.ntmps85
 go_wp2_with (first|(refine zAD (u:=va) (v:=.pointer (some ⟨w.heap.size,0,none⟩)) (w':=w1) rfl 54 (.tmp 0) rfl ?_ ?_ ?_;rfl;exact B1'.out))
 go_ret
 exact ⟨_,rfl,K.out.2,w.heap.size,33,rfl,by omega,ha,K.out.1.1,zEr K.out.1⟩
end
section
open Go.RowKit Go.Sort Go.Deep
variable {P:Nat} [NeZero P] {N:Nat}
def Bo (n B0:Nat) (W:World) (v:Value) (b:Bs):Prop:=∃ k x,v=.slice (some ⟨k,0,none⟩) 1 1∧B0≤k∧k<W.heap.size∧W.cell? ⟨k,0,none⟩=some x∧El n W x b
theorem Bo.kept {m n B0:Nat} {W W':World} {v u:Value} {b:Bs} (h:Bo n B0 W v b) (hn:0<n) (hg:Gr m u W W') (hu:∀ g,u.ownBlock=some g→g<B0):Bo n B0 W' v b:=by
 obtain ⟨k,x,rfl,h1,h2,h3,h4⟩:=h
 refine ⟨k,x,rfl,h1,Nat.lt_of_lt_of_le h2 hg.gr.size,?_,h4.kept hn hg⟩
 rw[World.cell?_of_block (a:=⟨k,0,none⟩) (hg.gr.block k h2 fun e=>by have:=hu k e.symm;omega)]
 exact h3
def Tm (W:World) (q:Option Addr) (k:Nat) (ns:Nat→Nat) (az:Nat→Bs):Prop:=0<k→∃ g,q=some ⟨g,0,none⟩∧g<W.heap.size∧∀ j,j<k→W.rangeAt g (37*j) (wn (ns j)++bl33 (az j))
theorem Tm.kept {m k:Nat} {W W':World} {u:Value} {q:Option Addr} {ns:Nat→Nat} {az:Nat→Bs} (h:Tm W q k ns az) (hg:Gr m u W W'):Tm W' q k ns az:=fun hk=>by
 obtain ⟨g,h1,h2,h3⟩:=h hk
 refine ⟨g,h1,Nat.lt_of_lt_of_le h2 hg.gr.size,fun j hj i v hv=>?_⟩
 have e:=hg.block h2 fun p c hc=>by
  have h0:=h3 0 hk 0 _ (show (wn (ns 0)++bl33 (az 0))[0]? = some _ from rfl)
  rw[show 37*0+0=0 from rfl,hc] at h0
  cases h0
 rw[World.cell?_of_block (a:=⟨g,37*j+i,none⟩) e]
 exact h3 j hj i v hv
section
variable (w0:World) (v3 v4:Value) (k6 n B0 base:Nat) (p:Bs) (bs cs:List Bs) (q:Option Addr) (k:Nat) (ns:Nat→Nat) (az:Nat→Bs)
def PR:Nat→Value→World→Prop
 | 0,v,_=>v=v3
 | 1,v,_=>v=.pointer (some ⟨k6,0,none⟩)
 | 2,v,_=>v=nv n
 | 3,v,w=>El 32 w v (bx n)
 | 4,v,w=>Bo 32 B0 w v (bx n)
 | 5,v,w=>Lo 32 base w v (bs++[bx n])
 | 6,v,_=>v=v4
 | 7,v,_=>v=.pointer (some ⟨k6,4,none⟩)
 | 8,v,_=>v=pvl p
 | 9,v,w=>El 33 w v p
 | 10,v,w=>Bo 33 B0 w v p
 | 11,v,w=>Lo 33 base w v (cs++[p])
 | 12,v,w=>Lo 32 base w v (bs++[bx n])
 | 13,v,w=>Lo 33 base w v (cs++[p])
 | _,_,_=>True
def PBs:Nat→World→Prop
 | 0,w=>Row w k6 (wn n++bl33 p)
 | 1,w=>Lo 32 base w v3 bs
 | 2,w=>Lo 33 base w v4 cs
 | 3,w=>Below base w0 w∧base≤w.heap.size∧B0≤w.heap.size
 | 4,w=>Tm w q k ns az
 | 5,w=>Row w base z33
 | _,_=>True
def PE:Nat→World→World→Prop
 | 5=>Gr 32 v3
 | 11=>Gr 33 v4
 | _=>Gr 0 (.slice none 0 0)
def Pk1:Nat→List Nat
 | 4=>[5]
 | 10=>[11]
 | _=>[]
def Pk2:Nat→List Nat
 | 1=>[5]
 | 2=>[11]
 | _=>[]
def FP:RG.Flow:=⟨PR v3 v4 k6 n B0 base p bs cs,PBs w0 v3 v4 k6 n B0 base p bs cs q k ns az,PE v3 v4,Pk1,Pk2⟩
theorem zNE {i:Nat} {w w':World} (h:PE v3 v4 i w w'):∃ m u,Gr m u w w'∧((i=5∧m=32∧u=v3)∨(i=11∧m=33∧u=v4)∨(i≠5∧i≠11∧m=0∧u=.slice none 0 0)):=by
 unfold PE at h
 split at h
 ·exact ⟨_,_,h,Or.inl ⟨rfl,rfl,rfl⟩⟩
 ·exact ⟨_,_,h,Or.inr (Or.inl ⟨rfl,rfl,rfl⟩)⟩
 ·rename_i h1 h2
  exact ⟨_,_,h,Or.inr (Or.inr ⟨h1,h2,rfl,rfl⟩)⟩
variable (hv3:∀ g,v3.ownBlock=some g→base≤g∧g<B0) (hv4:∀ g,v4.ownBlock=some g→base≤g∧g<B0)
include hv3 hv4
theorem zND {i m:Nat} {u:Value} (h:(i=5∧m=32∧u=v3)∨(i=11∧m=33∧u=v4)∨(i≠5∧i≠11∧m=0∧u=.slice none 0 0)):∀ g,u.ownBlock=some g→base≤g∧g<B0:=by
 rcases h with ⟨-,-,rfl⟩|⟨-,-,rfl⟩|⟨-,-,-,rfl⟩
 ·exact hv3
 ·exact hv4
 ·intro g hg;cases hg
theorem zRb (i j:Nat) (hj:j<14) (hij:i≠j) (hk:(Pk1 j).contains i=false) (h1:¬ (j=12∧i=5)) (h2:¬ (j=13∧i=11)) (v:Value) (w w':World) (hE:PE v3 v4 i w w') (hR:PR v3 v4 k6 n B0 base p bs cs j v w):PR v3 v4 k6 n B0 base p bs cs j v w':=by
 obtain ⟨m,u,hg,hc⟩:=zNE v3 v4 hE
 have hu:=zND v3 v4 B0 base hv3 hv4 hc
 have m32:m=32→i=5:=fun h=>by rcases hc with ⟨h1,-⟩|⟨-,h2,-⟩|⟨-,-,h2,-⟩<;>omega
 have m33:m=33→i=11:=fun h=>by rcases hc with ⟨-,h2,-⟩|⟨h1,-⟩|⟨-,-,h2,-⟩<;>omega
 match j,hj,hR with
 | 0,_,h=>exact h
 | 1,_,h=>exact h
 | 2,_,h=>exact h
 | 3,_,h=>exact El.kept h (by decide) hg
 | 4,_,h=>exact Bo.kept h (by decide) hg fun g hgg=>(hu g hgg).2
 | 5,_,h=>exact Lo.kept h (by decide) hg fun e=>hij (m32 e.symm)
 | 6,_,h=>exact h
 | 7,_,h=>exact h
 | 8,_,h=>exact h
 | 9,_,h=>exact El.kept h (by decide) hg
 | 10,_,h=>exact Bo.kept h (by decide) hg fun g hgg=>(hu g hgg).2
 | 11,_,h=>exact Lo.kept h (by decide) hg fun e=>hij (m33 e.symm)
 | 12,_,h=>exact Lo.kept h (by decide) hg fun e=>h1 ⟨rfl,m32 e.symm⟩
 | 13,_,h=>exact Lo.kept h (by decide) hg fun e=>h2 ⟨rfl,m33 e.symm⟩
 | _+14,hj,_=>omega
theorem zPw (i b:Nat) (hk:(Pk2 b).contains i=false) (w w':World) (hE:PE v3 v4 i w w') (hR:PBs w0 v3 v4 k6 n B0 base p bs cs q k ns az b w):PBs w0 v3 v4 k6 n B0 base p bs cs q k ns az b w':=by
 obtain ⟨m,u,hg,hc⟩:=zNE v3 v4 hE
 have hu:=zND v3 v4 B0 base hv3 hv4 hc
 have m32:m=32→i=5:=fun h=>by rcases hc with ⟨h1,-⟩|⟨-,h2,-⟩|⟨-,-,h2,-⟩<;>omega
 have m33:m=33→i=11:=fun h=>by rcases hc with ⟨-,h2,-⟩|⟨h1,-⟩|⟨-,-,h2,-⟩<;>omega
 match b,hk,hR with
 | 0,_,h=>exact Row.kept h hg (fun p c e=>by cases e) (by rw[List.length_append];exact Nat.lt_of_lt_of_le (by decide) (Nat.le_add_right 4 _))
 | 1,hk,h=>exact Lo.kept h (by decide) hg fun e=>by rw[m32 e.symm] at hk;cases hk
 | 2,hk,h=>exact Lo.kept h (by decide) hg fun e=>by rw[m33 e.symm] at hk;cases hk
 | 3,_,h=>exact ⟨hg.below h.1 h.2.1 fun g hgg=>(hu g hgg).1,Nat.le_trans h.2.1 hg.gr.size,Nat.le_trans h.2.2 hg.gr.size⟩
 | 4,_,h=>exact Tm.kept h hg
 | 5,_,h=>exact Row.kept h hg (fun p c e=>by cases e) (by decide)
 | _+6,_,_=>trivial
end
end
section
open Go.RowKit Go.Sort Go.Deep
variable {P:Nat} [NeZero P] {N:Nat}
theorem Lo.drew {n base:Nat} {W:World} {v:Value} {bs:List Bs} (h:Lo n base W v bs):Lo n base W.drew v bs:=⟨h.ex,h.nil⟩
theorem SumR.all (C:Fld P) (O:Ord N) {w w':World} {k:Nat} (hk:k≤512) {ns:Nat→Nat} {X:Nat→EC.Pt P} (hn:∀ j,j<k→ns j<N) (hX:∀ j,j<k→EC.On (X j)) {L M:Nat→Bs} (hL:∀ j,j<k→L j=bx (ns j)) (hM:∀ j,j<k→M j=wr (X j)) {e:Value} (h:SumR P N w k k L M e w') :
 OutP w (wr (EC.tot X k (fun j=>(ns j:Int)))) e w':=by
 have hq:∀ j,j<k→rq N (L j)=some (ns j):=fun j hj=>by
  rw[hL j hj]
  have hb:beV (bx (ns j)).toList=ns j:=zIC (Nat.lt_of_lt_of_le (hn j hj) O.le)
  unfold rq
  rw[if_pos ⟨zA3 _,by rw[hb];exact hn j hj⟩,hb]
 have hr:∀ j,j<k→∃ p,rd P (M j)=some p∧pt p=X j:=fun j hj=>by rw[hM j hj];exact zI2 C (hX j hj)
 rcases h with ⟨h,-⟩|⟨-,h,-⟩|⟨-,-,⟨⟨j,hj,hn'⟩,-⟩|⟨ns',hns,⟨⟨j,hj,hn'⟩,-⟩|⟨xs,ys,hxy,h⟩⟩⟩
 ·exact absurd rfl h
 ·omega
 ·rw[hq j hj] at hn';cases hn'
 ·obtain ⟨p,hp,-⟩:=hr j hj
  rw[hp] at hn';cases hn'
 ·have e1:∀ j,j<k→ns' j=ns j:=fun j hj=>by
   have:=hns j hj
   rw[hq j hj] at this
   exact (Option.some.inj this).symm
  have hp:∀ j,j<k→EC.Pair (xs j) (ys j) (X j)∧EC.On (X j):=fun j hj=>by
   obtain ⟨p,hp,hpt⟩:=hr j hj
   have h1:=hxy j hj
   rw[hp] at h1
   have h2:=Option.some.inj h1
   have h3:=zJ4 C hp
   rw[hpt] at h3
   rw[h2] at h3
   exact h3
  have hJ:=zLV C (ns:=ns') (xs:=xs) (ys:=ys) (p:=X) (N:=k) (fun i hi=>by rw[e1 i hi];exact Nat.lt_of_lt_of_le (hn i hi) O.le) (fun i hi=>(hp i hi).1) (fun i hi=>(hp i hi).2)
  have e2:EC.tot X k (fun j=>(ns' j:Int))=EC.tot X k (fun j=>(ns j:Int)):=EC.zBi k fun j hj=>by rw[e1 j hj]
  rw[e2] at hJ
  rw[← zLo C (hJ.pair C) hJ.2]
  exact h
structure Pz (w W:World) (q:Option Addr) (k i:Nat) (ns:Nat→Nat) (az:Nat→Bs) (s3 s4:Value):Prop where
 bl:Below w.heap.size w W
 l3:Lo 32 w.heap.size W s3 ((List.range i).map fun j=>bx (ns j))
 l4:Lo 33 w.heap.size W s4 ((List.range i).map az)
 tm:Tm W q k ns az
 r2:Row W w.heap.size z33
theorem El.of_made {w w':World} {k n:Nat} {b:Bs} (h:RG.Made w k (cb b) w') (hb:b.size=n):El n w' (.slice (some ⟨k,0,none⟩) n n) b:=⟨k,n,rfl,Nat.le_refl _,hb,h.lt,zGf h.range h.there⟩
theorem Bo.of {n B0:Nat} {w:World} {x:Value} {b:Bs} (h:El n w x b) (hn:0<n) (hB:B0≤w.heap.size) (T:TypeId):Bo n B0 (w.alloc (.cells #[x] T)) (.slice (some ⟨w.heap.size,0,none⟩) 1 1) b:=
 ⟨w.heap.size,x,rfl,hB,by rw[World.size_alloc];omega,by rw[World.cell?_alloc_new];rfl,h.kept hn (Gr.of (n:=0) (zAf w _))⟩
theorem Lo.args {n base:Nat} {W:World} {v:Value} {bs:List Bs} (h:Lo n base W v bs):∃ q cap,v=.slice q bs.length cap∧(0<bs.length→∃ g,q=some ⟨g,0,none⟩∧g<W.heap.size∧∀ (j:Nat) (b:Bs),bs[j]? = some b→∃ x,W.cell? ⟨g,j,none⟩=some x∧El n W x b):=by
 obtain ⟨xs,h1,h2,h3⟩:=h.ex
 have h4:=fun {g:Nat}=>h2.cells (g:=g)
 rcases h2.2 with ⟨rfl,h0⟩|⟨g,cap,cur,rfl,-,hc,-⟩
 ·exact ⟨none,0,by rw[h0],fun h=>by omega⟩
 ·refine ⟨_,_,rfl,fun _=>⟨g,rfl,(Array.getElem?_eq_some_iff.1 hc).1,fun j b hb=>?_⟩⟩
  have hj:j<xs.length:=by rw[h1];exact (List.getElem?_eq_some_iff.1 hb).1
  have:=h4 (g:=g) rfl j xs[j] (List.getElem?_eq_getElem hj)
  rw[add0] at this
  exact ⟨_,this,h3 j _ b (List.getElem?_eq_getElem hj) hb⟩
theorem El.arg {W:World} {x:Value} {b:Bs} (h:El 32 W x b):Arg W x b:=by
 obtain ⟨k,c,rfl,h1,h2,h3,h4⟩:=h
 exact ⟨_,_,_,rfl,h2,fun _=>⟨k,0,rfl,h1,h3,h4⟩⟩
theorem El.arg33 {W:World} {x:Value} {b:Bs} (h:El 33 W x b):Arg33 W x b:=by
 obtain ⟨k,c,rfl,h1,h2,h3,h4⟩:=h
 exact ⟨_,_,_,rfl,h2,fun _=>⟨k,0,rfl,h1,h3,h4⟩⟩
theorem zDv (C:Fld P) (O:Ord N) (v:Value) (w:World) (k:Nat) (hk:k≤512) (ns:Nat→Nat) (X:Nat→EC.Pt P) (hn:∀ j,j<k→ns j<N) (hX:∀ j,j<k→EC.On (X j))
 (hmer:∀ W,Below w.heap.size w W→Calls Tryz.prog 124 #[v] W (Ret fun e w'=>Below W.heap.size W w'∧∃ q cap,e=.slice q k cap∧Tm w' q k ns (fun j=>wr (X j)))) :
 Calls Tryz.prog 75 #[v] w (Ret fun e w'=>Below w.heap.size w w'∧e=pvl (wr (EC.tot X k (fun j=>(ns j:Int))))):=by
 have HM:=Hid.mk' hmer
 have HC:Hid (Fld P∧Ord N∧(∀ j,j<k→ns j<N)∧∀ j,j<k→EC.On (X j)):=⟨C,O,hn,hX⟩
 obtain ⟨az,haz⟩:∃ az:Nat→Bs,Hid ((fun j=>wr (X j))=az):=⟨_,rfl⟩
 have haz':Hid (∀ j,az j=wr (X j)):=fun j=>by rw[← haz.out]
 rw[haz.out] at HM
 obtain ⟨w1,hw1⟩:∃ w1,Hid (w.alloc (.cells z33.toArray 54)=w1):=⟨_,rfl⟩
 have K1:Hid (Row w1 w.heap.size z33∧Below w.heap.size w w1):=by rw[← hw1.out];exact ⟨zAi w _ _,zAf w _⟩
 obtain ⟨d,hd1,hd2⟩:=Option.map_eq_some_iff.1 uCP
 obtain ⟨d',hd3,hd4⟩:=Option.map_eq_some_iff.1 uT
 have HD:Hid ((Tryz.prog.underlying 54=some d∧d.isRow=true)∧Tryz.prog.underlying 167=some d'∧d'.isRow=true):=⟨⟨hd1,hd2⟩,hd3,hd4⟩
 clear hd1 hd2 hd3 hd4 hmer hn hX haz C O
 go_enter Tryz.func75,Tryz.ntmps75
 go_wp2_with (refine zAp (v:=.pointer (some ⟨w.heap.size,0,none⟩)) (w':=w1) rfl (.alloc 54) rfl ?_ ?_;(rw[← hw1.out];kernel_rfl))
 clear hw1
 refine (HM.out w1 K1.out.2).mono ?_
 rintro e w2 ⟨vv,rfl,hb2,q,cap,rfl,hT⟩
 have K2:Hid (Pz w w2 q k 0 ns az (.slice none 0 0) (.slice none 0 0)):=⟨K1.out.2.trans (hb2.mono K1.out.2.size),Lo.begin _ _ _,Lo.begin _ _ _,hT,K1.out.1.below hb2⟩
 clear hb2 hT K1 HM
 go_wp2_with fail
 go_loopg [3,4,12] k (fun m s3 s4 s12 W=>∃ i:Nat,i+m=k∧s12=.int .i64 i∧Hid (Pz w W q k i ns az s3 s4))
 case atStart=>exact ⟨0,by omega,rfl,K2⟩
 case round =>
  clear K2
  obtain ⟨i,hik,rfl,KM⟩:=hrel
  by_cases hi:i<k
  ·have hi':(i:Int)<(k:Int):=by omega
   obtain ⟨g,hq,hg,hr⟩:=KM.out.tm (by omega)
   subst hq
   obtain ⟨n,hne⟩:∃ n,Hid (ns i=n):=⟨_,rfl⟩
   obtain ⟨p,hpe⟩:∃ p,Hid (az i=p):=⟨_,rfl⟩
   have B0:Hid (wr.rangeAt g (37*i) (wn n++bl33 p)):=by
    have h:=hr i hi
    rw[hne.out,hpe.out] at h
    exact h
   have hps:Hid (p.size=33):=by rw[← hpe.out,haz'.out i];exact zAB _
   have hnN:Hid (n<N):=by rw[← hne.out];exact HC.out.2.2.1 i hi
   obtain ⟨W1,hW1⟩:∃ W1,Hid (wr.alloc (.cells zT.toArray 167)=W1):=⟨_,rfl⟩
   obtain ⟨W2,hW2⟩:∃ W2,Hid (W1.setCells wr.heap.size 0 (wn n++bl33 p)=W2):=⟨_,rfl⟩
   have hlen:(wn n++bl33 p).length=37:=by rw[List.length_append,zAd hps.out];rfl
   have F1:Hid (Row W1 wr.heap.size zT∧Below wr.heap.size wr W1∧W1.heap.size=wr.heap.size+1):=by rw[← hW1.out];exact ⟨zAi wr _ _,zAf wr _,World.size_alloc _ _⟩
   have F2:Hid (Row W2 wr.heap.size (wn n++bl33 p)∧Below wr.heap.size wr W2):=by rw[← hW2.out];exact ⟨F1.out.1.put (by rw[hlen];rfl),RG.below_setCells (Nat.le_refl _) _ _ _ F1.out.2.1⟩
   have HLT:Hid ((Tryz.prog.info? 167).map (·.size)=some (wn n++bl33 p).length):=by show _=_;rw[hlen];exact iT
   have HLS:Hid ((Tryz.prog.info? 167).map (·.size)=some (wn n++bl33 p).toArray.size∧W1.there wr.heap.size 0 (wn n++bl33 p).toArray.size):=by
    have e:(wn n++bl33 p).toArray.size=37:=by rw[List.size_toArray];exact hlen
    rw[e];exact ⟨iT,F1.out.1.2.2⟩
   have HAL:Hid ((wn n++bl33 p).toArray.all (·.oneCell')=true):=by
    show _=_
    rw[Array.all_eq_true']
    intro u hu
    exact cells_one n p u (List.mem_toArray.1 hu)
   have hix:=atT g 0 k cap i hi
   obtain ⟨vt,hvt⟩:∃ v,Hid (Value.agg (wn n++bl33 p).toArray=v):=⟨_,rfl⟩
   have G2:Gr 0 (.slice none 0 0) wr W2:=Gr.of F2.out.2
   have HB:Hid (∀ b,PBs w u3 u4 wr.heap.size n W2.heap.size w.heap.size p ((List.range i).map fun j=>bx (ns j)) ((List.range i).map az) (some ⟨g,0,none⟩) k ns az b W2.drew):=fun b=>by
    match b with
    | 0=>exact F2.out.1
    | 1=>exact (KM.out.l3.kept (by decide) G2 (by decide)).drew
    | 2=>exact (KM.out.l4.kept (by decide) G2 (by decide)).drew
    | 3=>exact ⟨(KM.out.bl.trans (F2.out.2.mono KM.out.bl.size)).drew,Nat.le_trans KM.out.bl.size F2.out.2.size,Nat.le_refl _⟩
    | 4=>exact KM.out.tm.kept (W':=W2) G2
    | 5=>exact KM.out.r2.below (W':=W2) F2.out.2
    | _+6=>trivial
   have H3:Hid (∀ g,u3.ownBlock=some g→w.heap.size≤g∧g<W2.heap.size):=fun g hg=>⟨(KM.out.l3.lt g hg).1,Nat.lt_of_lt_of_le (KM.out.l3.lt g hg).2 F2.out.2.size⟩
   have H4:Hid (∀ g,u4.ownBlock=some g→w.heap.size≤g∧g<W2.heap.size):=fun g hg=>⟨(KM.out.l4.lt g hg).1,Nat.lt_of_lt_of_le (KM.out.l4.lt g hg).2 F2.out.2.size⟩
   have HG:=Hid.mk' hg
   clear hlen hr G2 KM F2 hg
   go_wp2_with (first|(refine wpList_load_mid rfl 167 _ rfl g (37*i) ?_ (wn n++bl33 p) d' ?_ ?_ ?_ ?_ ?_;rfl;exact B0.out;exact HD.out.2.1;exact HD.out.2.2;exact HLT.out;rw[hvt.out])|(refine zAp (v:=.pointer (some ⟨wr.heap.size,0,none⟩)) (w':=W1) rfl (.alloc 167) rfl ?_ ?_;(rw[← hW1.out];kernel_rfl))|(refine wpList_store_mid rfl 167 _ _ rfl wr.heap.size 0 (wn n++bl33 p).toArray ?_ ?_ ?_ ?_ ?_ ?_;rfl;exact hvt.out.symm;exact HLS.out.2;exact HLS.out.1;exact HAL.out;rw[show (wn n++bl33 p).toArray.toList=wn n++bl33 p from rfl,hW2.out])|fail)
   refine RG.zFp (FP w u3 u4 wr.heap.size n W2.heap.size w.heap.size p ((List.range i).map fun j=>bx (ns j)) ((List.range i).map az) (some ⟨g,0,none⟩) k ns az) (by kernel_rfl) ⟨by kernel_rfl,RG.zMV ?_,fun i' j hi0 hj hij hkl hdp=>zRb u3 u4 wr.heap.size n W2.heap.size w.heap.size p _ _ H3.out H4.out i' j hj hij hkl (fun h=>by rw[h.1,h.2] at hdp;exact absurd (show false=true from hdp.symm.trans (by kernel_rfl)) (by decide)) (fun h=>by rw[h.1,h.2] at hdp;exact absurd (show false=true from hdp.symm.trans (by kernel_rfl)) (by decide)),fun i' b _ hkl=>zPw w u3 u4 wr.heap.size n W2.heap.size w.heap.size p _ _ _ k ns az H3.out H4.out i' b hkl⟩ HB.out ?_
   ·have hb0:∀ W:World,Gr 0 (.slice none 0 0) W W:=fun W=>Gr.of (Below.refl _ _)
    refine ⟨RG.zDZ 3 fun a W hp=>⟨a.eval (.tmp 3),W,by kernel_rfl,by kernel_rfl,hb0 W,hp.o 3 (by kernel_rfl)⟩,
     RG.zDZ 6 fun a W hp=>⟨.pointer (some ⟨wr.heap.size,0,none⟩),W,by kernel_rfl,by rw[show a.eval (.tmp 6)=.pointer (some ⟨wr.heap.size,0,none⟩) from hp.o 6 (by kernel_rfl)];kernel_rfl,hb0 W,rfl⟩,
     RG.zHV 49 17 rfl u40 fun a W hp=>⟨wr.heap.size,0,wn n,hp.n 1 17 (by kernel_rfl) (by kernel_rfl) (by kernel_rfl),zB4 (show Row W wr.heap.size (wn n++bl33 p) from hp.b 0 (by kernel_rfl)).2.1,i40,hb0 W,rfl⟩,
     RG.zLc 18 fun a W hp=>⟨39,#[nv n],by kernel_rfl,by rw[show a.eval (.tmp 18)=nv n from hp.n 2 18 (by kernel_rfl) (by kernel_rfl) (by kernel_rfl)];kernel_rfl,(zIi HC.out.2.1 hnN.out W).mono (by
      rintro e W' ⟨u,rfl,k',hm,rfl⟩
      exact ⟨_,rfl,Gr.of hm.bel,El.of_made hm (zA3 n)⟩)⟩,
     RG.zDZ 19 fun a W hp=>⟨.slice (some ⟨W.heap.size,0,none⟩) 1 1,W.alloc (.cells #[a.eval (.tmp 19)] 22),by kernel_rfl,by
      obtain ⟨k',c',he,-⟩:=show El 32 W (a.eval (.tmp 19)) (bx n) from hp.n 3 19 (by kernel_rfl) (by kernel_rfl) (by kernel_rfl)
      rw[he];kernel_rfl,Gr.of (zAf W _),Bo.of (show El 32 W (a.eval (.tmp 19)) (bx n) from hp.n 3 19 (by kernel_rfl) (by kernel_rfl) (by kernel_rfl)) (by decide) (hp.b 3 (by kernel_rfl)).2.2 _⟩,
     RG.zNA 16 20 44 rfl fun a W hp=>?_,
     RG.zDZ 4 fun a W hp=>⟨a.eval (.tmp 4),W,by kernel_rfl,by kernel_rfl,hb0 W,hp.o 4 (by kernel_rfl)⟩,
     RG.zDZ 6 fun a W hp=>⟨.pointer (some ⟨wr.heap.size,4,none⟩),W,by kernel_rfl,by rw[show a.eval (.tmp 6)=.pointer (some ⟨wr.heap.size,0,none⟩) from hp.o 6 (by kernel_rfl)];kernel_rfl,hb0 W,rfl⟩,
     RG.zHV 54 23 rfl uCP fun a W hp=>⟨wr.heap.size,4,bl33 p,hp.n 7 23 (by kernel_rfl) (by kernel_rfl) (by kernel_rfl),zBT (xs:=wn n) (show Row W wr.heap.size (wn n++bl33 p) from hp.b 0 (by kernel_rfl)).2.1,by rw[zAd hps.out];exact zAs,hb0 W,rfl⟩,
     RG.zLc 24 fun a W hp=>⟨85,#[pvl p],by kernel_rfl,by rw[show a.eval (.tmp 24)=pvl p from hp.n 8 24 (by kernel_rfl) (by kernel_rfl) (by kernel_rfl)];kernel_rfl,(zKm hps.out W).mono (by
      rintro e W' ⟨u,rfl,hb,hE⟩
      exact ⟨_,rfl,Gr.of hb,hE⟩)⟩,
     RG.zDZ 25 fun a W hp=>⟨.slice (some ⟨W.heap.size,0,none⟩) 1 1,W.alloc (.cells #[a.eval (.tmp 25)] 22),by kernel_rfl,by
      obtain ⟨k',c',he,-⟩:=show El 33 W (a.eval (.tmp 25)) p from hp.n 9 25 (by kernel_rfl) (by kernel_rfl) (by kernel_rfl)
      rw[he];kernel_rfl,Gr.of (zAf W _),Bo.of (show El 33 W (a.eval (.tmp 25)) p from hp.n 9 25 (by kernel_rfl) (by kernel_rfl) (by kernel_rfl)) (by decide) (hp.b 3 (by kernel_rfl)).2.2 _⟩,
     RG.zNA 22 26 44 rfl fun a W hp=>?_,
     RG.zDZ 21 fun a W hp=>⟨a.eval (.tmp 21),W,by kernel_rfl,by kernel_rfl,hb0 W,hp.n 5 21 (by kernel_rfl) (by kernel_rfl) (by kernel_rfl)⟩,
     RG.zDZ 27 fun a W hp=>⟨a.eval (.tmp 27),W,by kernel_rfl,by kernel_rfl,hb0 W,hp.n 11 27 (by kernel_rfl) (by kernel_rfl) (by kernel_rfl)⟩,trivial⟩
    ·obtain ⟨k',x,he,h1,h2,h3,h4⟩:=show Bo 32 W2.heap.size W (a.eval (.tmp 20)) (bx n) from hp.n 4 20 (by kernel_rfl) (by kernel_rfl) (by kernel_rfl)
     obtain ⟨v',W',r1,r2,r3⟩:=Lo.app (show Lo 32 w.heap.size W u3 _ from hp.b 1 (by kernel_rfl)) (by decide) h4 h3 (by rw[List.length_map,List.length_range];omega) (hp.b 3 (by kernel_rfl)).2.1
     refine ⟨v',W',?_,r3,r2⟩
     rw[he,show a.eval (.tmp 16)=u3 from hp.n 0 16 (by kernel_rfl) (by kernel_rfl) (by kernel_rfl)]
     exact r1
    ·obtain ⟨k',x,he,h1,h2,h3,h4⟩:=show Bo 33 W2.heap.size W (a.eval (.tmp 26)) p from hp.n 10 26 (by kernel_rfl) (by kernel_rfl) (by kernel_rfl)
     obtain ⟨v',W',r1,r2,r3⟩:=Lo.app (show Lo 33 w.heap.size W u4 _ from hp.b 2 (by kernel_rfl)) (by decide) h4 h3 (by rw[List.length_map,List.length_range];omega) (hp.b 3 (by kernel_rfl)).2.1
     refine ⟨v',W',?_,r3,r2⟩
     rw[he,show a.eval (.tmp 22)=u4 from hp.n 6 22 (by kernel_rfl) (by kernel_rfl) (by kernel_rfl)]
     exact r1
   ·intro V w5 hR5 hB5
    have KN:Hid (Pz w w5 (some ⟨g,0,none⟩) k (i+1) ns az (V 12) (V 13)):=by
     have h1:=hR5 12 (Nat.lt_of_succ_le (Nat.le_of_ble_eq_true (by kernel_rfl))) rfl
     have h2:=hR5 13 (Nat.lt_of_succ_le (Nat.le_of_ble_eq_true (by kernel_rfl))) rfl
     refine ⟨(hB5 3 rfl).1,?_,?_,hB5 4 rfl,hB5 5 rfl⟩
     ·rw[List.range_succ,List.map_append]
      show Lo 32 w.heap.size w5 (V 12) (_++[bx (ns i)])
      rw[hne.out];exact h1
     ·rw[List.range_succ,List.map_append]
      show Lo 33 w.heap.size w5 (V 13) (_++[az i])
      rw[hpe.out];exact h2
    clear hR5 hB5 HB H3 H4
    dsimp only[RG.putV,Nat.reduceAdd]
    generalize V 12=s3 at KN ⊢
    generalize V 13=s4 at KN ⊢
    go_wp2
    go_roundg (gk-1)
    case measure=>omega
    case rel=>exact ⟨i+1,by omega,rfl,KN⟩
  ·have hi':¬ (i:Int)<(k:Int):=by omega
   obtain rfl:i=k:=by omega
   obtain ⟨q3,c3,rfl,h3⟩:=KM.out.l3.args
   obtain ⟨q4,c4,rfl,h4⟩:=KM.out.l4.args
   rw[List.length_map,List.length_range] at h3 h4
   have HA:Hid (zGm wr q3 i (fun j=>bx (ns j))):=fun h0=>by
    obtain ⟨g,e1,e2,e3⟩:=h3 h0
    refine ⟨g,e1,e2,fun j hj=>?_⟩
    obtain ⟨x,x1,x2⟩:=e3 j (bx (ns j)) (by rw[List.getElem?_map,List.getElem?_range hj];rfl)
    exact ⟨x,x1,x2.arg⟩
   have HP:Hid (ArgsPts wr q4 i az):=fun h0=>by
    obtain ⟨g,e1,e2,e3⟩:=h4 h0
    refine ⟨g,e1,e2,fun j hj=>?_⟩
    obtain ⟨x,x1,x2⟩:=e3 j (az j) (by rw[List.getElem?_map,List.getElem?_range hj];rfl)
    exact ⟨x,x1,x2.arg33⟩
   rw[List.length_map,List.length_range,List.length_map,List.length_range]
   have KB:Hid (Below w.heap.size w wr∧Row wr w.heap.size z33):=⟨KM.out.bl,KM.out.r2⟩
   clear h3 h4 KM
   go_wp2_with fail
   refine (zQC HC.out.1 HC.out.2.1.gap HC.out.2.1.le q3 q4 i c3 i c4 (fun j=>bx (ns j)) az wr HA.out HP.out).mono ?_
   rintro e w6 ⟨vv,rfl,hb6,hS⟩
   obtain ⟨gs,cs,rfl,-,-,h6,h7⟩:=SumR.all HC.out.1 HC.out.2.1 (by omega) HC.out.2.2.1 HC.out.2.2.2 (fun _ _=>rfl) (fun j _=>haz'.out j) hS
   obtain ⟨T,hT⟩:∃ T,Hid (Go.Proofs.YtglhhepedoffeaaGreat.wr (EC.tot X i (fun j=>(ns j:Int)))=T):=⟨_,rfl⟩
   have hTs:T.size=33:=by rw[← hT.out];exact zAB _
   rw[hT.out] at h7
   have K6:Hid (Row w6 w.heap.size z33∧Below w.heap.size w w6∧Row w6 gs (bl33 T)):=⟨KB.out.2.below hb6,KB.out.1.trans (hb6.mono KB.out.1.size),zNl h7 h6⟩
   clear hb6 hS h6 h7 KB HA HP
   have harr:=zQ0 gs cs
   obtain ⟨w7,hw7⟩:∃ w7,Hid (w6.setCells w.heap.size 0 (bl33 T)=w7):=⟨_,rfl⟩
   have hlen:(bl33 T).length=33:=zAd hTs
   have K7:Hid (Row w7 w.heap.size (bl33 T)∧Below w.heap.size w w7):=by rw[← hw7.out];exact ⟨K6.out.1.put (by rw[hlen];rfl),RG.below_setCells (Nat.le_refl _) _ _ _ K6.out.2.1⟩
   obtain ⟨vt,hvt⟩:∃ vt,Hid (Value.agg (bl33 T).toArray=vt):=⟨_,rfl⟩
   have HI:Hid ((Tryz.prog.info? 54).map (·.size)=some (bl33 T).length∧w6.there w.heap.size 0 (bl33 T).toArray.size∧(Tryz.prog.info? 54).map (·.size)=some (bl33 T).toArray.size):=by
    have e:(bl33 T).toArray.size=33:=by rw[List.size_toArray];exact hlen
    refine ⟨by rw[hlen];exact zAs,by rw[e];exact K6.out.1.2.2,by rw[e];exact zAs⟩
   clear hlen
   go_wp2_with (first|(refine wpList_load_mid rfl 54 _ rfl gs 0 ?_ (bl33 T) d ?_ ?_ ?_ ?_ ?_;rfl;exact K6.out.2.2.2.1;exact HD.out.1.1;exact HD.out.1.2;exact HI.out.1;rw[hvt.out])|(refine wpList_store_mid rfl 54 _ _ rfl w.heap.size 0 (bl33 T).toArray ?_ ?_ ?_ ?_ ?_ ?_;rfl;exact hvt.out.symm;exact HI.out.2.1;exact HI.out.2.2;exact zBt T;rw[show (bl33 T).toArray.toList=bl33 T from rfl,hw7.out]))
   refine bodyPost_ret (zAv 2 54 rfl K7.out.1 rfl uCP HI.out.1) rfl ?_
   exact ⟨_,rfl,K7.out.2,by rw[hT.out];rfl⟩
theorem zKu (C:Fld P) (O:Ord N) {g c n:Nat} (hn:n<N) {X:EC.Pt P} (hX:EC.On X) (w:World) (hR:Row w g (wn n++bl33 (wr X))) :
 Calls Tryz.prog 75 #[.slice (some ⟨g,0,none⟩) 1 c] w (Ret fun e w'=>Below w.heap.size w w'∧e=pvl (wr (EC.mul n X))):=by
 by_cases h0:n=0
 ·subst h0
  refine (zDv C O _ w 0 (by decide) (fun _=>0) (fun _=>X) (fun j hj=>by omega) (fun j hj=>by omega) fun W hb=>?_).mono ?_
  ·refine (zMy g c (wr X) (zAB X) W (hR.below hb).1 (hR.below hb).2.1).mono ?_
   rintro e w' ⟨v,rfl,hb',q,cap,rfl⟩
   exact ⟨_,rfl,hb',q,cap,rfl,fun h=>by omega⟩
  ·rintro e w' ⟨v,rfl,hb',rfl⟩
   exact ⟨_,rfl,hb',rfl⟩
 ·refine (zDv C O _ w 1 (by decide) (fun _=>n) (fun _=>X) (fun j hj=>hn) (fun j hj=>hX) fun W hb=>?_).mono ?_
  ·have e1:mrg N (fun _=>n) (fun _=>wr X) 1=[(n,wr X)]:=rfl
   have h:=zMw (N:=N) g 1 c (by decide) (fun _=>n) (fun _=>wr X) (fun _ _=>zAB X) (fun i hi=>by
    obtain rfl:i=0:=by omega
    rfl) (fun x hx=>by
    rw[e1] at hx
    obtain rfl:x=(n,wr X):=by simpa using hx
    exact ⟨h0,Nat.lt_of_lt_of_le hn O.le⟩) (by rw[e1];exact Nat.lt_succ_self 0) W (hR.below hb).1 (fun j hj=>by
    obtain rfl:j=0:=by omega
    exact (hR.below hb).2.1)
   refine h.mono ?_
   rintro e w' ⟨v,rfl,hb',g',cap,rfl,h1,h2,h3⟩
   refine ⟨_,rfl,hb',some ⟨g',0,none⟩,cap,rfl,fun _=>⟨g',rfl,h2,fun j hj=>?_⟩⟩
   have:=h3 j hj
   obtain rfl:j=0:=by omega
   exact this
  ·rintro e w' ⟨v,rfl,hb',rfl⟩
   exact ⟨_,rfl,hb',rfl⟩
theorem zJK (C:Fld P) (O:Ord N) {n:Nat} (hn:n<N) {X:EC.Pt P} (hX:EC.On X):Gives 34 #[nv n,pvl (wr X)] (pvl (wr (EC.mul n X))):=by
 intro w
 have HC:Hid (Fld P∧Ord N∧n<N∧EC.On X):=⟨C,O,hn,hX⟩
 obtain ⟨a,hae⟩:∃ a,Hid (wr X=a):=⟨_,rfl⟩
 have ha:a.size=33:=by rw[← hae.out];exact zAB X
 rw[hae.out]
 clear C O hn hX
 have B2:=Hid.mk' (boxS n w)
 obtain ⟨w1,hw1⟩:∃ w1,Hid (w.alloc (.cells (wn n).toArray 49)=w1):=⟨_,rfl⟩
 rw[hw1.out] at B2
 have e1:w1.heap.size=w.heap.size+1:=by rw[← hw1.out,World.size_alloc]
 have B1:=Hid.mk' (zHZ ha w1)
 obtain ⟨w2,hw2⟩:∃ w2,Hid (w1.alloc (.cells (bl33 a).toArray 54)=w2):=⟨_,rfl⟩
 rw[hw2.out,e1] at B1
 have e2:w2.heap.size=w.heap.size+2:=by rw[← hw2.out,World.size_alloc,e1]
 obtain ⟨w3,hw3⟩:∃ w3,Hid (w2.alloc (.cells z33.toArray 54)=w3):=⟨_,rfl⟩
 have K:Hid (Row w3 w.heap.size (wn n)∧Row w3 (w.heap.size+1) (bl33 a)∧Row w3 (w.heap.size+2) z33∧Below w.heap.size w w3):=by
  have q1:Row w1 w.heap.size (wn n):=by rw[← hw1.out];exact zAi w _ _
  have q2:Row w2 (w.heap.size+1) (bl33 a):=by rw[← hw2.out,← e1];exact zAi w1 _ _
  have q3:Row w3 (w.heap.size+2) z33:=by rw[← hw3.out,← e2];exact zAi w2 _ _
  have b1:Below w.heap.size w w1:=by rw[← hw1.out];exact zAf w _
  have b2:Below w1.heap.size w1 w2:=by rw[← hw2.out];exact zAf w1 _
  have b3:Below w2.heap.size w2 w3:=by rw[← hw3.out];exact zAf w2 _
  exact ⟨(q1.below b2).below b3,q2.below b3,q3,(b1.trans (b2.mono (by omega))).trans (b3.mono (by omega))⟩
 have HE:Hid (w2.heap.size=w.heap.size+2):=e2
 have HL:Hid ((Tryz.prog.info? 54).map (·.size)=some (bl33 a).length):=by show _=_;rw[zAd ha];exact zAs
 obtain ⟨d,hd1,hd2⟩:=Option.map_eq_some_iff.1 uCP
 obtain ⟨d',hd3,hd4⟩:=Option.map_eq_some_iff.1 u40
 have HD:Hid ((Tryz.prog.underlying 54=some d∧d.isRow=true)∧Tryz.prog.underlying 49=some d'∧d'.isRow=true):=⟨⟨hd1,hd2⟩,hd3,hd4⟩
 clear hd1 hd2 hd3 hd4 hw1 hw2 e1 e2
 obtain ⟨va,hva⟩:∃ v,Hid (pvl a=v):=⟨_,rfl⟩
 obtain ⟨vn,hvn⟩:∃ v,Hid (nv n=v):=⟨_,rfl⟩
 have B1':Hid ((Instr.box 54 va).run Tryz.prog w1=.ok (.pointer (some ⟨w.heap.size+1,0,none⟩)) w2):=by rw[← hva.out];exact B1
 rw[hvn.out] at B2
 rw[hva.out,hvn.out]
 clear B1
 go_enter Tryz.func34,Tryz.ntmps34
 go_wp2_with (first|(refine zAD (u:=vn) (v:=.pointer (some ⟨w.heap.size,0,none⟩)) (w':=w1) rfl 49 (.tmp 0) rfl ?_ ?_ ?_;rfl;exact B2.out)|(refine zAD (u:=va) (v:=.pointer (some ⟨w.heap.size+1,0,none⟩)) (w':=w2) rfl 54 (.tmp 1) rfl ?_ ?_ ?_;rfl;exact B1'.out)|(refine zAp (v:=.pointer (some ⟨w.heap.size+2,0,none⟩)) (w':=w3) rfl (.alloc 54) rfl ?_ ?_;(rw[← hw3.out,← HE.out];kernel_rfl))|(refine wpList_load_mid rfl 49 _ rfl w.heap.size 0 ?_ (wn n) d' ?_ ?_ ?_ ?_ ?_;rfl;exact K.out.1.2.1;exact HD.out.2.1;exact HD.out.2.2;exact i40;rw[show Value.agg (wn n).toArray=vn from hvn.out])|(refine wpList_load_mid rfl 54 _ rfl (w.heap.size+1) 0 ?_ (bl33 a) d ?_ ?_ ?_ ?_ ?_;rfl;exact K.out.2.1.2.1;exact HD.out.1.1;exact HD.out.1.2;exact HL.out;rw[show Value.agg (bl33 a).toArray=va from hva.out]))
 have HT:=zEA a ha n w3
 rw[hva.out,hvn.out] at HT
 refine HT.mono ?_
 rintro e w4 ⟨vv,rfl,hb4,k4,rfl,-,hR4⟩
 have K4:Hid (Row w4 (w.heap.size+2) z33∧Below w.heap.size w w4∧Row w4 k4 (wn n++bl33 a)):=⟨K.out.2.2.1.below hb4,K.out.2.2.2.trans (hb4.mono K.out.2.2.2.size),hR4⟩
 clear hb4 hR4 K HT B2 B1' hw3 HE
 go_wp2_with fail
 refine (zKu HC.out.1 HC.out.2.1 HC.out.2.2.1 HC.out.2.2.2 w4 (by rw[hae.out];exact K4.out.2.2)).mono ?_
 rintro e w5 ⟨vv,rfl,hb5,rfl⟩
 obtain ⟨T,hT⟩:∃ T,Hid (wr (EC.mul n X)=T):=⟨_,rfl⟩
 have hTs:T.size=33:=by rw[← hT.out];exact zAB _
 rw[hT.out]
 have K5:Hid (Row w5 (w.heap.size+2) z33∧Below w.heap.size w w5):=⟨K4.out.1.below hb5,K4.out.2.1.trans (hb5.mono K4.out.2.1.size)⟩
 clear hb5 K4
 obtain ⟨w6,hw6⟩:∃ w6,Hid (w5.setCells (w.heap.size+2) 0 (bl33 T)=w6):=⟨_,rfl⟩
 have hlen:(bl33 T).length=33:=zAd hTs
 have K6:Hid (Row w6 (w.heap.size+2) (bl33 T)∧Below w.heap.size w w6):=by rw[← hw6.out];exact ⟨K5.out.1.put (by rw[hlen];rfl),RG.below_setCells (by omega) _ _ _ K5.out.2⟩
 obtain ⟨vt,hvt⟩:∃ vt,Hid (pvl T=vt):=⟨_,rfl⟩
 have HI:Hid ((Tryz.prog.info? 54).map (·.size)=some (bl33 T).length∧w5.there (w.heap.size+2) 0 (bl33 T).toArray.size∧(Tryz.prog.info? 54).map (·.size)=some (bl33 T).toArray.size):=by
  have e:(bl33 T).toArray.size=33:=by rw[List.size_toArray];exact hlen
  refine ⟨by rw[hlen];exact zAs,by rw[e];exact K5.out.1.2.2,by rw[e];exact zAs⟩
 clear hlen
 rw[hvt.out]
 go_wp2_with (first|(refine wpList_store_mid rfl 54 _ _ rfl (w.heap.size+2) 0 (bl33 T).toArray ?_ ?_ ?_ ?_ ?_ ?_;rfl;exact hvt.out.symm;exact HI.out.2.1;exact HI.out.2.2;exact zBt T;rw[show (bl33 T).toArray.toList=bl33 T from rfl,hw6.out]))
 refine bodyPost_ret (zAv 4 54 rfl K6.out.1 rfl uCP HI.out.1) rfl ?_
 exact ⟨_,rfl,K6.out.2,by rw[hT.out];rfl⟩
def fl33 (f:Nat→UInt8):List Value:=(List.range 33).map fun i=>.int .u8 (ub (f i))
theorem zC2 {a:Bs} (ha:a.size=33):bl33 a=fl33 fun i=>a[i]!:=(zCH ha).trans rfl
def fpv (f:Nat→UInt8):Value:=.agg (fl33 f).toArray
theorem zDf {a:Bs} (ha:a.size=33):pvl a=fpv fun i=>a[i]!:=by unfold pvl fpv;rw[zC2 ha]
def zz (n:Nat):List Value:=(List.replicate n (Value.int .u8 0))
end
namespace RG
open Go Go.RowKit
variable {P:Program} {ops:Array Oper} {Q:Exit→Act→World→Prop} {w:World} {a0:Act}
def AllE (a:Act):List (Tmp × Value)→Prop
 | []=>True
 | x :: r=>a.eval (.tmp x.1)=x.2∧AllE a r
def evl (ps:List (Tmp × Value)) (t:Tmp):Value:=match ps.find? (fun x=>x.1 == t) with|some x=>x.2|none=>undef
theorem AllE.mem {a:Act}:∀ {ps:List (Tmp × Value)},AllE a ps→∀ x∈ps,a.eval (.tmp x.1)=x.2
 | [],_,x,hx=>by cases hx
 | y :: r,h,x,hx=>by
  rcases List.mem_cons.1 hx with rfl|hx
  ·exact h.1
  ·exact AllE.mem h.2 x hx
theorem AllE.ev {a:Act} {ps:List (Tmp × Value)} (h:AllE a ps):∀ t∈ps.map (·.1),a.eval (.tmp t)=evl ps t:=fun t ht=>by
 obtain ⟨x,hx,rfl⟩:=List.mem_map.1 ht
 unfold evl
 cases hf:ps.find? (fun y=>y.1 == x.1) with
 | none =>
  have:=List.find?_eq_none.1 hf x hx
  simp at this
 | some y =>
  have h1:=List.mem_of_find?_eq_some hf
  have h2:y.1=x.1:=by simpa using List.find?_some hf
  have:=h.mem y h1
  rw[h2] at this
  exact this
structure Gw where
 R:Nat→Value→World→Prop
 B:World→Prop
 sR:∀ i v w w',Below w.heap.size w w'→R i v w→R i v w'
 sB:∀ w w',Below w.heap.size w w'→B w→B w'
def Gw.flow (G:Gw):Flow:=⟨G.R,fun _=>G.B,fun _ w w'=>Below w.heap.size w w',fun _=>[],fun _=>[]⟩
structure PreG (G:Gw) (ops:Array Oper) (a0:Act) (k:Nat) (o:Oper) (a:Act) (w:World):Prop where
 n:∀ j d,depB o j=true→zCe ops j=some d→G.R j (a.eval (.tmp d)) w
 o:∀ t,zME ops k t=true→a.eval (.tmp t)=a0.eval (.tmp t)
 b:G.B w
variable {G:Gw}
theorem zKo {k:Nat} {o:Oper} {a:Act} (h:PreF G.flow ops a0 k o a w):PreG G ops a0 k o a w:=⟨fun j d hj hd=>h.n j d hj rfl hd,h.o,h.b 0 rfl⟩
theorem zA1 {k:Nat} {o:Oper} (h:∀ (a:Act) (w:World),PreG G ops a0 k o a w→∃ (ps:List (Tmp × Value)) (v:Value) (w':World),AllE a ps∧(zIU (ps.map (·.1)) o,(execOp (evo (evl ps)) o).run P w)=(true,.ok (.value v) w')∧Below w.heap.size w w'∧G.R k v w'):zFb P Q G.flow ops a0 k o:=
 zNz fun a w hp=>by
  obtain ⟨ps,v,w',he,hs,hE⟩:=h a w (zKo hp)
  simp only[Prod.mk.injEq] at hs
  refine ⟨v,w',?_,hE⟩
  rw[zGa (evl ps) (ps.map (·.1)) hs.1 he.ev]
  exact hs.2
theorem zA9 {k:Nat} {o:Oper} (h:∀ (a:Act) (w:World),PreG G ops a0 k o a w→∃ (ps:List (Tmp × Value)) (f:FuncId) (args:Array Value),AllE a ps∧(zIU (ps.map (·.1)) o,(execOp (evo (evl ps)) o).run P w)=(true,.ok (.enter f args) w)∧Calls P f args w (Ret fun e w'=>Below w.heap.size w w'∧G.R k e w')):zFb P Q G.flow ops a0 k o:=by
 intro a w K h1 h2 h3 hK
 obtain ⟨ps,f,args,he,hs,hc⟩:=h a w (zKo ⟨h1,h2,h3⟩)
 simp only[Prod.mk.injEq] at hs
 unfold Oper.wp
 rw[zGa (evl ps) (ps.map (·.1)) hs.1 he.ev,hs.2,Oper.upon_enter]
 refine hc.mono ?_
 rintro e w' ⟨v,rfl,hE,hR⟩
 exact hK _ _ hE hR
theorem zA6 {k:Nat} {o:Oper} (T:TypeId) (t:Tmp) (ho:o.op=.load T (.tmp t)) (hu:(P.underlying T).map (·.isRow)=some true)
 (h:∀ (a:Act) (w:World),PreG G ops a0 k o a w→∃ g off cs,a.eval (.tmp t)=.pointer (some ⟨g,off,none⟩)∧w.rangeAt g off cs∧(P.info? T).map (·.size)=some cs.length∧G.R k (.agg cs.toArray) w):zFb P Q G.flow ops a0 k o:=
 zHV T t ho hu fun a w hp=>by
  obtain ⟨g,off,cs,h1,h2,h3,h4⟩:=h a w (zKo hp)
  exact ⟨g,off,cs,h1,h2,h3,Below.refl _ _,h4⟩
theorem Gw.reg {m:Nat} (hc:chkF ops a0.tmps.size=true) (h:zE6 P Q G.flow ops a0 0 (ops.toList.take m)):RegF P Q G.flow ops a0 m:=
 ⟨hc,zLd h,fun i j _ _ _ _ _ v w w' hE hR=>G.sR j v w w' hE hR,fun i b _ _ w w' hE hB=>G.sB w w' hE hB⟩
theorem Gw.draws {id:Nat} (G:Gw) (hm:P.follows .mixedOrders=true) (hc:chkF ops a0.tmps.size=true) (h:zE6 P Q G.flow ops a0 0 (ops.toList.take ops.size)) (hB:G.B w.drew)
 (hp:∀ (V:Nat→Value) (w':World),(∀ i,i<ops.size→G.R i (V i) w')→G.B w'→Q .normal (putV V ops.toList 0 a0) w'):(Code.region id ops true).wp P Q a0 w:=
 zFp G.flow hm (Gw.reg hc h) (fun _=>hB) fun V w' h1 h2=>hp V w' (fun i hi=>h1 i hi rfl) (h2 0 rfl)
theorem Gw.last {id:Nat} (G:Gw) (n:Nat) (hn:((ops.size == n+1) && (List.range n).all (fun j=>depOn ops n j || (List.range n).any (fun i=>depOn ops n i && depOn ops i j)))=true) (hm:P.follows .mixedOrders=true) (hc:chkF ops a0.tmps.size=true) (h:zE6 P Q G.flow ops a0 0 (ops.toList.take n)) (hB:G.B w.drew)
 (hp:∀ (V:Nat→Value) (w':World),(∀ i,i<n→G.R i (V i) w')→G.B w'→wpList P ops Q (ops.toList.drop n) (putV V (ops.toList.take n) 0 a0) w'):(Code.region id ops true).wp P Q a0 w:=by
 rw[Bool.and_eq_true,beq_iff_eq] at hn
 exact zKX G.flow n hn.1 hn.2 hm (Gw.reg hc h) (fun _=>hB) fun V w' h1 h2=>hp V w' (fun i hi=>h1 i hi rfl) (h2 0 rfl)
end RG
section
open Go.RowKit Go.Sort Go.Deep
variable {P:Nat} [NeZero P] {N:Nat}
theorem zHk {w:World} {g o:Nat} {v:Value} {cur:Array Value} {e:TypeId} {z:Nat × Nat} (h:w.heap[g]? = some (.cells cur e z)):∃ cur2:Array Value,(w.setCell ⟨g,o,none⟩ v).heap[g]? = some (.cells cur2 e z)∧cur2.size=cur.size:=by
 have hlt:g<w.heap.size:=(Array.getElem?_eq_some_iff.1 h).1
 refine ⟨cur.setIfInBounds o v,?_,Array.size_setIfInBounds ..⟩
 have h2:w.heap[g]=.cells cur e z:=by rw[Array.getElem?_eq_getElem hlt] at h;exact Option.some.inj h
 simp[World.setCell,Array.getElem_modify,hlt,h2]
theorem zDN {g:Nat} {e:TypeId} {z:Nat × Nat}:∀ (vs:List Value) (o:Nat) (w:World) (cur:Array Value),w.heap[g]? = some (.cells cur e z)→∃ cur2:Array Value,(w.setCells g o vs).heap[g]? = some (.cells cur2 e z)∧cur2.size=cur.size
 | [],_,_,cur,h=>⟨cur,h,rfl⟩
 | v :: r,o,w,cur,h=>by
  obtain ⟨c1,h1,h2⟩:=zHk (o:=o) (v:=v) h
  obtain ⟨c2,h3,h4⟩:=zDN r (o+1) _ c1 h1
  exact ⟨c2,h3,h4.trans h2⟩
theorem zMm {W:World} {base n s g o cap:Nat} {e:TypeId} {xs vs:List Value} (h:W.ownsRow base e s (.slice (some ⟨g,0,none⟩) n cap) n xs) (hl:o+vs.length≤n*s):(W.setCells g o vs).ownsRow base e s (.slice (some ⟨g,0,none⟩) n cap) n (RG.rep xs o vs):=by
 have hx:o+vs.length≤xs.length:=by rw[h.1];exact hl
 refine ⟨by rw[RG.zAQ hx];exact h.1,?_⟩
 rcases h.2 with ⟨h1,-⟩|⟨g',cap',cur,h1,h2,h3,h4,h5,h6,h7⟩
 ·cases h1
 ·injection h1 with e1 e2 e3
  injection e1 with e1
  injection e1 with e1
  subst e1
  subst e3
  obtain ⟨c2,k1,k2⟩:=zDN vs o W cur h3
  refine Or.inr ⟨g,cap,c2,rfl,h2,k1,h4,h5,by rw[k2];exact h6,?_⟩
  have hcs:n*s≤cur.size:=by rw[h6];exact Nat.mul_le_mul_right s h4
  apply List.ext_getElem?
  intro i
  rw[RG.rep_at hx,List.getElem?_take,← h7]
  have c1:∀ i,W.cell? ⟨g,i,none⟩=cur[i]?:=fun i=>cell_of_row W g i cur e (0,0) h3
  have c3:(W.setCells g o vs).cell? ⟨g,i,none⟩=c2[i]?:=cell_of_row _ g i c2 e (0,0) k1
  by_cases hi:i<n*s
  ·rw[if_pos hi]
   by_cases hin:o≤i∧i<o+vs.length
   ·rw[if_pos hin]
    have hj:i-o<vs.length:=by omega
    have:=World.cell?_setCells_in g vs o W (fun j hj=>by rw[c1 (o+j),Array.getElem?_eq_getElem (by omega)];rfl) (i-o) hj
    rw[show o+(i-o)=i by omega,c3] at this
    rw[Array.getElem?_toList,this,List.getElem?_eq_getElem hj]
   ·rw[if_neg hin,List.getElem?_take,if_pos hi,Array.getElem?_toList,Array.getElem?_toList,← c3,← c1 i]
    exact World.cell?_setCells_out g vs o W ⟨g,i,none⟩ (fun _ _=>by show i<o∨o+vs.length≤i;omega)
  ·rw[if_neg hi,if_neg (by omega),List.getElem?_take,if_neg hi]
theorem zOo {xs ys vs:List Value} {o:Nat}:RG.rep (xs++ys) (xs.length+o) vs=xs++RG.rep ys o vs:=by
 unfold RG.rep
 rw[List.take_length_add_append,Nat.add_assoc,List.drop_length_add_append,List.append_assoc]
theorem zBL {n:Nat} {p:Bs} (hp:p.size=33):(wn n++bl33 p).length=37:=by rw[List.length_append,zAd hp];rfl
theorem zBd (x:Nat × Bs) (r:List (Nat × Bs)):zAu (x :: r)=(wn x.1++bl33 x.2)++zAu r:=by unfold zAu;rw[List.flatMap_cons]
theorem zFy (s:Nat):∀ (l:List (Nat × Bs)) (j:Nat) (hj:j<l.length),(∀ x∈l.map (·.2),x.size=33)→zAu (l.set j (s,(l[j]).2))=RG.rep (zAu l) (37*j) (wn s)
 | [],j,hj,_=>by cases hj
 | x :: r,0,_,_=>by
  show zAu ((s,x.2) :: r)=_
  rw[zBd,zBd]
  rfl
 | x :: r,j+1,hj,hs=>by
  have hx:=zBL (n:=x.1) (hs x.2 (by simp))
  show zAu (x :: r.set j (s,(r[j]'(by simpa using hj)).2))=_
  rw[zBd,zBd,zFy s r j (by simpa using hj) (fun y hy=>hs y (List.mem_cons_of_mem _ hy)),show 37*(j+1)=(wn x.1++bl33 x.2).length+37*j by rw[hx];omega,zOo]
theorem at?_some {p:Bs}:∀ {l:List (Nat × Bs)} {i j:Nat},at? p (l.map (·.2)) i=some j→i≤j∧∃ h:j-i<l.length,(l[j-i]).2=p∧∀ n,addT N l n p=l.set (j-i) (sPl N (l[j-i]).1 n,p)
 | [],i,j,h=>by cases h
 | (s,q) :: r,i,j,h=>by
  rw[List.map_cons] at h
  unfold at? at h
  by_cases hq:p=q
  ·rw[if_pos hq] at h
   obtain rfl:=Option.some.inj h
   refine ⟨Nat.le_refl _,by simp,?_,fun n=>?_⟩
   ·simp[hq]
   ·unfold addT
    rw[if_pos hq]
    simp[hq]
  ·rw[if_neg hq] at h
   obtain ⟨h1,h2,h3,h4⟩:=at?_some h
   have e:j-i=(j-(i+1))+1:=by omega
   refine ⟨by omega,by simp;omega,?_,fun n=>?_⟩
   ·simp only[e,List.getElem_cons_succ];exact h3
   ·unfold addT
    rw[if_neg hq,h4 n]
    simp only[e,List.getElem_cons_succ,List.set_cons_succ]
theorem zM7 {n:Nat} {p:Bs} {l:List (Nat × Bs)} {j:Nat} (h:at? p (l.map (·.2)) 0=some j):(addT N l n p).map (·.2)=l.map (·.2)∧(addT N l n p).length=l.length:=by
 obtain ⟨-,h2,h3,h4⟩:=at?_some (N:=N) h
 rw[h4 n]
 refine ⟨?_,List.length_set ..⟩
 rw[List.map_set]
 apply List.ext_getElem?
 intro i
 rw[List.getElem?_set]
 by_cases hi:j-0=i
 ·subst hi
  rw[if_pos rfl,if_pos (by rw[List.length_map];exact h2),List.getElem?_map,List.getElem?_eq_getElem h2]
  exact congrArg some h3.symm
 ·rw[if_neg hi]
theorem Mx.again {w W:World} {m g cap:Nat} {l:List (Nat × Bs)} {p:Bs} {j:Nat} (h:Mx w W m l (.slice (some ⟨g,0,none⟩) l.length cap)) (hs:∀ x∈l.map (·.2),x.size=33) (hj:at? p (l.map (·.2)) 0=some j) (hl:j<l.length) (n:Nat) :
 Mx w (W.setCells g (37*j) (wn (sPl N (l[j]).1 n))) m (addT N l n p) (.slice (some ⟨g,0,none⟩) l.length cap):=by
 have hne:=h.own_ne (g:=g) rfl
 obtain ⟨e1,e2⟩:=zM7 (N:=N) (n:=n) hj
 refine ⟨RG.below_setCells hne.2.1 _ _ _ h.bl,?_,h.lm,?_⟩
 ·rw[RG.zAP _ _ _ _ _ (Ne.symm hne.1),e1,e2]
  exact h.mp
 ·obtain ⟨-,h2,h3,h4⟩:=at?_some (N:=N) hj
  have e3:addT N l n p=l.set j (sPl N (l[j]).1 n,(l[j]).2):=by rw[h4 n];simp only[Nat.sub_zero] at h3 ⊢;rw[h3]
  rw[e2,e3,zFy _ l j hl hs]
  exact zMm h.ow (by show 37*j+4≤_;omega)
theorem zKE (O:Ord N) (ns:Nat→Nat) (az:Nat→Bs) {k:Nat} (hn:∀ j,j<k→ns j<N):∀ i,i≤k→∀ x∈mrg N ns az i,x.1<N
 | 0,_=>fun x hx=>by cases hx
 | i+1,hi=>by
  have ih:=zKE O ns az hn i (by omega)
  have h:∀ (l:List (Nat × Bs)) n p,n<N→(∀ x∈l,x.1<N)→∀ x∈addT N l n p,x.1<N:=by
   intro l n p hp
   induction l with
   | nil=>intro _ x hx;simp[addT] at hx;rw[hx];exact hp
   | cons y r ihr =>
    intro hl x hx
    unfold addT at hx
    split at hx
    ·rcases List.mem_cons.1 hx with rfl|hx
     ·exact Nat.mod_lt _ O.pos
     ·exact hl x (List.mem_cons_of_mem _ hx)
    ·rcases List.mem_cons.1 hx with rfl|hx
     ·exact hl _ List.mem_cons_self
     ·exact ihr (fun z hz=>hl z (List.mem_cons_of_mem _ hz)) x hx
  exact h _ _ _ (hn i (by omega)) ih
end
section
open Go.RowKit Go.Sort Go.Deep
variable {N:Nat}
section
variable (w:World) (m g4 cap k6 j s n z:Nat) (l:List (Nat × Bs)) (p:Bs)
def Ra:Nat→Value→World→Prop
 | 0,v,_=>v=.slice (some ⟨g4,0,none⟩) l.length cap
 | 1,v,_=>v=.int .i64 j
 | 2,v,_=>v=.slice (some ⟨g4,0,none⟩) l.length cap
 | 3,v,_=>v=.int .i64 j
 | 4,v,_=>v=.pointer (some ⟨g4,0+37*j,none⟩)
 | 5,v,_=>v=.pointer (some ⟨g4,0+37*j,none⟩)
 | 6,v,_=>v=nv s
 | 7,v,_=>v=.pointer (some ⟨k6,0,none⟩)
 | 8,v,_=>v=nv n
 | 9,v,_=>v=nv z
 | 10,v,_=>v=.pointer (some ⟨g4,0+37*j,none⟩)
 | 11,v,_=>v=.pointer (some ⟨g4,0+37*j,none⟩)
 | _,_,_=>True
theorem zRa {i:Nat} {v:Value} {W W':World} (h:Ra g4 cap k6 j s n z l i v W):Ra g4 cap k6 j s n z l i v W':=by
 match i,h with
 | 0,h=>exact h
 | 1,h=>exact h
 | 2,h=>exact h
 | 3,h=>exact h
 | 4,h=>exact h
 | 5,h=>exact h
 | 6,h=>exact h
 | 7,h=>exact h
 | 8,h=>exact h
 | 9,h=>exact h
 | 10,h=>exact h
 | 11,h=>exact h
 | _+12,_=>trivial
def Ga:RG.Gw:=⟨Ra g4 cap k6 j s n z l,fun W=>Mx w W m l (.slice (some ⟨g4,0,none⟩) l.length cap)∧Row W k6 (wn n++bl33 p),fun _ _ _ _ _ h=>zRa g4 cap k6 j s n z l h,fun _ _ hb h=>⟨h.1.kept hb,h.2.below hb⟩⟩
end
theorem range_front' {W:World} {k o:Nat} {xs ys:List Value} (h:W.rangeAt k o (xs++ys)):W.rangeAt k o xs:=fun j v hj=>h j v (by rw[List.getElem?_append_left (List.getElem?_eq_some_iff.1 hj).1];exact hj)
theorem Mx.drew {w W:World} {m:Nat} {l:List (Nat × Bs)} {v:Value} (h:Mx w W m l v):Mx w W.drew m l v:=⟨h.bl.drew,h.mp,h.lm,h.ow⟩
theorem zMx (O:Ord N) (R:Value→World→Prop) (g k c:Nat) (hk:k≤1000) (ns:Nat→Nat) (az:Nat→Bs) (ha:∀ j,j<k→(az j).size=33) (hn:∀ j,j<k→ns j<N) (w:World) (hg:g<w.heap.size) (hr:∀ j,j<k→w.rangeAt g (37*j) (wn (ns j)++bl33 (az j)))
 (hdel:∀ W v,Mx w W w.heap.size (mrg N ns az k) v→Calls Tryz.prog 170 #[v,.func (.func 171) #[] #[]] W (Ret R)) :
 Calls Tryz.prog 124 #[.slice (some ⟨g,0,none⟩) k c] w (Ret R):=by
 have HDEL:=Hid.mk' hdel
 clear hdel
 have hmm:(Instr.makeMap 226 none).run Tryz.prog w=.ok (.map (some w.heap.size)) (w.alloc (.map #[] 0)):=by kernel_rfl
 obtain ⟨w1,hw1⟩:∃ w1,Hid (w.alloc (.map #[] 0)=w1):=⟨_,rfl⟩
 rw[hw1.out] at hmm
 have M1:Hid (Mx w w1 w.heap.size (mrg N ns az 0) (.slice none 0 0)):=by
  rw[← hw1.out]
  exact ⟨zAf w _,by show (w.heap.push (.map #[] 0))[w.heap.size]? = _;rw[Array.getElem?_push_size];rfl,Nat.le_refl _,rfl,Or.inl ⟨rfl,rfl⟩⟩
 have HH:Hid (Ord N∧(∀ j,j<k→(az j).size=33)∧(∀ i,i<k→ns i<N)∧g<w.heap.size∧∀ j,j<k→w.rangeAt g (37*j) (wn (ns j)++bl33 (az j))):=⟨O,ha,hn,hg,hr⟩
 obtain ⟨d,hd1,hd2⟩:=Option.map_eq_some_iff.1 uCP
 obtain ⟨d',hd3,hd4⟩:=Option.map_eq_some_iff.1 uT
 have HD:Hid ((Tryz.prog.underlying 54=some d∧d.isRow=true)∧Tryz.prog.underlying 167=some d'∧d'.isRow=true):=⟨⟨hd1,hd2⟩,hd3,hd4⟩
 clear hd1 hd2 hd3 hd4 hw1 ha hn hg hr O
 go_enter Tryz.func124,Tryz.ntmps124
 go_wp2
 clear hmm
 go_loopg [4,12] k (fun q s4 s12 W=>∃ i:Nat,i+q=k∧s12=.int .i64 i∧Hid (Mx w W w.heap.size (mrg N ns az i) s4))
 case atStart=>exact ⟨0,by omega,rfl,M1⟩
 case round =>
  clear M1
  obtain ⟨i,hik,rfl,KM⟩:=hrel
  by_cases hi:i<k
  ·have hi':(i:Int)<(k:Int):=by omega
   obtain ⟨n,hne⟩:∃ n,Hid (ns i=n):=⟨_,rfl⟩
   obtain ⟨p,hpe⟩:∃ p,Hid (az i=p):=⟨_,rfl⟩
   obtain ⟨l,hl⟩:∃ l,Hid (mrg N ns az i=l):=⟨_,rfl⟩
   rw[hl.out] at KM
   have hps:Hid (p.size=33):=by have:=HH.out.2.1 i hi;rw[hpe.out] at this;exact this
   have hll:Hid (l.length≤i):=by have:=zEL (N:=N) ns az i;rw[hl.out] at this;exact this
   obtain ⟨q,cap,rfl⟩:=zGN KM.out.ow
   obtain ⟨W1,hW1⟩:∃ W1,Hid (wr.alloc (.cells zT.toArray 167)=W1):=⟨_,rfl⟩
   obtain ⟨W2,hW2⟩:∃ W2,Hid (W1.setCells wr.heap.size 0 (wn n++bl33 p)=W2):=⟨_,rfl⟩
   have hlen:(wn n++bl33 p).length=37:=by rw[List.length_append,zAd hps.out];rfl
   have F1:Hid (Row W1 wr.heap.size zT∧Below wr.heap.size wr W1∧W1.heap.size=wr.heap.size+1):=by rw[← hW1.out];exact ⟨zAi wr _ _,zAf wr _,World.size_alloc _ _⟩
   have F2:Hid (Row W2 wr.heap.size (wn n++bl33 p)∧Below wr.heap.size wr W2∧W2.heap.size=wr.heap.size+1):=by rw[← hW2.out];exact ⟨F1.out.1.put (by rw[hlen];rfl),RG.below_setCells (Nat.le_refl _) _ _ _ F1.out.2.1,by rw[RG.setCells_size];exact F1.out.2.2⟩
   have K2:Hid (Mx w W2 w.heap.size l (.slice q l.length cap)):=KM.out.kept F2.out.2.1
   have hsz:∀ x∈l.map (·.2),x.size=33:=by have:=zDk (N:=N) ns az HH.out.2.1 i (by omega);rw[hl.out] at this;exact this
   cases hat:at? p (l.map (·.2)) 0 with
   | none =>
    have hnone:Hid (at? p (l.map (·.2)) 0=none):=hat
    have B1:=Hid.mk' (zF5 hps.out (l.map (·.2)) hsz w.heap.size l.length W2 K2.out.mp)
    rw[hnone.out] at B1
    have B2:Hid ((Instr.mapUpdate 226 (.map (some w.heap.size)) (.agg (bl33 p).toArray) (.int .i64 (l.length:Int))).run Tryz.prog W2=.ok () (W2.putObj w.heap.size (.map (ents (l.map (·.2)++[p]) 0).toArray (l.length+1)))):=by
     have h:=zJC hps.out (l.map (·.2)) hsz w.heap.size W2 (by rw[List.length_map];exact K2.out.mp) hnone.out
     rw[List.length_map] at h
     exact h
    obtain ⟨v',W5,happ,K5,lt5,-⟩:=K2.out.push hps.out (by have:=hll.out;omega) n
    obtain ⟨W3,hW3⟩:∃ W3,Hid (W2.putObj w.heap.size (.map (ents (l.map (·.2)++[p]) 0).toArray (l.length+1))=W3):=⟨_,rfl⟩
    have F3:Hid (Row W3 wr.heap.size (wn n++bl33 p)∧W3.heap.size=wr.heap.size+1):=by rw[← hW3.out];exact ⟨F2.out.1.putObj K2.out.mp rfl _,by simp[World.putObj];exact F2.out.2.2⟩
    have B3:=Hid.mk' (bslT hps.out n W3)
    obtain ⟨W4,hW4⟩:∃ W4,Hid (W3.alloc (.cells (wn n++bl33 p).toArray 167)=W4):=⟨_,rfl⟩
    rw[hW3.out] at B2 happ
    rw[hW4.out] at B3 happ
    rw[F3.out.2] at B3
    rw[F2.out.2.2] at happ
    have K5':Hid (Mx w W5 w.heap.size (mrg N ns az (i+1)) v'):=by
     have e:mrg N ns az (i+1)=l++[(n,p)]:=by
      show addT N (mrg N ns az i) (ns i) (az i)=_
      rw[hl.out,hne.out,hpe.out]
      exact zGi hnone.out
     rw[e];exact K5
    have B0:Hid (wr.rangeAt g (37*i) (wn n++bl33 p)):=by
     have h:=RG.zAk (HH.out.2.2.2.2 i hi) KM.out.bl HH.out.2.2.2.1
     rw[hne.out,hpe.out] at h
     exact h
    have HLT:Hid ((Tryz.prog.info? 167).map (·.size)=some (wn n++bl33 p).length):=by show _=_;rw[hlen];exact iT
    have HLS:Hid ((Tryz.prog.info? 167).map (·.size)=some (wn n++bl33 p).toArray.size∧W1.there wr.heap.size 0 (wn n++bl33 p).toArray.size):=by
     have e:(wn n++bl33 p).toArray.size=37:=by rw[List.size_toArray];exact hlen
     rw[e];exact ⟨iT,F1.out.1.2.2⟩
    have HLP:Hid ((Tryz.prog.info? 54).map (·.size)=some (bl33 p).length):=by show _=_;rw[zAd hps.out];exact zAs
    have HB:Hid (W2.rangeAt wr.heap.size 4 (bl33 p)):=zBT (xs:=wn n) F2.out.1.2.1
    have HAL:Hid ((wn n++bl33 p).toArray.all (·.oneCell')=true):=by
     show _=_
     rw[Array.all_eq_true']
     intro u hu
     exact cells_one n p u (List.mem_toArray.1 hu)
    have hix:=atT g 0 k c i hi
    have HAP:=Hid.mk' happ
    clear happ
    obtain ⟨vt,hvt⟩:∃ v,Hid (Value.agg (wn n++bl33 p).toArray=v):=⟨_,rfl⟩
    obtain ⟨vp,hvp⟩:∃ v,Hid (Value.agg (bl33 p).toArray=v):=⟨_,rfl⟩
    rw[hvp.out] at B1 B2
    rw[hvt.out] at B3
    clear hlen hsz K5 lt5 hW4 hW3 K2 KM
    go_wp2_with (first|(refine wpList_load_mid rfl 167 _ rfl g (37*i) ?_ (wn n++bl33 p) d' ?_ ?_ ?_ ?_ ?_;rfl;exact B0.out;exact HD.out.2.1;exact HD.out.2.2;exact HLT.out;rw[hvt.out])|(refine zAp (v:=.pointer (some ⟨wr.heap.size,0,none⟩)) (w':=W1) rfl (.alloc 167) rfl ?_ ?_;(rw[← hW1.out];kernel_rfl))|(refine wpList_store_mid rfl 167 _ _ rfl wr.heap.size 0 (wn n++bl33 p).toArray ?_ ?_ ?_ ?_ ?_ ?_;rfl;exact hvt.out.symm;exact HLS.out.2;exact HLS.out.1;exact HAL.out;rw[show (wn n++bl33 p).toArray.toList=wn n++bl33 p from rfl,hW2.out])|(refine wpList_load_mid rfl 54 _ rfl wr.heap.size 4 ?_ (bl33 p) d ?_ ?_ ?_ ?_ ?_;rfl;exact HB.out;exact HD.out.1.1;exact HD.out.1.2;exact HLP.out;rw[hvp.out])|(refine zEj (x:=.map (some w.heap.size)) (y:=vp) (w':=W2) rfl 226 _ _ true rfl ?_ ?_ B1.out ?_;rfl;rfl)|(refine zGo (x:=.map (some w.heap.size)) (y:=vp) (z:=.int .i64 (l.length:Int)) (w':=W3) rfl 226 _ _ _ rfl ?_ ?_ ?_ B2.out ?_;rfl;rfl;rfl)|(refine wpList_load_mid rfl 167 _ rfl wr.heap.size 0 ?_ (wn n++bl33 p) d' ?_ ?_ ?_ ?_ ?_;rfl;exact F3.out.1.2.1;exact HD.out.2.1;exact HD.out.2.2;exact HLT.out;rw[hvt.out])|(refine zDs (v:=.slice (some ⟨wr.heap.size+1,0,none⟩) 1 1) (w':=W4) rfl 106 1 _ rfl #[(0,vt)] ?_ B3.out ?_;kernel_rfl)|(refine zCy (x:=.slice q l.length cap) (y:=.slice (some ⟨wr.heap.size+1,0,none⟩) 1 1) (v:=v') (w':=W5) rfl _ _ 106 rfl ?_ ?_ ?_ ?_;rfl;rfl;exact HAP.out))
    go_roundg (gk-1)
    case measure=>omega
    case rel=>exact ⟨i+1,by omega,rfl,K5'⟩
   | some j =>
    obtain ⟨-,hjl,hjp,-⟩:=at?_some (N:=N) hat
    rw[Nat.sub_zero] at hjl
    simp only[Nat.sub_zero] at hjp
    have B1:=Hid.mk' (zF5 hps.out (l.map (·.2)) hsz w.heap.size l.length W2 K2.out.mp)
    rw[hat] at B1
    obtain ⟨g4,cap4,he4,-,hg4,hr4⟩:=zCr K2.out.ow hsz (by omega)
    injection he4 with q1 q2 q3
    subst q1
    obtain ⟨s,hse⟩:∃ s,Hid ((l[j]'hjl).1=s):=⟨(l[j]'hjl).1,(rfl:(l[j]'hjl).1=(l[j]'hjl).1)⟩
    have hsN:Hid (s<N):=by
     have:=zKE HH.out.1 ns az HH.out.2.2.1 i (by omega)
     rw[hl.out] at this
     rw[← hse.out]
     exact this _ (List.getElem_mem hjl)
    have hnN:Hid (n<N):=by rw[← hne.out];exact HH.out.2.2.1 i hi
    have B0:Hid (wr.rangeAt g (37*i) (wn n++bl33 p)):=by
     have h:=RG.zAk (HH.out.2.2.2.2 i hi) KM.out.bl HH.out.2.2.2.1
     rw[hne.out,hpe.out] at h
     exact h
    have HLT:Hid ((Tryz.prog.info? 167).map (·.size)=some (wn n++bl33 p).length):=by show _=_;rw[hlen];exact iT
    have HLS:Hid ((Tryz.prog.info? 167).map (·.size)=some (wn n++bl33 p).toArray.size∧W1.there wr.heap.size 0 (wn n++bl33 p).toArray.size):=by
     have e:(wn n++bl33 p).toArray.size=37:=by rw[List.size_toArray];exact hlen
     rw[e];exact ⟨iT,F1.out.1.2.2⟩
    have HLP:Hid ((Tryz.prog.info? 54).map (·.size)=some (bl33 p).length):=by show _=_;rw[zAd hps.out];exact zAs
    have HB:Hid (W2.rangeAt wr.heap.size 4 (bl33 p)):=zBT (xs:=wn n) F2.out.1.2.1
    have HAL:Hid ((wn n++bl33 p).toArray.all (·.oneCell')=true):=by
     show _=_
     rw[Array.all_eq_true']
     intro u hu
     exact cells_one n p u (List.mem_toArray.1 hu)
    have hix:=atT g 0 k c i hi
    obtain ⟨vt,hvt⟩:∃ v,Hid (Value.agg (wn n++bl33 p).toArray=v):=⟨_,rfl⟩
    obtain ⟨vp,hvp⟩:∃ v,Hid (Value.agg (bl33 p).toArray=v):=⟨_,rfl⟩
    rw[hvp.out] at B1
    have HL:Hid (j<l.length):=hjl
    have HS:Hid (∀ h:j<l.length,(l[j]'h).1=s):=fun _=>hse.out
    have HJ:Hid (at? p (l.map (·.2)) 0=some j∧(∀ x∈l.map (·.2),x.size=33)):=⟨hat,hsz⟩
    have HK:Hid (Mx w W2 w.heap.size l (.slice (some ⟨g4,0,none⟩) l.length cap)∧Row W2 wr.heap.size (wn n++bl33 p)):=⟨K2.out,F2.out.1⟩
    have KN:Hid (mrg N ns az (i+1)=addT N l n p):=by
     show addT N (mrg N ns az i) (ns i) (az i)=_
     rw[hl.out,hne.out,hpe.out]
    clear hlen hsz K2 KM hjp q2 q3 hr4 hg4
    clear hat
    go_wp2_with (first|(refine wpList_load_mid rfl 167 _ rfl g (37*i) ?_ (wn n++bl33 p) d' ?_ ?_ ?_ ?_ ?_;rfl;exact B0.out;exact HD.out.2.1;exact HD.out.2.2;exact HLT.out;rw[hvt.out])|(refine zAp (v:=.pointer (some ⟨wr.heap.size,0,none⟩)) (w':=W1) rfl (.alloc 167) rfl ?_ ?_;(rw[← hW1.out];kernel_rfl))|(refine wpList_store_mid rfl 167 _ _ rfl wr.heap.size 0 (wn n++bl33 p).toArray ?_ ?_ ?_ ?_ ?_ ?_;rfl;exact hvt.out.symm;exact HLS.out.2;exact HLS.out.1;exact HAL.out;rw[show (wn n++bl33 p).toArray.toList=wn n++bl33 p from rfl,hW2.out])|(refine wpList_load_mid rfl 54 _ rfl wr.heap.size 4 ?_ (bl33 p) d ?_ ?_ ?_ ?_ ?_;rfl;exact HB.out;exact HD.out.1.1;exact HD.out.1.2;exact HLP.out;rw[hvp.out])|(refine zEj (x:=.map (some w.heap.size)) (y:=vp) (w':=W2) rfl 226 _ _ true rfl ?_ ?_ B1.out ?_;rfl;rfl)|fail)
    refine (Ga w w.heap.size g4 cap wr.heap.size j s n (sPl N s n) l p).last 12 (by kernel_rfl) (by kernel_rfl) (by kernel_rfl) ⟨
     RG.zA1 fun a W hp=>⟨[(4,.slice (some ⟨g4,0,none⟩) l.length cap)],.slice (some ⟨g4,0,none⟩) l.length cap,W,⟨hp.o 4 (by kernel_rfl),trivial⟩,by kernel_rfl,Below.refl _ _,rfl⟩,
     RG.zA1 fun a W hp=>⟨[(7,.int .i64 j)],.int .i64 j,W,⟨hp.o 7 (by kernel_rfl),trivial⟩,by kernel_rfl,Below.refl _ _,rfl⟩,
     RG.zA1 fun a W hp=>⟨[(4,.slice (some ⟨g4,0,none⟩) l.length cap)],.slice (some ⟨g4,0,none⟩) l.length cap,W,⟨hp.o 4 (by kernel_rfl),trivial⟩,by kernel_rfl,Below.refl _ _,rfl⟩,
     RG.zA1 fun a W hp=>⟨[(7,.int .i64 j)],.int .i64 j,W,⟨hp.o 7 (by kernel_rfl),trivial⟩,by kernel_rfl,Below.refl _ _,rfl⟩,
     RG.zA1 fun a W hp=>⟨[(36,.slice (some ⟨g4,0,none⟩) l.length cap),(37,.int .i64 j)],.pointer (some ⟨g4,0+37*j,none⟩),W,⟨hp.n 2 36 (by kernel_rfl) (by kernel_rfl),hp.n 3 37 (by kernel_rfl) (by kernel_rfl),trivial⟩,by
      rw[Prod.mk.injEq]
      refine ⟨by kernel_rfl,?_⟩
      show ((Instr.indexAt 106 (.slice (some ⟨g4,0,none⟩) l.length cap) (.int .i64 j)) >>= fun v=>pure (Next.value v)).run Tryz.prog W=_
      rw[Sem.run_bind,atT g4 0 l.length cap j HL.out]
      rfl,Below.refl _ _,rfl⟩,
     RG.zA1 fun a W hp=>⟨[(38,.pointer (some ⟨g4,0+37*j,none⟩))],.pointer (some ⟨g4,0+37*j,none⟩),W,⟨hp.n 4 38 (by kernel_rfl) (by kernel_rfl),trivial⟩,by kernel_rfl,Below.refl _ _,rfl⟩,
     RG.zA6 49 39 rfl Go.Proofs.YtglhhepedoffeaaGreat.u40 fun a W hp=>⟨g4,0+37*j,wn s,hp.n 5 39 (by kernel_rfl) (by kernel_rfl),by
      obtain ⟨g5,cap5,he5,-,-,hr5⟩:=zCr hp.b.1.ow HJ.out.2 (by have:=HL.out;omega)
      injection he5 with q1 q2 q3
      injection q1 with q1
      injection q1 with q1
      subst q1
      have:=hr5 j HL.out
      rw[(HS.out HL.out)] at this
      rw[Nat.zero_add]
      exact range_front' this,i40,rfl⟩,
     RG.zA1 fun a W hp=>⟨[(6,.pointer (some ⟨wr.heap.size,0,none⟩))],.pointer (some ⟨wr.heap.size,0,none⟩),W,⟨hp.o 6 (by kernel_rfl),trivial⟩,by kernel_rfl,Below.refl _ _,rfl⟩,
     RG.zA6 49 41 rfl Go.Proofs.YtglhhepedoffeaaGreat.u40 fun a W hp=>⟨wr.heap.size,0,wn n,hp.n 7 41 (by kernel_rfl) (by kernel_rfl),zB4 hp.b.2.2.1,i40,rfl⟩,
     RG.zA9 fun a W hp=>⟨[(40,nv s),(42,nv n)],92,#[nv s,nv n],⟨hp.n 6 40 (by kernel_rfl) (by kernel_rfl),hp.n 8 42 (by kernel_rfl) (by kernel_rfl),trivial⟩,by kernel_rfl,(zNi HH.out.1 s n hsN.out hnN.out W).mono (by
      rintro e W' ⟨u,rfl,hb,rfl⟩
      exact ⟨_,rfl,hb,rfl⟩)⟩,
     RG.zA1 fun a W hp=>⟨[(34,.slice (some ⟨g4,0,none⟩) l.length cap),(35,.int .i64 j)],.pointer (some ⟨g4,0+37*j,none⟩),W,⟨hp.n 0 34 (by kernel_rfl) (by kernel_rfl),hp.n 1 35 (by kernel_rfl) (by kernel_rfl),trivial⟩,by
      rw[Prod.mk.injEq]
      refine ⟨by kernel_rfl,?_⟩
      show ((Instr.indexAt 106 (.slice (some ⟨g4,0,none⟩) l.length cap) (.int .i64 j)) >>= fun v=>pure (Next.value v)).run Tryz.prog W=_
      rw[Sem.run_bind,atT g4 0 l.length cap j HL.out]
      rfl,Below.refl _ _,rfl⟩,
     RG.zA1 fun a W hp=>⟨[(44,.pointer (some ⟨g4,0+37*j,none⟩))],.pointer (some ⟨g4,0+37*j,none⟩),W,⟨hp.n 10 44 (by kernel_rfl) (by kernel_rfl),trivial⟩,by kernel_rfl,Below.refl _ _,rfl⟩,trivial⟩ ⟨HK.out.1.drew,HK.out.2⟩ ?_
    intro V W3 hR3 hB3
    have hV9:V 9=nv (sPl N s n):=hR3 9 (by decide)
    have hV11:V 11=.pointer (some ⟨g4,0+37*j,none⟩):=hR3 11 (by decide)
    obtain ⟨W4,hW4⟩:∃ W4,Hid (W3.setCells g4 (37*j) (wn (sPl N s n))=W4):=⟨_,rfl⟩
    have K4:Hid (Mx w W4 w.heap.size (mrg N ns az (i+1)) (.slice (some ⟨g4,0,none⟩) l.length cap)):=by
     rw[← hW4.out,KN.out,← (HS.out HL.out)]
     exact hB3.1.again HJ.out.2 HJ.out.1 HL.out n
    have HTH:Hid (W3.there g4 (37*j) 4):=by
     intro t ht
     have hj:=HL.out
     rcases hB3.1.ow.2 with ⟨h,-⟩|⟨g2,cap2,cur,he,-,hc,hn,-,hs,-⟩
     ·cases h
     ·injection he with he1 he2 he3
      injection he1 with he1
      injection he1 with he1
      subst he1
      have hlt:37*j+t<cur.size:=by
       rw[hs]
       have:(j+1)*37≤cap2*37:=Nat.mul_le_mul_right 37 (by omega)
       omega
      refine ⟨?_,?_⟩
      ·simp[World.cell?,hc,hlt]
      ·simp[World.frozen?,hc]
    clear hR3 hB3
    dsimp only[RG.putV,Nat.reduceAdd,List.take,List.drop]
    simp only[Act.put,List.setIfInBounds_toArray,List.set_cons_succ,List.set_cons_zero]
    obtain ⟨vz,hvz⟩:∃ v,Hid (nv (sPl N s n)=v):=⟨_,rfl⟩
    rw[hV9,hV11,hvz.out,Nat.zero_add]
    clear hV9 hV11
    generalize V 0=s0
    generalize V 1=s1
    generalize V 2=s2
    generalize V 3=s3
    generalize V 4=s4
    generalize V 5=s5
    generalize V 6=s6
    generalize V 7=s7
    generalize V 8=s8
    generalize V 10=s10
    go_wp2_with (first|(refine wpList_store_mid rfl 49 _ _ rfl g4 (37*j) (wn (sPl N s n)).toArray ?_ ?_ ?_ ?_ ?_ ?_;rfl;exact hvz.out.symm;exact HTH.out;exact i40;exact zCk (sPl N s n);rw[show (wn (sPl N s n)).toArray.toList=wn (sPl N s n) from rfl,hW4.out])|fail)
    go_roundg (gk-1)
    case measure=>omega
    case rel=>exact ⟨i+1,by omega,rfl,K4⟩
  ·have hi':¬ (i:Int)<(k:Int):=by omega
   obtain rfl:i=k:=by omega
   go_wp2_with fail
   refine (HDEL.out wr _ KM.out).mono ?_
   rintro e w9 ⟨vv,rfl,hR9⟩
   have HR9:=Hid.mk' hR9
   clear hR9 HDEL
   go_wp2
   go_ret
   exact ⟨_,rfl,HR9.out⟩
end
section
open Go.RowKit Go.Sort Go.Deep
variable {P:Nat} [NeZero P] {N:Nat}
def LF (l:List (Nat × Bs)):List (Nat × Bs):=l.filter fun x=>x.1 != 0
theorem zDI {l:List (Nat × Bs)} {j:Nat} (hj:j<l.length):LF (l.take (j+1))=LF (l.take j)++(if (l[j]).1=0 then [] else [l[j]]):=by
 unfold LF
 rw[List.take_add_one,List.getElem?_eq_getElem hj,List.filter_append]
 congr 1
 by_cases h:(l[j]).1=0
 ·simp[h]
 ·simp[h]
theorem zRe (l:List (Nat × Bs)) (j:Nat):(LF (l.take j)).length≤j:=
 Nat.le_trans (List.length_filter_le _ _) (by rw[List.length_take];exact Nat.min_le_left _ _)
theorem zII {l:List (Nat × Bs)} {x:Nat × Bs} (h:x∈LF l):x∈l:=(List.mem_filter.1 h).1
theorem zEP {ns:Nat→Nat}:∀ (m i:Nat),(∃ j,i≤j∧j<i+m∧ns j=0)→∃ i0,zCu ns i m=((i0:Nat):Int)∧i≤i0∧i0<i+m∧ns i0=0∧∀ j,i≤j→j<i0→ns j≠0
 | 0,i,h=>by obtain ⟨j,h1,h2,-⟩:=h;omega
 | m+1,i,h=>by
  unfold zCu
  by_cases h0:ns i=0
  ·rw[if_pos h0]
   exact ⟨i,rfl,Nat.le_refl _,by omega,h0,fun j h1 h2=>by omega⟩
  ·rw[if_neg h0]
   obtain ⟨j,h1,h2,h3⟩:=h
   obtain ⟨i0,e1,e2,e3,e4,e5⟩:=zEP m (i+1) ⟨j,by
    rcases Nat.lt_or_ge i j with h|h
    ·omega
    ·obtain rfl:j=i:=by omega
     exact absurd h3 h0,by omega,h3⟩
   refine ⟨i0,e1,by omega,by omega,e4,fun j' h1' h2'=>?_⟩
   rcases Nat.lt_or_ge i j' with h|h
   ·exact e5 j' h h2'
   ·obtain rfl:j'=i:=by omega
    exact h0
def Rw (W:World) (g j:Nat) (x:Nat × Bs):Prop:=W.rangeAt g (37*j) (wn x.1++bl33 x.2)
theorem Rw.below {W W':World} {g j:Nat} {x:Nat × Bs} (h:Rw W g j x) (hb:Below W.heap.size W W') (hg:g<W.heap.size):Rw W' g j x:=RG.zAk h hb hg
structure Dz (base:Nat) (w W:World) (g:Nat) (l:List (Nat × Bs)) (j:Nat):Prop where
 bl:Below base w W
 hb:base≤W.heap.size
 lt:g<W.heap.size
 th:W.there g 0 (37*l.length)
 lo:∀ a (ha:a<(LF (l.take j)).length),Rw W g a ((LF (l.take j))[a])
 hi:∀ b (hb:b<l.length),j≤b→Rw W g b (l[b])
theorem Dz.grow {base:Nat} {w W W':World} {g:Nat} {l:List (Nat × Bs)} {j:Nat} (h:Dz base w W g l j) (hb:Below W.heap.size W W'):Dz base w W' g l j:=
 ⟨h.bl.trans (hb.mono h.hb),Nat.le_trans h.hb hb.size,Nat.lt_of_lt_of_le h.lt hb.size,RG.zA5 h.th hb h.lt,fun a ha=>(h.lo a ha).below hb h.lt,fun b hb' hj=>(h.hi b hb' hj).below hb h.lt⟩
theorem Dz.skip {base:Nat} {w W:World} {g:Nat} {l:List (Nat × Bs)} {j:Nat} (h:Dz base w W g l j) (hj:j<l.length) (h0:(l[j]).1=0):Dz base w W g l (j+1):=by
 have e:LF (l.take (j+1))=LF (l.take j):=by rw[zDI hj,if_pos h0,List.append_nil]
 exact ⟨h.bl,h.hb,h.lt,h.th,fun a ha=>by
  have h1:=h.lo a (by rw[← e];exact ha)
  simp only[e]
  exact h1,fun b hb hj=>h.hi b hb (by omega)⟩
theorem Dz.put {base:Nat} {w W:World} {g:Nat} {l:List (Nat × Bs)} {j:Nat} (h:Dz base w W g l j) (hg:base≤g) (hs:∀ x∈l.map (·.2),x.size=33) (hj:j<l.length) (h0:(l[j]).1≠0) :
 Dz base w (W.setCells g (37*(LF (l.take j)).length) (wn (l[j]).1++bl33 (l[j]).2)) g l (j+1):=by
 have e:LF (l.take (j+1))=LF (l.take j)++[l[j]]:=by rw[zDI hj,if_neg h0]
 have hle:=zRe l j
 have hsz:∀ x∈l,(wn x.1++bl33 x.2).length=37:=fun x hx=>zBL (hs x.2 (List.mem_map.2 ⟨x,hx,rfl⟩))
 have hlen:=hsz (l[j]) (List.getElem_mem hj)
 refine ⟨RG.below_setCells hg _ _ _ h.bl,by rw[RG.setCells_size];exact h.hb,by rw[RG.setCells_size];exact h.lt,World.there_setCells h.th _ _ _,fun a ha=>?_,fun b hb hjb=>?_⟩
 ·simp only[e] at ha ⊢
  by_cases hlt:a<(LF (l.take j)).length
  ·rw[List.getElem_append_left hlt]
   have h1:=h.lo a hlt
   have hm:(LF (l.take j))[a]∈l:=List.mem_of_mem_take (zII (List.getElem_mem hlt))
   exact World.rangeAt_setCells_apart h1 g _ _ (Or.inr (Or.inl (by rw[hsz _ hm];omega)))
  ·have ha2:a=(LF (l.take j)).length:=by rw[List.length_append,List.length_singleton] at ha;omega
   subst ha2
   rw[List.getElem_append_right (Nat.le_refl _)]
   simp only[Nat.sub_self,List.getElem_singleton]
   refine World.rangeAt_setCells_same W g _ _ fun t ht=>?_
   rw[hlen] at ht
   have:=h.th (37*(LF (l.take j)).length+t) (by omega)
   rwa[Nat.zero_add] at this
 ·exact World.rangeAt_setCells_apart (h.hi b hb (by omega)) g _ _ (Or.inr (Or.inr (by rw[hlen];omega)))
theorem zLO (n:Nat):∀ v∈(Builtin.zeroCells (Value.agg zT.toArray).cells n).toList,v.oneCell'=true:=by
 intro v hv
 have hz:=zNc
 have hl:(Value.agg zT.toArray).cells.size=37:=by kernel_rfl
 unfold Builtin.zeroCells at hv
 rw[Array.toList_map] at hv
 obtain ⟨i,-,rfl⟩:=List.mem_map.1 hv
 have hi:i%(Value.agg zT.toArray).cells.size<(Value.agg zT.toArray).cells.size:=Nat.mod_lt _ (by rw[hl];decide)
 rw[getElem!_pos (Value.agg zT.toArray).cells _ hi]
 exact hz _ (by
  have e:(Value.agg zT.toArray).cells.toList=zT:=by kernel_rfl
  have h2:=Array.getElem_mem_toList hi
  rwa[e] at h2)
theorem zPj (g i n c:Nat) (w:World) (hn:0<n) (h:w.there g 0 (37*(i+n))):∃ Z:List Value,∀ ty,(Builtin.clear_ #[106] ty #[.slice (some ⟨g,37*i,none⟩) n c]).run Tryz.prog w=.ok (.tuple #[]) (w.setCells g (37*i) Z):=by
 have h1:=zNa w
 have h3:=run_underlying undS w
 have ho:=zLO n
 have hl:(Builtin.zeroCells (Value.agg zT.toArray).cells n).toList.length=n*37:=by
  have:(Value.agg zT.toArray).cells.size=37:=by kernel_rfl
  rw[Array.length_toList,size_zeroCells,this]
 generalize (Value.agg zT.toArray)=Zv at h1 ho hl
 generalize hZ:(Builtin.zeroCells Zv.cells n).toList=Z at ho hl
 have h4:(storeCells ⟨g,37*i,none⟩ Z).run Tryz.prog w=.ok () (w.setCells g (37*i) Z):=
  run_storeCells_cells (P:=Tryz.prog) g (37*i) Z 0 w (fun j hj=>by rw[hl] at hj;have:=(h (37*i+j) (by omega)).1;simpa using this) (fun j hj=>by rw[hl] at hj;have:=(h (37*i+j) (by omega)).2;simpa using this) ho
 refine ⟨Z,fun ty=>?_⟩
 obtain ⟨n',rfl⟩:∃ n',n=n'+1:=⟨n-1,by omega⟩
 unfold Builtin.clear_
 simp[Sem.run_bind,h3,h1,hZ,h4]
theorem slHi (g n c i:Nat) (hi:i≤n) (hn:n≤c) (w:World):(Instr.sliceAt 106 (.slice (some ⟨g,0,none⟩) n c) none (some (.int .i64 i)) none).run Tryz.prog w=.ok (.slice (some ⟨g,0,none⟩) i c) w:=by
 have h1:¬ (i:Int)<0:=by omega
 have h2:(i:Int)≤(c:Int):=by omega
 go_simp
theorem slLo (g n c i:Nat) (hi:i<n) (hn:n≤c) (w:World):(Instr.sliceAt 106 (.slice (some ⟨g,0,none⟩) n c) (some (.int .i64 i)) none none).run Tryz.prog w=.ok (.slice (some ⟨g,37*i,none⟩) (n-i) (c-i)) w:=by
 have h1:¬ (i:Int)<0:=by omega
 have h2:(i:Int)≤(n:Int):=by omega
 have h3:(n:Int)≤(c:Int):=by omega
 go_simp
 rw[if_neg (by omega),Nat.mul_comm]
def TmL (W:World) (q:Option Addr) (l:List (Nat × Bs)):Prop:=0<l.length→∃ g,q=some ⟨g,0,none⟩∧g<W.heap.size∧∀ j (hj:j<l.length),W.rangeAt g (37*j) (wn (l[j]).1++bl33 (l[j]).2)
def DelR (base:Nat) (l:List (Nat × Bs)) (w:World) (e:Value) (w':World):Prop:=Below base w w'∧∃ q cap,e=.slice q (LF l).length cap∧TmL w' q (LF l)
theorem zLK {l:List (Nat × Bs)} (h:∀ x∈l,x.1≠0):LF l=l:=List.filter_eq_self.2 fun x hx=>by simpa using h x hx
theorem zRd {l:List (Nat × Bs)} {i0:Nat} (hi:i0<l.length) (h0:(l[i0]).1=0):∀ j,i0<j→j≤l.length→(LF (l.take j)).length<j
 | 0,h,_=>by omega
 | j+1,h,hj=>by
  rw[zDI (by omega),List.length_append]
  rcases Nat.lt_or_ge i0 j with h1|h1
  ·have:=zRd hi h0 j h1 (by omega)
   split<;>simp<;>omega
  ·obtain rfl:j=i0:=by omega
   rw[if_pos h0]
   have:=zRe l j
   simp;omega
theorem zMR (l:List (Nat × Bs)) (hl0:0<l.length) (hlk:l.length≤1000) (hs:∀ x∈l.map (·.2),x.size=33) (hn:∀ x∈l,x.1<top) (base:Nat) (v:Value) (w:World) (hb:base≤w.heap.size) (ho:w.ownsRow base 167 37 v l.length (zAu l)) :
 Calls Tryz.prog 170 #[v,.func (.func 171) #[] #[]] w (Ret (DelR base l w)):=by
 obtain ⟨g,c,rfl,hg1,hg2,hr⟩:=zCr ho hs hl0
 have hsz:∀ (j:Nat) (hj:j<l.length),(l[j]).2.size=33:=fun j hj=>hs _ (List.mem_map.2 ⟨_,List.getElem_mem hj,rfl⟩)
 have hcap:l.length≤c∧w.there g 0 (37*l.length):=by
  rcases ho.2 with ⟨h,-⟩|⟨g2,cap2,cur,he,-,hc,hn',-,hs',-⟩
  ·cases h
  ·injection he with he1 he2 he3
   injection he1 with he1
   injection he1 with he1
   subst he1
   subst he3
   refine ⟨hn',fun t ht=>?_⟩
   have hlt:0+t<cur.size:=by
    rw[hs']
    have:l.length*37≤c*37:=Nat.mul_le_mul_right 37 hn'
    omega
   exact ⟨by simp only[World.cell?,hc];simp;omega,by simp[World.frozen?,hc]⟩
 by_cases hall:∀ x∈l,x.1≠0
 ·have eL:=zLK hall
  refine (zES g l.length c (by omega) (fun j=>((l[j]?).getD (0,#[])).1) (fun j=>((l[j]?).getD (0,#[])).2) (fun j hj=>by rw[List.getElem?_eq_getElem hj];exact hn _ (List.getElem_mem hj)) (fun j hj=>by rw[List.getElem?_eq_getElem hj];exact hall _ (List.getElem_mem hj)) (fun j hj=>by rw[List.getElem?_eq_getElem hj];exact hsz j hj) w hg2 (fun j hj=>by rw[List.getElem?_eq_getElem hj];exact hr j hj)).mono ?_
  rintro e w9 ⟨vv,rfl,hb9,rfl⟩
  refine ⟨_,rfl,hb9.mono hb,some ⟨g,0,none⟩,c,by rw[eL],?_⟩
  rw[eL]
  exact fun _=>⟨g,rfl,Nat.lt_of_lt_of_le hg2 hb9.size,fun j hj=>RG.zAk (hr j hj) hb9 hg2⟩
 ·have hI:=zHJ g l.length c (by omega) (fun j=>((l[j]?).getD (0,#[])).1) (fun j=>((l[j]?).getD (0,#[])).2) (fun j hj=>by rw[List.getElem?_eq_getElem hj];exact hn _ (List.getElem_mem hj)) (fun j hj=>by rw[List.getElem?_eq_getElem hj];exact hsz j hj) w hg2 (fun j hj=>by rw[List.getElem?_eq_getElem hj];exact hr j hj)
  obtain ⟨i0,e1,-,e3,e4,e5⟩:=zEP (ns:=fun j=>((l[j]?).getD (0,#[])).1) l.length 0 (by
   have:∃ x,x∈l∧x.1=0:=Classical.byContradiction fun h=>hall fun x hx h0=>h ⟨x,hx,h0⟩
   obtain ⟨x,hx,hx0⟩:=this
   obtain ⟨j,hj⟩:=List.getElem?_of_mem hx
   exact ⟨j,Nat.zero_le _,by have:=(List.getElem?_eq_some_iff.1 hj).1;omega,by show ((l[j]?).getD (0,#[])).1=0;rw[hj];exact hx0⟩)
  rw[e1] at hI
  have hi0:i0<l.length:=by omega
  have hz0:(l[i0]).1=0:=by
   have:((l[i0]?).getD (0,#[])).1=0:=e4
   rw[List.getElem?_eq_getElem hi0] at this
   exact this
  have hpre:LF (l.take i0)=l.take i0:=zLK fun x hx=>by
   obtain ⟨j,hj⟩:=List.getElem?_of_mem hx
   rw[List.getElem?_take] at hj
   split at hj
   ·rename_i hji
    have:=e5 j (Nat.zero_le _) hji
    have h6:((l[j]?).getD (0,#[])).1≠0:=this
    rw[hj] at h6
    exact h6
   ·cases hj
  have hlen0:(LF (l.take i0)).length=i0:=by rw[hpre,List.length_take];omega
  have D0:Dz base w w g l i0:=⟨Below.refl _ _,hb,hg2,hcap.2,fun a ha=>by
   simp only[hpre] at ha ⊢
   rw[List.getElem_take]
   exact hr a _,fun b hb' _=>hr b hb'⟩
  have D1:Dz base w w g l (i0+1):=D0.skip hi0 hz0
  have e6:(LF (l.take (i0+1))).length=i0:=by rw[zDI hi0,if_pos hz0,List.append_nil];exact hlen0
  have HI:=Hid.mk' hI
  have HZ:Hid (∀ j,i0<j→j≤l.length→(LF (l.take j)).length<j):=zRd hi0 hz0
  have HD1:=Hid.mk' D1
  have HF:Hid (base≤g∧l.length≤c∧(∀ x∈l.map (·.2),x.size=33)∧(∀ x∈l,x.1<top)∧∀ (j:Nat) (hj:j<l.length),(l[j]).2.size=33):=⟨hg1,hcap.1,hs,hn,hsz⟩
  obtain ⟨d',hd3,hd4⟩:=Option.map_eq_some_iff.1 uT
  have HD:Hid (Tryz.prog.underlying 167=some d'∧d'.isRow=true):=⟨hd3,hd4⟩
  have hi1:¬ ((i0:Int) = -1):=by omega
  clear hd3 hd4 hI D0 D1 hs hn ho hr hsz hcap hall e1 e4 e5 hpre hlen0 hz0 hg1 hg2
  go_enter Tryz.func170,Tryz.ntmps170
  go_wp2_with fail
  refine HI.out.mono ?_
  rintro e w1 ⟨vv,rfl,hb1,rfl⟩
  have K1:Hid (Dz base w w1 g l (i0+1)):=HD1.out.grow hb1
  clear hb1 HI HD1
  go_wp2_with fail
  go_loopg [5,6] (l.length-(i0+1)) (fun m s5 s6 W=>∃ j:Nat,i0<j∧j+m=l.length∧s6=.int .i64 j∧s5=.int .i64 ((LF (l.take j)).length:Int)∧Hid (Dz base w W g l j))
  case atStart=>exact ⟨i0+1,by omega,by omega,rfl,by rw[e6],K1⟩
  case round =>
   clear K1
   obtain ⟨j,hij,hjk,rfl,rfl,KM⟩:=hrel
   by_cases hj:j<l.length
   ·have hj':(j:Int)<(l.length:Int):=by omega
    obtain ⟨n,hne⟩:∃ n,Hid ((l[j]'hj).1=n):=⟨(l[j]'hj).1,(rfl:(l[j]'hj).1=(l[j]'hj).1)⟩
    obtain ⟨p,hpe⟩:∃ p,Hid ((l[j]'hj).2=p):=⟨(l[j]'hj).2,(rfl:(l[j]'hj).2=(l[j]'hj).2)⟩
    obtain ⟨i,hie⟩:∃ i,Hid ((LF (l.take j)).length=i):=⟨_,rfl⟩
    have hilt:i<l.length:=by have:=HZ.out j hij (by omega);rw[hie.out] at this;omega
    rw[hie.out]
    have hps:Hid (p.size=33):=by rw[← hpe.out];exact HF.out.2.2.2.2 j hj
    have hnt:Hid (n<top):=by rw[← hne.out];exact HF.out.2.2.2.1 _ (List.getElem_mem hj)
    have B0:Hid (wr.rangeAt g (37*j) (wn n++bl33 p)):=by
     have h:=KM.out.hi j hj (Nat.le_refl _)
     unfold Rw at h
     rw[hne.out,hpe.out] at h
     exact h
    obtain ⟨W1,hW1⟩:∃ W1,Hid (wr.alloc (.cells zT.toArray 167)=W1):=⟨_,rfl⟩
    obtain ⟨W2,hW2⟩:∃ W2,Hid (W1.setCells wr.heap.size 0 (wn n++bl33 p)=W2):=⟨_,rfl⟩
    have hlen:(wn n++bl33 p).length=37:=zBL hps.out
    have F1:Hid (Row W1 wr.heap.size zT∧Below wr.heap.size wr W1∧W1.heap.size=wr.heap.size+1):=by rw[← hW1.out];exact ⟨zAi wr _ _,zAf wr _,World.size_alloc _ _⟩
    have F2:Hid (Row W2 wr.heap.size (wn n++bl33 p)∧Below wr.heap.size wr W2):=by rw[← hW2.out];exact ⟨F1.out.1.put (by rw[hlen];rfl),RG.below_setCells (Nat.le_refl _) _ _ _ F1.out.2.1⟩
    have HLT:Hid ((Tryz.prog.info? 167).map (·.size)=some (wn n++bl33 p).length):=by show _=_;rw[hlen];exact iT
    have HLS:Hid ((Tryz.prog.info? 167).map (·.size)=some (wn n++bl33 p).toArray.size∧W1.there wr.heap.size 0 (wn n++bl33 p).toArray.size):=by
     have e:(wn n++bl33 p).toArray.size=37:=by rw[List.size_toArray];exact hlen
     rw[e];exact ⟨iT,F1.out.1.2.2⟩
    have HAL:Hid ((wn n++bl33 p).toArray.all (·.oneCell')=true):=by
     show _=_
     rw[Array.all_eq_true']
     intro u hu
     exact cells_one n p u (List.mem_toArray.1 hu)
    have hix:=atT g 0 l.length c j hj
    obtain ⟨vt,hvt⟩:∃ v,Hid (tvl n p=v):=⟨_,rfl⟩
    have hvt':Hid (Value.agg (wn n++bl33 p).toArray=vt):=hvt
    have K2:Hid (Dz base w W2 g l j):=KM.out.grow F2.out.2
    have HN:=Hid.mk' (zNp hnt.out hps.out W2)
    rw[hvt.out] at HN
    clear KM
    go_wp2_with (first|(refine wpList_load_mid rfl 167 _ rfl g (37*j) ?_ (wn n++bl33 p) d' ?_ ?_ ?_ ?_ ?_;rfl;exact B0.out;exact HD.out.1;exact HD.out.2;exact HLT.out;rw[hvt'.out])|(refine zAp (v:=.pointer (some ⟨wr.heap.size,0,none⟩)) (w':=W1) rfl (.alloc 167) rfl ?_ ?_;(rw[← hW1.out];kernel_rfl))|(refine wpList_store_mid rfl 167 _ _ rfl wr.heap.size 0 (wn n++bl33 p).toArray ?_ ?_ ?_ ?_ ?_ ?_;rfl;exact hvt'.out.symm;exact HLS.out.2;exact HLS.out.1;exact HAL.out;rw[show (wn n++bl33 p).toArray.toList=wn n++bl33 p from rfl,hW2.out])|(refine wpList_load_mid rfl 167 _ rfl wr.heap.size 0 ?_ (wn n++bl33 p) d' ?_ ?_ ?_ ?_ ?_;rfl;exact F2.out.1.2.1;exact HD.out.1;exact HD.out.2;exact HLT.out;rw[hvt'.out])|fail)
    refine HN.out.mono ?_
    rintro e W3 ⟨vv,rfl,hb3,rfl⟩
    have K3:Hid (Dz base w W3 g l j∧Row W3 wr.heap.size (wn n++bl33 p)):=⟨K2.out.grow hb3,F2.out.1.below hb3⟩
    clear hb3 K2 HN F2 F1
    by_cases h0:n=0
    ·rw[show decide (n=0)=true by simp[h0]]
     have K4:Hid (Dz base w W3 g l (j+1)):=K3.out.1.skip hj (by rw[hne.out];exact h0)
     have e4:Hid ((LF (l.take (j+1))).length=i):=by
      show _=_
      rw[zDI hj,if_pos (by rw[hne.out];exact h0),List.append_nil]
      exact hie.out
     go_wp2
     go_roundg (gk-1)
     case measure=>omega
     case rel=>exact ⟨j+1,by omega,by omega,rfl,by rw[e4.out],K4⟩
    ·rw[show decide (n=0)=false by simp[h0]]
     obtain ⟨W4,hW4⟩:∃ W4,Hid (W3.setCells g (37*i) (wn n++bl33 p)=W4):=⟨_,rfl⟩
     have K4:Hid (Dz base w W4 g l (j+1)):=by
      have h:=K3.out.1.put HF.out.1 HF.out.2.2.1 hj (by rw[hne.out];exact h0)
      rw[hie.out,hne.out,hpe.out,hW4.out] at h
      exact h
     have e4:Hid ((LF (l.take (j+1))).length=i+1):=by
      show _=_
      rw[zDI hj,if_neg (by rw[hne.out];exact h0),List.length_append,hie.out]
      rfl
     have HTH:Hid (W3.there g (37*i) (wn n++bl33 p).toArray.size):=by
      have e:(wn n++bl33 p).toArray.size=37:=by rw[List.size_toArray];exact hlen
      rw[e]
      intro t ht
      have:=K3.out.1.th (37*i+t) (by omega)
      rwa[Nat.zero_add] at this
     have hix2:=atT g 0 l.length c i hilt
     go_wp2_with (first|(refine wpList_load_mid rfl 167 _ rfl wr.heap.size 0 ?_ (wn n++bl33 p) d' ?_ ?_ ?_ ?_ ?_;rfl;exact K3.out.2.2.1;exact HD.out.1;exact HD.out.2;exact HLT.out;rw[hvt'.out])|(refine wpList_store_mid rfl 167 _ _ rfl g (37*i) (wn n++bl33 p).toArray ?_ ?_ ?_ ?_ ?_ ?_;rfl;exact hvt'.out.symm;exact HTH.out;exact HLS.out.1;exact HAL.out;rw[show (wn n++bl33 p).toArray.toList=wn n++bl33 p from rfl,hW4.out])|fail)
     go_roundg (gk-1)
     case measure=>omega
     case rel=>exact ⟨j+1,by omega,by omega,rfl,by rw[e4.out];rfl,K4⟩
   ·have hj':¬ (j:Int)<(l.length:Int):=by omega
    obtain rfl:j=l.length:=by omega
    have eL:LF (l.take l.length)=LF l:=by rw[List.take_length]
    rw[eL]
    have hilt:(LF l).length<l.length:=by have:=HZ.out l.length hij (Nat.le_refl _);rw[eL] at this;exact this
    have hlo:∀ a (ha:a<(LF l).length),Rw wr g a ((LF l)[a]):=fun a ha=>by
     have:=KM.out.lo a (by rw[eL];exact ha)
     simp only[eL] at this
     exact this
    have hszL:∀ x∈LF l,(wn x.1++bl33 x.2).length=37:=fun x hx=>zBL (HF.out.2.2.1 _ (List.mem_map.2 ⟨x,zII hx,rfl⟩))
    obtain ⟨Z,hZ⟩:=zPj g (LF l).length (l.length-(LF l).length) (c-(LF l).length) wr (by omega) (by rw[show (LF l).length+(l.length-(LF l).length)=l.length by omega];exact KM.out.th)
    obtain ⟨W5,hW5⟩:∃ W5,Hid (wr.setCells g (37*(LF l).length) Z=W5):=⟨_,rfl⟩
    rw[hW5.out] at hZ
    have K5:Hid (Below base w W5∧TmL W5 (some ⟨g,0,none⟩) (LF l)):=by
     rw[← hW5.out]
     refine ⟨RG.below_setCells HF.out.1 _ _ _ KM.out.bl,fun _=>⟨g,rfl,by rw[RG.setCells_size];exact KM.out.lt,fun a ha=>?_⟩⟩
     exact World.rangeAt_setCells_apart (hlo a ha) g _ _ (Or.inr (Or.inl (by rw[hszL _ (List.getElem_mem ha)];omega)))
    have hs1:=slLo g l.length c (LF l).length hilt HF.out.2.1
    have hs2:=slHi g l.length c (LF l).length (by omega) HF.out.2.1
    clear KM hlo hszL eL hW5
    obtain ⟨i,hie⟩:∃ i,Hid ((LF l).length=i):=⟨_,rfl⟩
    rw[hie.out] at hs1 hs2 hZ hilt ⊢
    go_wp2
    go_ret
    exact ⟨_,rfl,K5.out.1,some ⟨g,0,none⟩,c,by rw[hie.out];rfl,K5.out.2⟩
end
namespace EC
variable {P:Nat} [NeZero P]
def pts (P:Nat) [NeZero P]:List (Pt P):=
 none :: (List.finRange P).flatMap fun x=>((List.finRange P).filter fun y=>decide (y^2=x^3+7)).map fun y=>some (x,y)
theorem zCZ (a:Pt P):a∈pts P↔On a:=by
 unfold pts
 rcases a with _|⟨x,y⟩
 ·exact ⟨fun _=>trivial,fun _=>List.mem_cons_self⟩
 ·rw[List.mem_cons,List.mem_flatMap]
  constructor
  ·rintro (h|⟨u,-,h⟩)
   ·cases h
   ·obtain ⟨v,hv,e⟩:=List.mem_map.1 h
    cases e
    have h2:=(List.mem_filter.1 hv).2
    exact (decide_eq_true_iff (p:=y^2=x^3+7)).1 h2
  ·intro h
   have h:y^2=x^3+7:=h
   exact Or.inr ⟨x,List.mem_finRange x,List.mem_map.2 ⟨y,List.mem_filter.2 ⟨List.mem_finRange y,decide_eq_true h⟩,rfl⟩⟩
theorem zGP:(pts P).Nodup:=by
 unfold pts
 refine List.nodup_cons.2 ⟨fun h=>?_,?_⟩
 ·obtain ⟨u,-,h⟩:=List.mem_flatMap.1 h
  obtain ⟨v,-,e⟩:=List.mem_map.1 h
  cases e
 ·refine List.pairwise_flatMap.2 ⟨fun x _=>List.pairwise_map.2 ?_,?_⟩
  ·refine List.Pairwise.imp ?_ ((List.nodup_finRange P).sublist List.filter_sublist)
   intro a b h e
   exact h (by cases e;rfl)
  ·refine List.Pairwise.imp ?_ (List.nodup_finRange P)
   intro a b h u hu v hv e
   obtain ⟨c,-,rfl⟩:=List.mem_map.1 hu
   obtain ⟨d,-,rfl⟩:=List.mem_map.1 hv
   exact h (by cases e;rfl)
theorem zN5 {u v c:Fin P} (hu:u^2=c) (hv:v^2=c):(u-v)*(u+v)=0:=by grobner
theorem zOS {a b d:Fin P} (e1:a+b=0) (e2:a+d=0):b=d:=by grobner
theorem zJD (C:Cur P) {c:Fin P}:∀ l:List (Fin P),l.Nodup→(∀ y,y∈l→y^2=c)→l.length≤2
 | [],_,_=>Nat.zero_le _
 | [_],_,_=>Nat.le_succ _
 | [_,_],_,_=>Nat.le_refl _
 | a :: b :: d :: l,hn,h=>by
  exfalso
  have ha:a^2=c:=h a (by simp)
  have hb:b^2=c:=h b (by simp)
  have hd:d^2=c:=h d (by simp)
  have n1:a≠b:=fun e=>(List.nodup_cons.1 hn).1 (by rw[e];simp)
  have n2:a≠d:=fun e=>(List.nodup_cons.1 hn).1 (by rw[e];simp)
  have n3:b≠d:=fun e=>(List.nodup_cons.1 (List.nodup_cons.1 hn).2).1 (by rw[e];simp)
  have f:∀ u v:Fin P,u^2=c→v^2=c→u≠v→u+v=0:=fun u v hu hv hn=>by
   exact Classical.byContradiction fun hs=>zAz C.pr (zDL hn) hs (zN5 hu hv)
  have e1:=f a b ha hb n1
  have e2:=f a d ha hd n2
  exact n3 (zOS e1 e2)
theorem zIw {α β:Type} (f:α→List β) (k:Nat) (h:∀ a,(f a).length≤k):∀ l:List α,(l.flatMap f).length≤k*l.length
 | []=>Nat.zero_le _
 | a :: l=>by
  rw[List.flatMap_cons,List.length_append,List.length_cons,Nat.mul_succ,Nat.add_comm]
  exact Nat.add_le_add (zIw f k h l) (h a)
theorem zO7 (C:Cur P):(pts P).length≤2*P+1:=by
 unfold pts
 rw[List.length_cons]
 refine Nat.succ_le_succ (Nat.le_trans (zIw _ 2 (fun x=>?_) _) (by rw[List.length_finRange];exact Nat.le_refl _))
 rw[List.length_map]
 exact zJD C (c:=x^3+7) _ ((List.nodup_finRange P).sublist List.filter_sublist) fun y hy=>of_decide_eq_true (List.mem_filter.1 hy).2
theorem zOD:0<(pts P).length:=Nat.succ_pos _
def lsum:List (Pt P)→Pt P
 | []=>none
 | a :: l=>add a (lsum l)
theorem zF4 (C:Cur P):∀ l:List (Pt P),(∀ a,a∈l→On a)→On (lsum l)
 | [],_=>zBC
 | a :: l,h=>C.on (h a List.mem_cons_self) (zF4 C l fun b hb=>h b (List.mem_cons_of_mem _ hb))
theorem zKJ (C:Cur P) {l m:List (Pt P)} (p:l.Perm m):(∀ a,a∈l→On a)→lsum l=lsum m:=by
 induction p with
 | nil=>intro _;rfl
 | cons x _ ih =>
  intro h
  show add x _=add x _
  rw[ih fun b hb=>h b (List.mem_cons_of_mem _ hb)]
 | swap x y l =>
  intro h
  have hy:=h y List.mem_cons_self
  have hx:=h x (List.mem_cons_of_mem _ List.mem_cons_self)
  have hl:=zF4 C l fun b hb=>h b (List.mem_cons_of_mem _ (List.mem_cons_of_mem _ hb))
  show add y (add x (lsum l))=add x (add y (lsum l))
  rw[← C.assoc hy hx hl,C.comm hy hx,C.assoc hx hy hl]
 | trans p _ ih1 ih2 =>
  intro h
  rw[ih1 h,ih2 fun a ha=>h a (p.mem_iff.2 ha)]
theorem zFm (C:Cur P) {r:Pt P} (hr:On r):∀ l:List (Pt P),(∀ a,a∈l→On a)→lsum (l.map fun a=>add a r)=add (lsum l) (mul l.length r)
 | [],_=>rfl
 | a :: l,h=>by
  have ha:=h a List.mem_cons_self
  have hl:∀ b,b∈l→On b:=fun b hb=>h b (List.mem_cons_of_mem _ hb)
  show add (add a r) (lsum (l.map _))=add (add a (lsum l)) (add (mul l.length r) r)
  rw[zFm C hr l hl,C.comm (zAK C hr _) hr,C.swap ha hr (zF4 C l hl) (zAK C hr _)]
theorem zFC (C:Cur P) {a b r:Pt P} (ha:On a) (hb:On b) (hr:On r) (e:add a r=add b r):a=b:=by
 have:add (add a r) (neg r)=add (add b r) (neg r):=by rw[e]
 rwa[C.assoc ha hr (zAJ hr),C.assoc hb hr (zAJ hr),add_neg,zAw,zAw] at this
theorem zFf (C:Cur P) {r:Pt P} (hr:On r):((pts P).map fun a=>add a r).Perm (pts P):=by
 refine (List.perm_ext_iff_of_nodup ?_ zGP).2 fun a=>?_
 ·refine List.pairwise_map.2 (List.Pairwise.imp_of_mem ?_ (zGP (P:=P)))
  intro a b ha hb h e
  exact h (zFC C ((zCZ a).1 ha) ((zCZ b).1 hb) hr e)
 ·rw[zCZ,List.mem_map]
  constructor
  ·rintro ⟨b,hb,rfl⟩
   exact C.on ((zCZ b).1 hb) hr
  ·intro ha
   refine ⟨add a (neg r),(zCZ _).2 (C.on ha (zAJ hr)),?_⟩
   rw[C.assoc ha (zAJ hr) hr,C.neg_l hr,zAw]
theorem zKC (C:Cur P) {r:Pt P} (hr:On r):mul (pts P).length r=none:=by
 have h0:∀ a,a∈pts P→On a:=fun a ha=>(zCZ a).1 ha
 have h1:=zFm C hr (pts P) h0
 rw[zKJ C (zFf C hr) fun a ha=>(zCZ a).1 ((zFf C hr).mem_iff.1 ha)] at h1
 have hs:=zF4 C (pts P) h0
 have hm:=zAK C hr (pts P).length
 have h2:add (mul (pts P).length r) (lsum (pts P))=add none (lsum (pts P)):=by
  rw[C.comm hm hs,← h1,zBG]
 exact zFC C hm zBC hs h2
theorem zCY (C:Cur P) {a:Pt P} (ha:On a) (m:Nat):∀ n,mul (m*n) a=mul n (mul m a)
 | 0=>rfl
 | n+1=>by
  rw[Nat.mul_succ,mul_add C ha,zCY C ha m n]
  rfl
theorem zDj:∀ n,mul n (none:Pt P)=none
 | 0=>rfl
 | n+1=>by
  show add (mul n none) none=none
  rw[zDj n]
  rfl
theorem zIL (C:Cur P) {a:Pt P} (ha:On a) (e:add a a=none):a=none:=by
 rcases a with _|⟨x,y⟩
 ·rfl
 ·exfalso
  have ho:=C.opp_ne ha
  rw[zAE C.pr C.two ha ha ho (zAx C.pr C.two ha ha ho)] at e
  cases e
theorem zMp (C:Cur P) {n:Nat} (hn:NT.IsP n) (h3:2*P+1<3*n) {g:Pt P} (hg:On g) (h0:g≠none) (hz:mul n g=none) {r:Pt P} (hr:On r):mul n r=none:=by
 have hd:n ∣ (pts P).length:=Classical.byContradiction fun hd=>by
  have h1:=hn.fermat1 _ hd
  have h2:mul ((pts P).length^(n-1)) g=none:=by
   have:n-1=(n-2)+1:=by have:=hn.1;omega
   rw[this,Nat.pow_succ,Nat.mul_comm,zCY C hg,zKC C hg,zDj]
  have h4:=Nat.div_add_mod ((pts P).length^(n-1)) n
  rw[h1] at h4
  rw[← h4,mul_add C hg,zCY C hg,hz,zDj,zBG] at h2
  exact h0 h2
 obtain ⟨c,hc⟩:=hd
 have hl:=zO7 C
 have hp:=zOD (P:=P)
 have hm:=zKC C hr
 rw[hc] at hl hp hm
 have hc3:c<3:=Nat.lt_of_mul_lt_mul_left (a:=n) (by omega)
 match c,hc3 with
 | 0,_=>omega
 | 1,_=>rwa[Nat.mul_one] at hm
 | 2,_ =>
  rw[zCY C hr] at hm
  exact zIL C (zAK C hr n) hm
end EC
section
open Go.RowKit Go.Sort Go.Deep
variable {P:Nat} [NeZero P] {N:Nat}
def unwr (P:Nat) [NeZero P] (b:Bs):EC.Pt P:=match rd P b with|some p=>pt p|none=>none
theorem zBv (C:Fld P) {X:EC.Pt P} (h:EC.On X):unwr P (wr X)=X:=by
 obtain ⟨p,h1,h2⟩:=zI2 C h
 unfold unwr
 rw[h1]
 exact h2
def sumL (P:Nat) [NeZero P]:List (Nat × Bs)→EC.Pt P
 | []=>none
 | x :: r=>EC.add (EC.mul x.1 (unwr P x.2)) (sumL P r)
def PtsL (P:Nat) [NeZero P] (l:List (Nat × Bs)):Prop:=∀ x∈l,∃ X:EC.Pt P,EC.On X∧x.2=wr X
theorem PtsL.on (C:Fld P) {l:List (Nat × Bs)} (h:PtsL P l) {x:Nat × Bs} (hx:x∈l):EC.On (unwr P x.2):=by
 obtain ⟨X,h1,h2⟩:=h x hx
 rw[h2,zBv C h1];exact h1
theorem zHg (C:Fld P):∀ {l:List (Nat × Bs)},PtsL P l→EC.On (sumL P l)
 | [],_=>EC.zBC
 | x :: r,h=>C.cur.on (EC.zAK C.cur (h.on C List.mem_cons_self) _) (zHg C fun y hy=>h y (List.mem_cons_of_mem _ hy))
theorem zGw (C:Fld P) (y:Nat × Bs) (hy:EC.On (unwr P y.2)):∀ {l:List (Nat × Bs)},PtsL P l→sumL P (l++[y])=EC.add (sumL P l) (EC.mul y.1 (unwr P y.2))
 | [],_=>EC.zAw _
 | x :: r,h=>by
  have hr:PtsL P r:=fun z hz=>h z (List.mem_cons_of_mem _ hz)
  show EC.add (EC.mul x.1 (unwr P x.2)) (sumL P (r++[y]))=_
  rw[zGw C y hy hr]
  exact (C.cur.assoc (EC.zAK C.cur (h.on C List.mem_cons_self) _) (zHg C hr) (EC.zAK C.cur hy _)).symm
theorem zHh:∀ l:List (Nat × Bs),sumL P (LF l)=sumL P l
 | []=>rfl
 | x :: r=>by
  unfold LF
  rw[List.filter_cons]
  by_cases h:x.1=0
  ·rw[if_neg (by simp[h])]
   show sumL P (LF r)=EC.add (EC.mul x.1 (unwr P x.2)) (sumL P r)
   rw[h,zHh r]
   rfl
  ·rw[if_pos (by simp[h])]
   show EC.add _ (sumL P (LF r))=EC.add _ (sumL P r)
   rw[zHh r]
theorem mul_mod (C:Fld P) (hord:∀ r:EC.Pt P,EC.On r→EC.mul N r=none) {X:EC.Pt P} (hX:EC.On X) (n:Nat):EC.mul (n%N) X=EC.mul n X:=by
 have h:=EC.mul_add C.cur hX (N*(n/N)) (n%N)
 rw[Nat.div_add_mod,EC.zCY C.cur hX N (n/N),hord X hX,EC.zDj,EC.zBG] at h
 exact h.symm
theorem zGx (C:Fld P) (hord:∀ r:EC.Pt P,EC.On r→EC.mul N r=none) (n:Nat) (p:Bs) (hp:EC.On (unwr P p)):∀ {l:List (Nat × Bs)},PtsL P l→sumL P (addT N l n p)=EC.add (sumL P l) (EC.mul n (unwr P p))
 | [],_=>EC.zAw _
 | (s,q) :: r,h=>by
  have hr:PtsL P r:=fun z hz=>h z (List.mem_cons_of_mem _ hz)
  have hq:=h.on C (x:=(s,q)) List.mem_cons_self
  have h1:=EC.zAK C.cur hq s
  have h2:=zHg C hr
  have h3:=EC.zAK C.cur hp n
  unfold addT
  by_cases e:p=q
  ·rw[if_pos e]
   subst e
   show EC.add (EC.mul (sPl N s n) (unwr P p)) (sumL P r)=EC.add (EC.add (EC.mul s (unwr P p)) (sumL P r)) (EC.mul n (unwr P p))
   unfold sPl
   rw[mul_mod C hord hp,EC.mul_add C.cur hp,C.cur.assoc h1 h3 h2,C.cur.assoc h1 h2 h3,C.cur.comm h3 h2]
  ·rw[if_neg e]
   show EC.add (EC.mul s (unwr P q)) (sumL P (addT N r n p))=EC.add (EC.add (EC.mul s (unwr P q)) (sumL P r)) (EC.mul n (unwr P p))
   rw[zGx C hord n p hp hr,C.cur.assoc h1 h2 h3]
theorem zLC {n:Nat} {p:Bs} (hp:∃ X:EC.Pt P,EC.On X∧p=wr X):∀ {l:List (Nat × Bs)},PtsL P l→PtsL P (addT N l n p)
 | [],_=>fun x hx=>by
  have:x=(n,p):=by simpa[addT] using hx
  rw[this];exact hp
 | (s,q) :: r,h=>by
  have hr:PtsL P r:=fun z hz=>h z (List.mem_cons_of_mem _ hz)
  unfold addT
  split
  ·intro x hx
   rcases List.mem_cons.1 hx with rfl|hx
   ·exact h (s,q) List.mem_cons_self
   ·exact hr x hx
  ·intro x hx
   rcases List.mem_cons.1 hx with rfl|hx
   ·exact h (s,q) List.mem_cons_self
   ·exact zLC hp hr x hx
theorem zHD (ns:Nat→Nat) (X:Nat→EC.Pt P) {k:Nat} (hX:∀ j,j<k→EC.On (X j)):∀ i,i≤k→PtsL P (mrg N ns (fun j=>wr (X j)) i)
 | 0,_=>fun x hx=>by cases hx
 | i+1,hi=>zLC ⟨X i,hX i (by omega),rfl⟩ (zHD ns X hX i (by omega))
theorem zKD (C:Fld P) (hord:∀ r:EC.Pt P,EC.On r→EC.mul N r=none) (ns:Nat→Nat) (X:Nat→EC.Pt P) {k:Nat} (hX:∀ j,j<k→EC.On (X j)):∀ i,i≤k→sumL P (mrg N ns (fun j=>wr (X j)) i)=EC.tot X i (fun j=>(ns j:Int))
 | 0,_=>rfl
 | i+1,hi=>by
  have hi':=hX i (by omega)
  show sumL P (addT N (mrg N ns (fun j=>wr (X j)) i) (ns i) (wr (X i)))=EC.add (EC.tot X i (fun j=>(ns j:Int))) (EC.mul (ns i) (X i))
  rw[zGx C hord _ _ (by rw[zBv C hi'];exact hi') (zHD ns X hX i (by omega)),zKD C hord ns X hX i (by omega),zBv C hi']
theorem zFL (C:Fld P) (l:List (Nat × Bs)) (h:PtsL P l):∀ i,i≤l.length→EC.tot (fun j=>unwr P ((l[j]?).getD (0,#[])).2) i (fun j=>(((l[j]?).getD (0,#[])).1:Int))=sumL P (l.take i)
 | 0,_=>by rw[List.take_zero];rfl
 | i+1,hi=>by
  have hlt:i<l.length:=by omega
  show EC.add (EC.tot _ i _) (EC.mul ((l[i]?).getD (0,#[])).1 (unwr P ((l[i]?).getD (0,#[])).2))=_
  rw[zFL C l h i (by omega),List.take_add_one,List.getElem?_eq_getElem hlt]
  exact (zGw C (l[i]) (h.on C (List.getElem_mem hlt)) fun x hx=>h x (List.mem_of_mem_take hx)).symm
theorem zIQ (C:Fld P) (O:Ord N) (hord:∀ r:EC.Pt P,EC.On r→EC.mul N r=none) (g k c:Nat) (hk0:0<k) (hk:k≤512) (ns:Nat→Nat) (X:Nat→EC.Pt P) (hn:∀ j,j<k→ns j<N) (hX:∀ j,j<k→EC.On (X j)) (w:World) (hg:g<w.heap.size) (hr:∀ j,j<k→w.rangeAt g (37*j) (wn (ns j)++bl33 (wr (X j)))) :
 Calls Tryz.prog 75 #[.slice (some ⟨g,0,none⟩) k c] w (Ret fun e w'=>Below w.heap.size w w'∧e=pvl (wr (EC.tot X k (fun j=>(ns j:Int))))):=by
 have hM:=zHD (N:=N) ns X hX k (Nat.le_refl _)
 have hlt:=zKE O ns (fun j=>wr (X j)) hn k (Nat.le_refl _)
 have hsz:=zDk (N:=N) ns (fun j=>wr (X j)) (k:=k) (fun j _=>zAB _) k (Nat.le_refl _)
 have hle:=zEL (N:=N) ns (fun j=>wr (X j)) k
 have hsum:=zKD C hord ns X hX k (Nat.le_refl _)
 have hpos:0<(mrg N ns (fun j=>wr (X j)) k).length:=by
  obtain ⟨k',rfl⟩:∃ k',k=k'+1:=⟨k-1,by omega⟩
  show 0<(addT N _ _ _).length
  cases mrg N ns (fun j=>wr (X j)) k' with
  | nil=>exact Nat.lt_succ_self 0
  | cons x r=>unfold addT;split<;>simp
 have hmer:=fun W (hb:Below w.heap.size w W)=>zMx O (fun e w'=>Below W.heap.size W w'∧∃ q cap,e=.slice q (LF (mrg N ns (fun j=>wr (X j)) k)).length cap∧TmL w' q (LF (mrg N ns (fun j=>wr (X j)) k))) g k c (by omega) ns (fun j=>wr (X j)) (fun j _=>zAB _) hn W (Nat.lt_of_lt_of_le hg hb.size) (fun j hj=>RG.zAk (hr j hj) hb hg) (fun W' v hMx=>by
  refine (zMR _ hpos (by omega) hsz (fun x hx=>Nat.lt_of_lt_of_le (hlt x hx) O.le) W.heap.size v W' hMx.bl.size hMx.ow).mono ?_
  rintro e w' ⟨u,rfl,hb',hT⟩
  exact ⟨_,rfl,hMx.bl.trans hb',hT⟩)
 generalize mrg N ns (fun j=>wr (X j)) k=L at hM hlt hsz hle hsum hpos hmer
 have hF:PtsL P (LF L):=fun x hx=>hM x (zII hx)
 have hFl:(LF L).length≤L.length:=List.length_filter_le _ _
 refine (zDv C O _ w (LF L).length (by omega) (fun j=>(((LF L)[j]?).getD (0,#[])).1) (fun j=>unwr P (((LF L)[j]?).getD (0,#[])).2) (fun j hj=>by rw[List.getElem?_eq_getElem hj];exact hlt _ (zII (List.getElem_mem hj))) (fun j hj=>by rw[List.getElem?_eq_getElem hj];exact hF.on C (List.getElem_mem hj)) fun W hb=>?_).mono ?_
 ·refine (hmer W hb).mono ?_
  rintro e w' ⟨u,rfl,hb',q,cap,rfl,hT⟩
  refine ⟨_,rfl,hb',q,cap,rfl,fun h0=>?_⟩
  obtain ⟨g',e1,e2,e3⟩:=hT h0
  refine ⟨g',e1,e2,fun j hj=>?_⟩
  have h5:=e3 j hj
  obtain ⟨Y,y1,y2⟩:=hF _ (List.getElem_mem hj)
  show w'.rangeAt g' (37*j) (wn (((LF L)[j]?).getD (0,#[])).1++bl33 (wr (unwr P (((LF L)[j]?).getD (0,#[])).2)))
  rw[List.getElem?_eq_getElem hj]
  show w'.rangeAt g' (37*j) (wn ((LF L)[j]).1++bl33 (wr (unwr P ((LF L)[j]).2)))
  rw[y2,zBv C y1,← y2]
  exact h5
 ·rintro e w' ⟨u,rfl,hb',rfl⟩
  refine ⟨_,rfl,hb',?_⟩
  rw[zFL C (LF L) hF _ (Nat.le_refl _),List.take_length,zHh,hsum]
theorem undU:Tryz.prog.underlying 22=some (.slice 5):=by kernel_rfl
theorem undI:Tryz.prog.underlying 3=some (.int .i64):=by kernel_rfl
theorem zQu:(Tryz.prog.info? 5).map (fun i=>(i.size,i.bytes,i.zero.map fun z=>z.cells.size))=some (1,1,some 1):=by kernel_rfl
theorem atB (k o n c i:Nat) (hi:i<n) (w:World):(Instr.indexAt 44 (.slice (some ⟨k,o,none⟩) n c) (.int .i64 i)).run Tryz.prog w=.ok (.pointer (some ⟨k,o+1*i,none⟩)) w:=by
 have h1:¬ (i:Int)<0:=by omega
 have h2:(i:Int)<n:=by omega
 go_simp
theorem zQA (n:Nat) (hn:n≤10000000) (w:World):Calls Tryz.prog 91 #[.slice none 0 0,.int .i64 n] w (Ret fun e w'=>Below w.heap.size w w'∧w'.ownsRow w.heap.size 5 1 e 0 []):=by
 by_cases h0:n=0
 ·subst h0
  go_enter Tryz.func91,Tryz.ntmps91
  go_wp2
  go_ret
  exact ⟨_,rfl,Below.refl _ _,World.ownsRow_nil _ _ _ _⟩
 ·obtain ⟨i,hi,he⟩:=Option.map_eq_some_iff.1 zQu
  simp only[Prod.mk.injEq] at he
  obtain ⟨h1,h2,h3⟩:=he
  obtain ⟨z,hz,hz2⟩:=Option.map_eq_some_iff.1 h3
  have hr:=Lib.run_append_nil_zeros (P:=Tryz.prog) w 22 3 22 5 i z .i64 .i64 undU undI hi hz n (by omega) (by omega) (by omega) (by rw[h2];omega)
  have hcap:=grownCap_ge w n 0 5
  have hcap2:=grownCap_le_maxLen w n 0 5 (by unfold maxLen;omega)
  have hcs:(Builtin.zeroCells z.cells n++Builtin.zeroCells z.cells (grownCap w n 0 5-n)).size=grownCap w n 0 5*1:=by rw[Array.size_append,size_zeroCells,size_zeroCells,hz2];omega
  generalize grownCap w n 0 5=cp at hr hcap hcap2 hcs
  generalize Builtin.zeroCells z.cells n++Builtin.zeroCells z.cells (cp-n)=cur at hr hcs
  obtain ⟨w1,hw1⟩:∃ w1,Hid (w.drew.alloc (.cells cur 5)=w1):=⟨_,rfl⟩
  rw[hw1.out] at hr
  have HR:=Hid.mk' hr
  have K:Hid (Below w.heap.size w w1∧w1.ownsRow w.heap.size 5 1 (.slice (some ⟨w.heap.size,0,none⟩) 0 cp) 0 []):=by
   rw[← hw1.out]
   exact ⟨(Below.refl _ _).drew.alloc (Nat.le_refl _) _,World.ownsRow_made w.drew cur cp (Nat.le_refl _) hcap2 hcs⟩
  clear hr hw1 hcs hi hz hz2 h1 h2 h3
  have hn1:(0:Int)<(n:Int):=by omega
  have hn2:¬ ((n:Int)<0):=by omega
  have hw:IntKind.i64.wrap (n:Int)=n:=by rw[IntKind.wrap_i64];omega
  go_enter Tryz.func91,Tryz.ntmps91
  go_wp2_with (at_builtin;refine Lib.wpList_append_run _ rfl _ _ _ _ rfl _ _ rfl rfl _ _ HR.out ?_)
  go_ret
  exact ⟨_,rfl,K.out.1,K.out.2⟩
def catL (L:Nat→Bs) (k:Nat):List UInt8:=(List.range k).flatMap fun j=>(L j).toList
theorem zBZ (L:Nat→Bs) (i:Nat):catL L (i+1)=catL L i++(L i).toList:=by
 unfold catL
 rw[List.range_succ,List.flatMap_append]
 simp
theorem zLj (L:Nat→Bs) {k m:Nat} (hs:∀ j,j<k→(L j).size≤m):∀ i,i≤k→(catL L i).length≤m*i
 | 0,_=>Nat.le_refl _
 | i+1,hi=>by
  have h1:=zLj L hs i (by omega)
  have h2:=hs i (by omega)
  have e:(L i).toList.length=(L i).size:=rfl
  rw[zBZ,List.length_append,e,Nat.mul_succ]
  omega
theorem El.below {n B:Nat} {W W':World} {x:Value} {b:Bs} (h:El n W x b) (hb:Below B W W') (hB:W.heap.size≤B):El n W' x b:=by
 obtain ⟨k,c,rfl,h1,h2,h3,h4⟩:=h
 exact ⟨k,c,rfl,h1,h2,Nat.lt_of_lt_of_le h3 hb.size,Holds.kept h4 (hb.block k (by omega))⟩
theorem zOM {base n m:Nat} {W:World} {v x:Value} {xs:List Value} {b:Bs} (hown:W.ownsRow base 5 1 v n xs) (hx:El m W x b) (hn:n+m≤100000000) (hb:base≤W.heap.size) :
 ∃ v' W',(Builtin.append_ #[22,22] 22 #[v,x]).run Tryz.prog W=.ok v' W'∧W'.ownsRow base 5 1 v' (n+m) (xs++cb b)∧W.grownBy W' v.ownBlock:=by
 obtain ⟨i,hi,he⟩:=Option.map_eq_some_iff.1 zQu
 simp only[Prod.mk.injEq] at he
 obtain ⟨h1,h2,h3⟩:=he
 obtain ⟨z,hz,hz2⟩:=Option.map_eq_some_iff.1 h3
 obtain ⟨k,c,rfl,e1,e2,e3,e4⟩:=hx
 obtain ⟨v',W',r1,r2,r3,-⟩:=run_append_own (P:=Tryz.prog) W base 22 22 5 i z 1 1 undU hi hz h1 h2 hz2 (by decide) v n xs hown ⟨k,0,none⟩ m c (cb b) (by rw[zDp,e2];omega)
  (fun j u hj=>by
   have:=(zEf e4).1 j u hj
   rw[Nat.zero_add] at this
   rw[add0];exact this) (fun u hu=>by
   obtain ⟨y,-,rfl⟩:=List.mem_map.1 hu
   rfl) (by unfold maxLen;omega) (by omega) hb
 exact ⟨v',W',r1,r2,r3⟩
theorem zQP (L:Nat→Bs) (i:Nat):(catL L (i+1)).map encB=(catL L i).map encB++cb (L i):=by rw[zBZ,List.map_append];rfl
theorem zMT (g k c:Nat) (L:Nat→Bs) (hk:k≤1000) (hs:∀ j,j<k→(L j).size≤10000) (w:World) (hg:g<w.heap.size) (hL:∀ j,j<k→∃ x,w.cell? ⟨g,j,none⟩=some x∧El (L j).size w x (L j)) :
 Calls Tryz.prog 37 #[.slice (some ⟨g,0,none⟩) k c] w (Ret fun e w'=>Below w.heap.size w w'∧w'.ownsRow w.heap.size 5 1 e (catL L k).length ((catL L k).map encB)):=by
 have HL:=Hid.mk' hL
 have HS:Hid (∀ i,i≤k→(catL L i).length≤10000*i):=zLj L hs
 have HG:=Hid.mk' hg
 clear hL hs hg
 go_enter Tryz.func37,Tryz.ntmps37
 go_wp2_with fail
 go_loopg [3,11] k (fun m s3 s11 W=>∃ i:Nat,i+m=k∧s11=.int .i64 i∧s3=.int .i64 ((catL L i).length:Int)∧w=W)
 case atStart=>exact ⟨0,by omega,rfl,rfl,rfl⟩
 case round =>
  obtain ⟨i,hik,rfl,rfl,rfl⟩:=hrel
  by_cases hi:i<k
  ·have hi':(i:Int)<(k:Int):=by omega
   obtain ⟨x,hc,hE⟩:=HL.out i hi
   obtain ⟨kx,cx,rfl,h1,-⟩:=hE
   have hix:=atB g 0 k c i hi
   rw[show 0+1*i=i by omega] at hix
   have hlen:(catL L (i+1)).length=(catL L i).length+(L i).size:=by rw[zBZ,List.length_append];rfl
   have hb1:=HS.out i (by omega)
   have hb2:=HS.out (i+1) (by omega)
   obtain ⟨a,ha⟩:∃ a,Hid ((catL L i).length=a):=⟨_,rfl⟩
   obtain ⟨b,hb⟩:∃ b,Hid ((L i).size=b):=⟨_,rfl⟩
   rw[ha.out] at hlen hb1
   rw[hb.out] at hlen h1
   rw[ha.out]
   have hwr:IntKind.i64.wrap ((a:Int)+(b:Int))=((a+b:Nat):Int):=by rw[IntKind.wrap_i64];omega
   have hng:¬ (((a+b:Nat):Int)<0):=by omega
   rw[hb.out] at hc
   go_wp2
   go_roundg (gk-1)
   case measure=>omega
   case rel=>exact ⟨i+1,by omega,rfl,by rw[hlen,Int.natCast_add],rfl⟩
  ·have hi':¬ (i:Int)<(k:Int):=by omega
   obtain rfl:i=k:=by omega
   go_wp2_with fail
   refine (zQA (catL L i).length (by have:=HS.out i (Nat.le_refl _);omega) w).mono ?_
   rintro e w1 ⟨v,rfl,hb1,ho1⟩
   have K1:Hid (Below w.heap.size w w1∧w1.ownsRow w.heap.size 5 1 v (catL L 0).length ((catL L 0).map encB)):=⟨hb1,ho1⟩
   clear hb1 ho1
   go_wp2_with fail
   go_loopg [6,27] i (fun m s6 s27 W=>∃ j:Nat,j+m=i∧s27=.int .i64 j∧Hid (Below w.heap.size w W∧W.ownsRow w.heap.size 5 1 s6 (catL L j).length ((catL L j).map encB)))
   case atStart=>exact ⟨0,by omega,rfl,K1⟩
   case round =>
    clear K1
    obtain ⟨j,hjk,rfl,KM⟩:=hrel
    by_cases hj:j<i
    ·have hj':(j:Int)<(i:Int):=by omega
     obtain ⟨x,hc0,hE0⟩:=HL.out j hj
     have hc:wr.cell? ⟨g,j,none⟩=some x:=by rw[KM.out.1.cell (p:=⟨g,j,none⟩) HG.out];exact hc0
     have hE:=hE0.below KM.out.1 (Nat.le_refl _)
     have hb2:=HS.out (j+1) (by omega)
     have hlen:(catL L (j+1)).length=(catL L j).length+(L j).size:=by rw[zBZ,List.length_append];rfl
     obtain ⟨v',W',r1,r2,r3⟩:=zOM KM.out.2 hE (by omega) KM.out.1.size
     rw[← hlen,← zQP] at r2
     have KN:Hid (Below w.heap.size w W'∧W'.ownsRow w.heap.size 5 1 v' (catL L (j+1)).length ((catL L (j+1)).map encB)):=⟨KM.out.1.grown r3 KM.out.1.size (fun k hk=>(KM.out.2.lt k hk).1),r2⟩
     have HAP:=Hid.mk' r1
     obtain ⟨kx,cx,rfl,-⟩:=hE
     have hix:=atB g 0 i c j hj
     rw[show 0+1*j=j by omega] at hix
     clear r1 r2 r3 hlen hb2 KM hE0 hc0
     go_wp2_with (first|(refine zCy (x:=u6) (y:=.slice (some ⟨kx,0,none⟩) (L j).size cx) (v:=v') (w':=W') rfl _ _ 22 rfl ?_ ?_ ?_ ?_;rfl;rfl;exact HAP.out)|fail)
     go_roundg (gk-1)
     case measure=>omega
     case rel=>exact ⟨j+1,by omega,rfl,KN⟩
    ·have hj':¬ (j:Int)<(i:Int):=by omega
     obtain rfl:j=i:=by omega
     go_wp2
     go_ret
     exact ⟨_,rfl,KM.out.1,KM.out.2⟩
end
section
open Go.RowKit Go.Sort Go.Deep Go.Shelf
attribute [local go_sem] Oper.semAt_some
variable {P:Nat} [NeZero P]
theorem zMB {w:World} {g o:Nat} {bs:Bs} (h:Holds encB w g o bs) (hs:0<bs.size):g<w.heap.size:=by
 obtain ⟨ob,ho,-⟩:=cells_of_cell (h 0 hs).1
 exact (Array.getElem?_eq_some_iff.1 ho).1
noncomputable def cand (P:Nat) [NeZero P] (lab:ByteArray) (b:List UInt8) (i:Nat):Option (Fin P × Fin P):=
 if beV (SP.tagL ((⟨#[112,111,105,110,116,32]⟩:ByteArray)++lab).data.toList [b,[UInt8.ofNat i]]).toList<P then
  (rt (Fin.ofNat P (beV (SP.tagL ((⟨#[112,111,105,110,116,32]⟩:ByteArray)++lab).data.toList [b,[UInt8.ofNat i]]).toList)*Fin.ofNat P (beV (SP.tagL ((⟨#[112,111,105,110,116,32]⟩:ByteArray)++lab).data.toList [b,[UInt8.ofNat i]]).toList)*Fin.ofNat P (beV (SP.tagL ((⟨#[112,111,105,110,116,32]⟩:ByteArray)++lab).data.toList [b,[UInt8.ofNat i]]).toList)+7)).map fun y=>(Fin.ofNat P (beV (SP.tagL ((⟨#[112,111,105,110,116,32]⟩:ByteArray)++lab).data.toList [b,[UInt8.ofNat i]]).toList),y)
 else none
noncomputable def cands (P:Nat) [NeZero P] (lab:ByteArray) (b:List UInt8) (i:Nat):List (Fin P × Fin P):=(List.range i).filterMap (cand P lab b)
end
section
open Go.RowKit Go.Sort Go.Deep Go.Shelf
attribute [local go_sem] Oper.semAt_some
section
variable {F:Fence} {n:Nat} {P:Program} {ops:Array Oper} {rest:List Oper} {op:Oper} {a:Act} {w:World} {Q:Exit→Act→World→Prop}
end
variable {P:Nat} [NeZero P]
end
section
open Go.RowKit Go.Sort Go.Deep Go.Shelf
variable {P:Nat} [NeZero P] {N:Nat}
noncomputable def hpt (P:Nat) [NeZero P] (lab:ByteArray) (b:List UInt8):Fin P × Fin P:=(cands P lab b 256).headD (gX P,gY P)
end
section
open Go.RowKit Go.Sort Go.Deep
variable {P:Nat} [NeZero P] {N:Nat}
end
section
open Go.RowKit Go.Sort Go.Deep
variable {P:Nat} [NeZero P] {N:Nat}
theorem zRI:Gives 73 #[.int .u64 1] (nv 1):=by
 intro w
 go_enter Tryz.func73,Tryz.ntmps73
 refine RG.M.enter [(0,.v (.int .u64 1))] 6 (by kernel_rfl) ?_
 intro a0 M0
 repeat refine wp_seq ?_
 refine M0.t [.m 2 [] 0] [(0,RG.z 4)] [] [RG.z 4] [(0,.v (.int .u64 1)),(2,.p 0 0)] ⟨RG.mk 0 49,trivial⟩ ?_
 intro k a1 w1 M1
 repeat refine wp_seq ?_
 refine M1.t [.x 3 [] (.int .u64 1),.x 4 [(3,0)] (nv 1),.x 5 [(4,1)] (nv 1),.u [(5,2)] 0] [] [(0,3,wn 1)] [wn 1] [(2,.p 0 0)] ⟨RG.st,RG.st,RG.st,RG.pt i40,trivial⟩ ?_
 intro a2 w2 M2
 refine wp_ret ?_
 refine bodyPost_ret (v:=nv 1) (RG.zAb M2.st 2 49 rfl 0 _ rfl (M2.at (s:=(.p 0 0))) u40 i40) M2.sl.defers ?_
 exact ⟨_,rfl,M2.st.bel.below,rfl⟩
def Sm (B:Nat) (W:World) (v:Value) (l:List (Nat × Bs)):Prop:=∃ g c,v=.slice (some ⟨g,0,none⟩) l.length c∧l.length≤c∧B≤g∧g<W.heap.size∧W.rangeAt g 0 (zAu l)
theorem Sm.grow {B:Nat} {W W':World} {v:Value} {l:List (Nat × Bs)} (h:Sm B W v l) (hb:Below W.heap.size W W'):Sm B W' v l:=by
 obtain ⟨g,c,h1,h2,h3,h4,h5⟩:=h
 exact ⟨g,c,h1,h2,h3,Nat.lt_of_lt_of_le h4 hb.size,RG.zAk h5 hb h4⟩
theorem cellsT_one' (n:Nat) (a:Bs):zAu [(n,a)]=wn n++bl33 a:=by rw[zBd];exact List.append_nil _
theorem Sm.one {B W k n} {w:World} {a:Bs} (h:Row w k (wn n++bl33 a)) (hB:B≤k) (hW:w=W):Sm B W (.slice (some ⟨k,0,none⟩) 1 1) [(n,a)]:=by
 subst hW
 exact ⟨k,1,rfl,Nat.le_refl _,hB,h.1,by rw[cellsT_one'];exact h.2.1⟩
section
variable (a:Bs) (w:World) (k1:Nat)
end
theorem infoT':(Tryz.prog.info? 167).map (fun i=>(i.size,i.bytes,i.zero.map fun z=>z.cells.size))=some (37,72,some 37):=by kernel_rfl
theorem zPa (n:Nat) (hn:n≤10000000) (w:World):Calls Tryz.prog 169 #[.slice none 0 0,.int .i64 n] w (Ret fun e w'=>Below w.heap.size w w'∧w'.ownsRow w.heap.size 167 37 e 0 []):=by
 by_cases h0:n=0
 ·subst h0
  go_enter Tryz.func169,Tryz.ntmps169
  go_wp2
  go_ret
  exact ⟨_,rfl,Below.refl _ _,World.ownsRow_nil _ _ _ _⟩
 ·obtain ⟨i,hi,he⟩:=Option.map_eq_some_iff.1 infoT'
  simp only[Prod.mk.injEq] at he
  obtain ⟨h1,h2,h3⟩:=he
  obtain ⟨z,hz,hz2⟩:=Option.map_eq_some_iff.1 h3
  have hr:=Lib.run_append_nil_zeros (P:=Tryz.prog) w 106 3 106 167 i z .i64 .i64 undS undI hi hz n (by omega) (by omega) (by omega) (by rw[h2];omega)
  have hcap:=grownCap_ge w n 0 167
  have hcap2:=grownCap_le_maxLen w n 0 167 (by unfold maxLen;omega)
  have hcs:(Builtin.zeroCells z.cells n++Builtin.zeroCells z.cells (grownCap w n 0 167-n)).size=grownCap w n 0 167*37:=by rw[Array.size_append,size_zeroCells,size_zeroCells,hz2];omega
  generalize grownCap w n 0 167=cp at hr hcap hcap2 hcs
  generalize Builtin.zeroCells z.cells n++Builtin.zeroCells z.cells (cp-n)=cur at hr hcs
  obtain ⟨w1,hw1⟩:∃ w1,Hid (w.drew.alloc (.cells cur 167)=w1):=⟨_,rfl⟩
  rw[hw1.out] at hr
  have HR:=Hid.mk' hr
  have K:Hid (Below w.heap.size w w1∧w1.ownsRow w.heap.size 167 37 (.slice (some ⟨w.heap.size,0,none⟩) 0 cp) 0 []):=by
   rw[← hw1.out]
   exact ⟨(Below.refl _ _).drew.alloc (Nat.le_refl _) _,World.ownsRow_made w.drew cur cp (Nat.le_refl _) hcap2 hcs⟩
  clear hr hw1 hcs hi hz hz2 h1 h2 h3
  have hn1:(0:Int)<(n:Int):=by omega
  have hn2:¬ ((n:Int)<0):=by omega
  have hw:IntKind.i64.wrap (n:Int)=n:=by rw[IntKind.wrap_i64];omega
  go_enter Tryz.func169,Tryz.ntmps169
  go_wp2_with (at_builtin;refine Lib.wpList_append_run _ rfl _ _ _ _ rfl _ _ rfl rfl _ _ HR.out ?_)
  go_ret
  exact ⟨_,rfl,K.out.1,K.out.2⟩
theorem zJq (l m:List (Nat × Bs)):zAu (l++m)=zAu l++zAu m:=by unfold zAu;rw[List.flatMap_append]
theorem zLh (l:List (Nat × Bs)):∀ u∈zAu l,u.oneCell'=true:=fun u hu=>by
 unfold zAu at hu
 obtain ⟨x,-,hx⟩:=List.mem_flatMap.1 hu
 exact cells_one x.1 x.2 u hx
theorem zDF:∀ {l:List (Nat × Bs)},(∀ x∈l,x.2.size=33)→(zAu l).length=l.length*37
 | [],_=>rfl
 | x :: r,h=>by
  rw[zBd,List.length_append,zBL (h x List.mem_cons_self),zDF fun y hy=>h y (List.mem_cons_of_mem _ hy),List.length_cons]
  omega
theorem zMn {base B:Nat} {W:World} {v x:Value} {l m:List (Nat × Bs)} (hown:W.ownsRow base 167 37 v l.length (zAu l)) (hm:∀ y∈m,y.2.size=33) (hx:Sm B W x m) (hn:l.length+m.length≤1000000) (hb:base≤W.heap.size) :
 ∃ v' W',(Builtin.append_ #[106,106] 106 #[v,x]).run Tryz.prog W=.ok v' W'∧W'.ownsRow base 167 37 v' (l++m).length (zAu (l++m))∧W.grownBy W' v.ownBlock:=by
 obtain ⟨i,hi,he⟩:=Option.map_eq_some_iff.1 infoT'
 simp only[Prod.mk.injEq] at he
 obtain ⟨h1,h2,h3⟩:=he
 obtain ⟨z,hz,hz2⟩:=Option.map_eq_some_iff.1 h3
 obtain ⟨k,c,rfl,e1,e2,e3,e4⟩:=hx
 obtain ⟨v',W',r1,r2,r3,-⟩:=run_append_own (P:=Tryz.prog) W base 106 106 167 i z 37 72 undS hi hz h1 h2 hz2 (by decide) v l.length (zAu l) hown ⟨k,0,none⟩ m.length c (zAu m) (zDF hm)
  (fun j u hj=>by
   have:=e4 j u hj
   rw[Nat.zero_add] at this
   rw[add0];exact this) (zLh m) (by unfold maxLen;omega) (by omega) hb
 exact ⟨v',W',r1,by rw[List.length_append,zJq];exact r2,r3⟩
end
section
open Go.RowKit Go.Sort Go.Deep
variable {P:Nat} [NeZero P] {N:Nat}
theorem atS (k o n c i:Nat) (hi:i<n) (w:World):(Instr.indexAt 224 (.slice (some ⟨k,o,none⟩) n c) (.int .i64 i)).run Tryz.prog w=.ok (.pointer (some ⟨k,o+1*i,none⟩)) w:=by
 have h1:¬ (i:Int)<0:=by omega
 have h2:(i:Int)<n:=by omega
 go_simp
def catT (L:Nat→List (Nat × Bs)) (k:Nat):List (Nat × Bs):=(List.range k).flatMap L
theorem zBY (L:Nat→List (Nat × Bs)) (i:Nat):catT L (i+1)=catT L i++L i:=by
 unfold catT
 rw[List.range_succ,List.flatMap_append]
 simp
theorem zLi (L:Nat→List (Nat × Bs)) {k m:Nat} (hs:∀ j,j<k→(L j).length≤m):∀ i,i≤k→(catT L i).length≤m*i
 | 0,_=>Nat.le_refl _
 | i+1,hi=>by
  have h1:=zLi L hs i (by omega)
  have h2:=hs i (by omega)
  rw[zBY,List.length_append,Nat.mul_succ]
  omega
theorem zK6 (g k c:Nat) (L:Nat→List (Nat × Bs)) (hk:k≤1000) (hs:∀ j,j<k→(L j).length≤600) (h33:∀ j,j<k→∀ x∈L j,x.2.size=33) (w:World) (hg:g<w.heap.size) (hL:∀ j,j<k→∃ x,w.cell? ⟨g,j,none⟩=some x∧Sm 0 w x (L j)) :
 Calls Tryz.prog 123 #[.slice (some ⟨g,0,none⟩) k c] w (Ret fun e w'=>Below w.heap.size w w'∧w'.ownsRow w.heap.size 167 37 e (catT L k).length (zAu (catT L k))):=by
 have HL:=Hid.mk' hL
 have HS:Hid (∀ i,i≤k→(catT L i).length≤600*i):=zLi L hs
 have HG:=Hid.mk' hg
 have H3:=Hid.mk' h33
 clear hL hs hg h33
 go_enter Tryz.func123,Tryz.ntmps123
 go_wp2_with fail
 go_loopg [3,11] k (fun m s3 s11 W=>∃ i:Nat,i+m=k∧s11=.int .i64 i∧s3=.int .i64 ((catT L i).length:Int)∧w=W)
 case atStart=>exact ⟨0,by omega,rfl,rfl,rfl⟩
 case round =>
  obtain ⟨i,hik,rfl,rfl,rfl⟩:=hrel
  by_cases hi:i<k
  ·have hi':(i:Int)<(k:Int):=by omega
   obtain ⟨x,hc,hE⟩:=HL.out i hi
   obtain ⟨kx,cx,rfl,h1,-⟩:=hE
   have hix:=atS g 0 k c i hi
   rw[show 0+1*i=i by omega] at hix
   have hlen:(catT L (i+1)).length=(catT L i).length+(L i).length:=by rw[zBY,List.length_append]
   have hb1:=HS.out i (by omega)
   have hb2:=HS.out (i+1) (by omega)
   obtain ⟨a,ha⟩:∃ a,Hid ((catT L i).length=a):=⟨_,rfl⟩
   obtain ⟨b,hb⟩:∃ b,Hid ((L i).length=b):=⟨_,rfl⟩
   rw[ha.out] at hlen hb1
   rw[hb.out] at hlen h1
   rw[ha.out]
   have hwr:IntKind.i64.wrap ((a:Int)+(b:Int))=((a+b:Nat):Int):=by rw[IntKind.wrap_i64];omega
   have hng:¬ (((a+b:Nat):Int)<0):=by omega
   rw[hb.out] at hc
   go_wp2
   go_roundg (gk-1)
   case measure=>omega
   case rel=>exact ⟨i+1,by omega,rfl,by rw[hlen,Int.natCast_add],rfl⟩
  ·have hi':¬ (i:Int)<(k:Int):=by omega
   obtain rfl:i=k:=by omega
   go_wp2_with fail
   refine (zPa (catT L i).length (by have:=HS.out i (Nat.le_refl _);omega) w).mono ?_
   rintro e w1 ⟨v,rfl,hb1,ho1⟩
   have K1:Hid (Below w.heap.size w w1∧w1.ownsRow w.heap.size 167 37 v (catT L 0).length (zAu (catT L 0))):=⟨hb1,ho1⟩
   clear hb1 ho1
   go_wp2_with fail
   go_loopg [6,27] i (fun m s6 s27 W=>∃ j:Nat,j+m=i∧s27=.int .i64 j∧Hid (Below w.heap.size w W∧W.ownsRow w.heap.size 167 37 s6 (catT L j).length (zAu (catT L j))))
   case atStart=>exact ⟨0,by omega,rfl,K1⟩
   case round =>
    clear K1
    obtain ⟨j,hjk,rfl,KM⟩:=hrel
    by_cases hj:j<i
    ·have hj':(j:Int)<(i:Int):=by omega
     obtain ⟨x,hc0,hE0⟩:=HL.out j hj
     have hc:wr.cell? ⟨g,j,none⟩=some x:=by rw[KM.out.1.cell (p:=⟨g,j,none⟩) HG.out];exact hc0
     have hE:=hE0.grow KM.out.1
     have hb2:=HS.out (j+1) (by omega)
     have hlen:(catT L (j+1)).length=(catT L j).length+(L j).length:=by rw[zBY,List.length_append]
     obtain ⟨v',W',r1,r2,r3⟩:=zMn KM.out.2 (H3.out j hj) hE (by rw[← hlen];omega) KM.out.1.size
     rw[← zBY] at r2
     have KN:Hid (Below w.heap.size w W'∧W'.ownsRow w.heap.size 167 37 v' (catT L (j+1)).length (zAu (catT L (j+1)))):=⟨KM.out.1.grown r3 KM.out.1.size (fun k hk=>(KM.out.2.lt k hk).1),r2⟩
     have HAP:=Hid.mk' r1
     obtain ⟨kx,cx,rfl,-⟩:=hE
     have hix:=atS g 0 i c j hj
     rw[show 0+1*j=j by omega] at hix
     clear r1 r2 r3 hlen hb2 KM hE0 hc0
     go_wp2_with (first|(refine zCy (x:=u6) (y:=.slice (some ⟨kx,0,none⟩) (L j).length cx) (v:=v') (w':=W') rfl _ _ 106 rfl ?_ ?_ ?_ ?_;rfl;rfl;exact HAP.out)|fail)
     go_roundg (gk-1)
     case measure=>omega
     case rel=>exact ⟨j+1,by omega,rfl,KN⟩
    ·have hj':¬ (j:Int)<(i:Int):=by omega
     obtain rfl:j=i:=by omega
     go_wp2
     go_ret
     exact ⟨_,rfl,KM.out.1,KM.out.2⟩
theorem zOK {W:World} {base:Nat} {v:Value} {l:List (Nat × Bs)} (h:W.ownsRow base 167 37 v l.length (zAu l)) (hl:0<l.length):Sm base W v l:=by
 have h0:=fun {g:Nat}=>h.cells (g:=g)
 rcases h.2 with ⟨-,h2⟩|⟨g,cap,cur,rfl,h1,hc,hn,-⟩
 ·omega
 ·refine ⟨g,cap,rfl,hn,h1,(Array.getElem?_eq_some_iff.1 hc).1,fun j u hu=>?_⟩
  have:=h0 (g:=g) rfl j u hu
  rw[add0] at this
  rw[Nat.zero_add]
  exact this
theorem zJM (B:Nat) (s t:Value) (l m:List (Nat × Bs)) (hl0:0<l.length) (hl:l.length≤500) (hm:m.length≤500) (hl3:∀ x∈l,x.2.size=33) (hm3:∀ x∈m,x.2.size=33) (w:World) (h1:Sm B w s l) (h2:Sm B w t m) :
 Calls Tryz.prog 74 #[s,t] w (Ret fun e w'=>Below w.heap.size w w'∧Sm w.heap.size w' e (l++m)):=by
 have hb0:=hl0
 obtain ⟨g1,c1,e1,-⟩:=id h1
 obtain ⟨g2,c2,e2,-⟩:=id h2
 subst e1
 subst e2
 obtain ⟨w1,hw1⟩:∃ w1,Hid (w.alloc (.cells #[.slice (some ⟨g1,0,none⟩) l.length c1,.slice (some ⟨g2,0,none⟩) m.length c2] 106)=w1):=⟨_,rfl⟩
 have hb:Below w.heap.size w w1:=by rw[← hw1.out];exact zAf _ _
 have hlt:w.heap.size<w1.heap.size:=by rw[← hw1.out,World.size_alloc];omega
 have hM:w1.rangeAt w.heap.size 0 [.slice (some ⟨g1,0,none⟩) l.length c1,.slice (some ⟨g2,0,none⟩) m.length c2]:=by rw[← hw1.out];exact (RG.Made.alloc w [.slice (some ⟨g1,0,none⟩) l.length c1,.slice (some ⟨g2,0,none⟩) m.length c2] 106).range
 have HC:=Hid.mk' (zK6 w.heap.size 2 2 (fun j=>if j=0 then l else m) (by decide) (fun j _=>by show (if j=0 then l else m).length≤600;split<;>omega) (fun j _=>by
  show ∀ x∈(if j=0 then l else m),x.2.size=33
  split
  ·exact hl3
  ·exact hm3) w1 hlt (fun j hj=>by
  have hz:∀ {v:Value} {l:List (Nat × Bs)},Sm B w v l→Sm 0 w1 v l:=fun h=>by
   obtain ⟨g,c,q1,q2,-,q4,q5⟩:=h.grow hb
   exact ⟨g,c,q1,q2,Nat.zero_le _,q4,q5⟩
  have hj2:j=0∨j=1:=by omega
  rcases hj2 with rfl|rfl
  ·exact ⟨_,hM 0 _ rfl,hz h1⟩
  ·exact ⟨_,hM 1 _ rfl,hz h2⟩))
 have hcat:catT (fun j=>if j=0 then l else m) 2=l++m:=by rw[zBY,zBY];rfl
 have HB:=Hid.mk' hb
 have HK:Hid (catT (fun j=>if j=0 then l else m) 2=l++m∧0<(l++m).length):=⟨hcat,by rw[List.length_append];omega⟩
 clear h1 h2 hM hlt hb hcat hl3 hm3
 go_enter Tryz.func74,Tryz.ntmps74
 go_wp2_with fail
 rw[hw1.out]
 refine HC.out.mono ?_
 rintro e w2 ⟨vv,rfl,hb2,ho⟩
 rw[HK.out.1] at ho
 have K2:Hid (Below w.heap.size w w2∧Sm w.heap.size w2 vv (l++m)):=by
  obtain ⟨g,c,q1,q2,q3,q4,q5⟩:=zOK ho HK.out.2
  exact ⟨HB.out.trans (hb2.mono HB.out.size),g,c,q1,q2,Nat.le_trans HB.out.size q3,q4,q5⟩
 clear hb2 ho HC
 go_wp2
 go_ret
 exact ⟨_,rfl,K2.out.1,K2.out.2⟩
theorem Sm.point (C:Fld P) (O:Ord N) (hord:∀ r:EC.Pt P,EC.On r→EC.mul N r=none) {B:Nat} {w:World} {v:Value} {l:List (Nat × Bs)} (h:Sm B w v l) (hl0:0<l.length) (hl:l.length≤512) (hn:∀ x∈l,x.1<N) (hp:PtsL P l) :
 Calls Tryz.prog 75 #[v] w (Ret fun e w'=>Below w.heap.size w w'∧e=pvl (wr (sumL P l))):=by
 obtain ⟨g,c,rfl,-,-,hg,hr⟩:=h
 have h33:∀ x∈l.map (·.2),x.size=33:=fun x hx=>by
  obtain ⟨y,hy,rfl⟩:=List.mem_map.1 hx
  obtain ⟨X,-,e⟩:=hp y hy
  rw[e];exact zAB _
 have hm:∀ j (hj:j<l.length),((l[j]?).getD (0,#[]))=l[j]:=fun j hj=>by rw[List.getElem?_eq_getElem hj];rfl
 have hX:∀ j,j<l.length→EC.On (unwr P ((l[j]?).getD (0,#[])).2):=fun j hj=>by rw[hm j hj];exact hp.on C (List.getElem_mem hj)
 refine (zIQ C O hord g l.length c hl0 hl (fun j=>((l[j]?).getD (0,#[])).1) (fun j=>unwr P ((l[j]?).getD (0,#[])).2) (fun j hj=>by rw[hm j hj];exact hn _ (List.getElem_mem hj)) hX w hg (fun j hj=>?_)).mono ?_
 ·rw[hm j hj]
  obtain ⟨X,x1,x2⟩:=hp _ (List.getElem_mem hj)
  rw[x2,zBv C x1,← x2]
  intro t u hu
  have ht:t<37:=by
   have:=(List.getElem?_eq_some_iff.1 hu).1
   rw[zBL (h33 _ (List.mem_map.2 ⟨_,List.getElem_mem hj,rfl⟩))] at this
   exact this
  have:=hr (37*j+t) u (by rw[zCv l h33 j hj t ht];exact hu)
  rw[Nat.zero_add] at this
  exact this
 ·rintro e w' ⟨u,rfl,hb,rfl⟩
  refine ⟨_,rfl,hb,?_⟩
  rw[zFL C l hp _ (Nat.le_refl _),List.take_length]
end
section
open Go.RowKit Go.Sort Go.Deep
variable {P:Nat} [NeZero P] {N:Nat}
structure Kp (w:World) (W:World) (rs:List (Nat × List Value)):Prop where
 bl:Below w.heap.size w W
 rw:∀ x∈rs,Row W x.1 x.2
theorem Kp.grow {w W W':World} {rs:List (Nat × List Value)} (h:Kp w W rs) (hb:Below W.heap.size W W'):Kp w W' rs:=⟨h.bl.trans (hb.mono h.bl.size),fun x hx=>(h.rw x hx).below hb⟩
theorem Kp.drew {w W:World} {rs:List (Nat × List Value)} (h:Kp w W rs):Kp w W.drew rs:=⟨h.bl.drew,h.rw⟩
theorem Kp.cons {w W:World} {rs:List (Nat × List Value)} {k:Nat} {c:List Value} (h:Kp w W rs) (hr:Row W k c):Kp w W ((k,c) :: rs):=⟨h.bl,fun x hx=>by
 rcases List.mem_cons.1 hx with rfl|hx
 ·exact hr
 ·exact h.rw x hx⟩
theorem Kp.at {w W:World} {rs:List (Nat × List Value)} (h:Kp w W rs) {k:Nat} {c:List Value} (i:Nat) (hi:rs[i]? = some (k,c)):Row W k c:=h.rw _ (List.mem_of_getElem? hi)
theorem Kp.put {w W:World} {rs:List (Nat × List Value)} {k:Nat} {old new:List Value} (h:Kp w W rs) (hr:Row W k old) (hl:new.length=old.length) (hk:w.heap.size≤k) (hne:∀ x∈rs,x.1≠k):Kp w (W.setCells k 0 new) ((k,new) :: rs):=
 ⟨RG.below_setCells hk _ _ _ h.bl,fun x hx=>by
  rcases List.mem_cons.1 hx with rfl|hx
  ·exact hr.put hl
  ·exact (h.rw x hx).other (hne x hx)⟩
def Nw (B:Nat) (c:List Value) (v:Value) (W:World):Prop:=∃ k,v=.pointer (some ⟨k,0,none⟩)∧B≤k∧Row W k c
theorem Nw.grow {B:Nat} {c:List Value} {v:Value} {W W':World} (h:Nw B c v W) (hb:Below W.heap.size W W'):Nw B c v W':=by
 obtain ⟨k,h1,h2,h3⟩:=h
 exact ⟨k,h1,h2,h3.below hb⟩
section
variable (w:World) (k6 k8 k9 k10 x kk c z B0:Nat) (A F:Bs) (v1:Value)
def R5:Nat→Value→World→Prop
 | 0,v,_=>v=nv kk
 | 1,v,_=>v=pvl A
 | 2,v,_=>v=pvl F
 | 3,v,W=>Nw B0 z33 v W
 | _,_,_=>True
def G5:RG.Gw:=⟨R5 kk B0 A F,fun W=>Kp w W [(k8,wn kk),(k6,wn x)]∧B0≤W.heap.size,fun i v W W' hb h=>by
 match i,h with
 | 0,h=>exact h
 | 1,h=>exact h
 | 2,h=>exact h
 | 3,h=>exact Nw.grow h hb
 | _+4,_=>trivial,fun W W' hb h=>⟨h.1.grow hb,Nat.le_trans h.2 hb.size⟩⟩
def R6 (A':Bs):Nat→Value→World→Prop
 | 0,v,_=>v=nv x
 | 1,v,_=>v=pvl A
 | 2,v,_=>v=pvl A'
 | 3,v,_=>v=pvl F
 | 4,v,_=>v=v1
 | 5,v,_=>v=nv c
 | 6,v,W=>Nw B0 [.int .u64 0,.int .u64 0,.int .u64 0,.int .u64 0] v W
 | _,_,_=>True
def G6 (A':Bs):RG.Gw:=⟨R6 x c B0 A F v1 A',fun W=>Kp w W [(k9,bl33 F),(k8,wn kk),(k6,wn x)]∧B0≤W.heap.size,fun i v W W' hb h=>by
 match i,h with
 | 0,h=>exact h
 | 1,h=>exact h
 | 2,h=>exact h
 | 3,h=>exact h
 | 4,h=>exact h
 | 5,h=>exact h
 | 6,h=>exact Nw.grow h hb
 | _+7,_=>trivial,fun W W' hb h=>⟨h.1.grow hb,Nat.le_trans h.2 hb.size⟩⟩
def Two (v:Value) (W:World):Prop:=∃ k y,v=.slice (some ⟨k,0,none⟩) 2 2∧k<W.heap.size∧W.cell? ⟨k,0,none⟩=some (.slice (some ⟨k9,0,none⟩) 33 33)∧W.cell? ⟨k,1,none⟩=some y∧El 32 W y (bx z)
def Ans (v:Value) (W:World):Prop:=W.ownsRow B0 5 1 v 65 ((F.toList++(bx z).toList).map encB)
def R7:Nat→Value→World→Prop
 | 0,v,_=>v=.slice (some ⟨k9,0,none⟩) 33 33
 | 1,v,_=>v=nv c
 | 2,v,_=>v=nv kk
 | 3,v,_=>v=nv x
 | 4,v,_=>v=nv z
 | 5,v,W=>El 32 W v (bx z)
 | 6,v,W=>Two k9 z v W
 | 7,v,W=>Ans z B0 F v W
 | 8,v,W=>Ans z B0 F v W
 | 9,v,_=>v=.int .i64 0
 | _,_,_=>True
theorem Ans.grow {v:Value} {W W':World} (h:Ans z B0 F v W) (hb:Below W.heap.size W W'):Ans z B0 F v W':=
 h.kept (row:=none) ⟨hb.os,hb.tape,hb.output,hb.size,fun k hk _=>hb.block k hk⟩ (by cases hv:v.ownBlock<;>simp)
theorem Two.grow {v:Value} {W W':World} (h:Two k9 z v W) (hb:Below W.heap.size W W'):Two k9 z v W':=by
 obtain ⟨k,y,h1,h2,h3,h4,h5⟩:=h
 exact ⟨k,y,h1,Nat.lt_of_lt_of_le h2 hb.size,by rw[hb.cell (p:=⟨k,0,none⟩) h2];exact h3,by rw[hb.cell (p:=⟨k,1,none⟩) h2];exact h4,h5.below hb (Nat.le_refl _)⟩
def G7:RG.Gw:=⟨R7 k9 x kk c z B0 F,fun W=>Kp w W [(k10,wn c),(k9,bl33 F),(k8,wn kk),(k6,wn x)]∧B0≤W.heap.size,fun i v W W' hb h=>by
 match i,h with
 | 0,h=>exact h
 | 1,h=>exact h
 | 2,h=>exact h
 | 3,h=>exact h
 | 4,h=>exact h
 | 5,h=>exact El.below h hb (Nat.le_refl _)
 | 6,h=>exact Two.grow k9 z h hb
 | 7,h=>exact Ans.grow z B0 F h hb
 | 8,h=>exact Ans.grow z B0 F h hb
 | 9,h=>exact h
 | _+10,_=>trivial,fun W W' hb h=>⟨h.1.grow hb,Nat.le_trans h.2 hb.size⟩⟩
end
end
section
open Go.RowKit Go.Sort Go.Deep
variable {P:Nat} [NeZero P] {N:Nat}
theorem zBS {P:Program} {fn:Func} {tmps:Array Value} {W:World} {k:Nat} {vs:List Value} {v:Value} (t u:Tmp) (T:TypeId) (hr:fn.results=#[.cell t T,.tmp u]) (h:Row W k vs) (ht:tmps[t]? = some (.pointer (some ⟨k,0,none⟩))) (hv:tmps[u]? = some v)
 (hu:(P.underlying T).map (·.isRow)=some true) (hi:(P.info? T).map (·.size)=some vs.length):(results fn tmps).run P W=.ok (.tuple #[.agg vs.toArray,v]) W:=by
 obtain ⟨d,hu,hd⟩:=Option.map_eq_some_iff.1 hu
 have h1:=run_loadVar_mid (P:=P) W k 0 T vs d h.2.1 hu hd hi
 have h2:tmps.getD t undef=.pointer (some ⟨k,0,none⟩):=by rw[Array.getD_eq_getD_getElem?,ht];rfl
 have h3:tmps.getD u undef=v:=by rw[Array.getD_eq_getD_getElem?,hv];rfl
 unfold results
 rw[hr]
 simp only[Array.mapM_eq_mapM_toList,List.mapM_cons,List.mapM_nil,h2,h3,asAddr]
 simp[Sem.run_bind,h1]
theorem zR7 (w:World):(Instr.build 54 #[]).run Tryz.prog w=.ok (.agg z33.toArray) w:=by kernel_rfl
theorem zQZ (g o cg:Nat) (w:World):(Instr.arrayAt 54 (.slice (some ⟨g,o,none⟩) 33 cg)).run Tryz.prog w=.ok (.pointer (some ⟨g,o,none⟩)) w:=by kernel_rfl
theorem zJ5 {bs:Bs} {p:Fin P × Fin P} (h:rd P bs=some p):bs.size=33:=by
 unfold rd at h
 split at h
 ·assumption
 ·cases h
theorem zKR {W:World} {g o:Nat} {b:Bs} (h:Holds encB W g o b):W.rangeAt g o (bl33 b):=fun j u hu=>by
 unfold bl33 at hu
 rw[List.getElem?_map] at hu
 obtain ⟨x,hx,rfl⟩:=Option.map_eq_some_iff.1 hu
 have hj:j<b.size:=by have:=(List.getElem?_eq_some_iff.1 hx).1;simpa using this
 rw[(h j hj).1,getElem!_pos b j hj]
 rw[Array.getElem?_toList,Array.getElem?_eq_getElem hj] at hx
 rw[Option.some.inj hx]
theorem zLk (C:Fld P) (v:Value) (bs:Bs) (p:Fin P × Fin P) (w:World) (hv:Arg33 w v bs) (hr:rd P bs=some p):Calls Tryz.prog 71 #[v] w (Ret fun e w'=>Below w.heap.size w w'∧e=.tuple #[pvl bs,.bool true]):=by
 have hs:=zJ5 hr
 have HG:Hid (∀ W,Below w.heap.size w W→Calls Tryz.prog 122 #[v] W (Ret fun e w'=>Below W.heap.size W w'∧e=.bool true)):=fun W hb=>by
  have h:=zIu C v bs W (hv.below hb)
  rw[hr] at h
  exact h
 obtain ⟨q,n,cap,rfl,e1,e2⟩:=hv
 rw[hs] at e1
 subst e1
 obtain ⟨g,o,rfl,-,hg,hH⟩:=e2 rfl
 have HH:Hid (w.rangeAt g o (bl33 bs)∧g<w.heap.size):=⟨zKR hH,hg⟩
 obtain ⟨w1,hw1⟩:∃ w1,Hid (w.alloc (.cells z33.toArray 54)=w1):=⟨_,rfl⟩
 have K1:Hid (Row w1 w.heap.size z33∧Below w.heap.size w w1):=by rw[← hw1.out];exact ⟨zAi w _ _,zAf w _⟩
 obtain ⟨d,hd1,hd2⟩:=Option.map_eq_some_iff.1 uCP
 have HD:Hid (Tryz.prog.underlying 54=some d∧d.isRow=true):=⟨hd1,hd2⟩
 have HS:=Hid.mk' hs
 have harr:=zQZ g o cap
 clear hd1 hd2 C hr hs hH hg e2
 go_enter Tryz.func71,Tryz.ntmps71
 go_wp2_with (first|(refine zAp (v:=.pointer (some ⟨w.heap.size,0,none⟩)) (w':=w1) rfl (.alloc 54) rfl ?_ ?_;(rw[← hw1.out];kernel_rfl))|fail)
 refine (HG.out w1 K1.out.2).mono ?_
 rintro e w2 ⟨vv,rfl,hb2,rfl⟩
 have K2:Hid (Row w2 w.heap.size z33∧Below w.heap.size w w2∧w2.rangeAt g o (bl33 bs)):=⟨K1.out.1.below hb2,K1.out.2.trans (hb2.mono K1.out.2.size),RG.zAk HH.out.1 (K1.out.2.trans (hb2.mono K1.out.2.size)) HH.out.2⟩
 clear hb2 K1 hw1 HG
 obtain ⟨w3,hw3⟩:∃ w3,Hid (w2.setCells w.heap.size 0 (bl33 bs)=w3):=⟨_,rfl⟩
 have hlen:(bl33 bs).length=33:=zAd HS.out
 have K3:Hid (Row w3 w.heap.size (bl33 bs)∧Below w.heap.size w w3):=by rw[← hw3.out];exact ⟨K2.out.1.put (by rw[hlen];rfl),RG.below_setCells (Nat.le_refl _) _ _ _ K2.out.2.1⟩
 obtain ⟨vt,hvt⟩:∃ vt,Hid (Value.agg (bl33 bs).toArray=vt):=⟨_,rfl⟩
 have HI:Hid ((Tryz.prog.info? 54).map (·.size)=some (bl33 bs).length∧w2.there w.heap.size 0 (bl33 bs).toArray.size∧(Tryz.prog.info? 54).map (·.size)=some (bl33 bs).toArray.size):=by
  have e:(bl33 bs).toArray.size=33:=by rw[List.size_toArray];exact hlen
  refine ⟨by rw[hlen];exact zAs,by rw[e];exact K2.out.1.2.2,by rw[e];exact zAs⟩
 clear hlen
 go_wp2_with (first|(refine wpList_load_mid rfl 54 _ rfl g o ?_ (bl33 bs) d ?_ ?_ ?_ ?_ ?_;rfl;exact K2.out.2.2;exact HD.out.1;exact HD.out.2;exact HI.out.1;rw[hvt.out])|(refine wpList_store_mid rfl 54 _ _ rfl w.heap.size 0 (bl33 bs).toArray ?_ ?_ ?_ ?_ ?_ ?_;rfl;exact hvt.out.symm;exact HI.out.2.1;exact HI.out.2.2;exact zBt bs;rw[show (bl33 bs).toArray.toList=bl33 bs from rfl,hw3.out])|fail)
 refine bodyPost_ret (zBS 2 3 54 rfl K3.out.1 rfl rfl uCP HI.out.1) rfl ?_
 exact ⟨_,rfl,K3.out.2,rfl⟩
theorem zLl (C:Fld P) (v:Value) (bs:Bs) (w:World) (hv:Arg33 w v bs) (hr:rd P bs=none):Calls Tryz.prog 71 #[v] w (Ret fun e w'=>Below w.heap.size w w'∧e=.tuple #[.agg z33.toArray,.bool false]):=by
 have HG:Hid (∀ W,Below w.heap.size w W→Calls Tryz.prog 122 #[v] W (Ret fun e w'=>Below W.heap.size W w'∧e=.bool false)):=fun W hb=>by
  have h:=zIu C v bs W (hv.below hb)
  rw[hr] at h
  exact h
 clear hv hr C
 obtain ⟨w1,hw1⟩:∃ w1,Hid (w.alloc (.cells z33.toArray 54)=w1):=⟨_,rfl⟩
 have K1:Hid (Row w1 w.heap.size z33∧Below w.heap.size w w1):=by rw[← hw1.out];exact ⟨zAi w _ _,zAf w _⟩
 obtain ⟨vt,hvt⟩:∃ vt,Hid (Value.agg z33.toArray=vt):=⟨_,rfl⟩
 have HO:Hid (z33.toArray.all (·.oneCell')=true):=by show _=_;decide +kernel
 go_enter Tryz.func71,Tryz.ntmps71
 go_wp2_with (first|(refine zAp (v:=.pointer (some ⟨w.heap.size,0,none⟩)) (w':=w1) rfl (.alloc 54) rfl ?_ ?_;(rw[← hw1.out];kernel_rfl))|fail)
 refine (HG.out w1 K1.out.2).mono ?_
 rintro e w2 ⟨vv,rfl,hb2,rfl⟩
 have K2:Hid (Row w2 w.heap.size z33∧Below w.heap.size w w2):=⟨K1.out.1.below hb2,K1.out.2.trans (hb2.mono K1.out.2.size)⟩
 clear hb2 K1 hw1 HG
 obtain ⟨w3,hw3⟩:∃ w3,Hid (w2.setCells w.heap.size 0 z33=w3):=⟨_,rfl⟩
 have K3:Hid (Row w3 w.heap.size z33∧Below w.heap.size w w3):=by rw[← hw3.out];exact ⟨K2.out.1.put rfl,RG.below_setCells (Nat.le_refl _) _ _ _ K2.out.2⟩
 have HB:=Hid.mk' (zR7 w2)
 rw[hvt.out] at HB
 go_wp2_with (first|(refine zDt (v:=vt) (w':=w2) rfl 54 _ rfl #[] ?_ ?_ ?_;kernel_rfl;exact HB.out)|(refine wpList_store_mid rfl 54 _ _ rfl w.heap.size 0 z33.toArray ?_ ?_ ?_ ?_ ?_ ?_;rfl;exact hvt.out.symm;exact K2.out.1.2.2;exact zAs;exact HO.out;rw[show z33.toArray.toList=z33 from rfl,hw3.out])|fail)
 refine bodyPost_ret (zBS 2 3 54 rfl K3.out.1 rfl rfl uCP zAs) rfl ?_
 exact ⟨_,rfl,K3.out.2,rfl⟩
def o33:Bs:=Array.replicate 33 0
theorem zKB:(.agg z33.toArray:Value)=pvl o33:=by
 unfold pvl z33 o33 bl33
 rw[Array.toList_replicate,List.map_replicate]
 rfl
theorem nePt {a b:Bs} (ha:a.size=33) (hb:b.size=33) (w:World):(binOp .neq 54 (pvl a) (pvl b)).run Tryz.prog w=.ok (.bool (!decide (a=b))) w:=by
 have h:=eqCP ha hb w
 have h2:(binOp .neq 54 (pvl a) (pvl b)).run Tryz.prog w=(Op.equal 54 (pvl a) (pvl b) >>= fun b=>pure (Value.bool (!b))).run Tryz.prog w:=rfl
 rw[h2,Sem.run_bind]
 have h3:(Op.equal 54 (pvl a) (pvl b)).run Tryz.prog w=.ok (decide (a=b)) w:=h
 rw[h3]
 rfl
noncomputable def rdB (P:Nat) [NeZero P] (b:Bs):Bs:=if (rd P b).isSome then b else o33
theorem zFV (b:Bs):(rdB P b).size=33:=by
 unfold rdB
 split
 ·rename_i h
  obtain ⟨p,hp⟩:=Option.isSome_iff_exists.1 h
  exact zJ5 hp
 ·rfl
theorem zPm (C:Fld P) (v:Value) (b:Bs) (w:World) (hv:Arg33 w v b):Calls Tryz.prog 71 #[v] w (Ret fun e w'=>Below w.heap.size w w'∧e=.tuple #[pvl (rdB P b),.bool (rd P b).isSome]):=by
 unfold rdB
 cases hr:rd P b with
 | none =>
  have:=zLl C v b w hv hr
  rw[zKB] at this
  exact this
 | some p=>exact zLk C v b p w hv hr
noncomputable def real (P:Nat) [NeZero P] (b:Bs):Bool:=(rd P b).isSome && !decide (rdB P b=o33)
def zRq (f g:Nat→UInt8) (z:Bool):List RG.It:=[.x 11 [] (fpv f),.x 12 [] (.bool true),.x 13 [(12,1)] (.bool true),.x 14 [] (fpv f),.x 15 [] (fpv fun _=>0),.x 16 [(14,3),(15,4)] (.bool z),.x 17 [(13,2),(16,5)] (.bool z),.u [(11,0)] 0,.x 3 [(17,6)] (.bool z)]
theorem zOW:pvl o33=fpv fun _=>0:=zKB.symm.trans rfl
theorem zOh (C:Fld P) (v:Value) (b:Bs) (w:World) (hv:Arg33 w v b):Calls Tryz.prog 56 #[v] w (Ret fun e w'=>Below w.heap.size w w'∧e=.tuple #[pvl (rdB P b),.bool (real P b)]):=by
 have hR:∀ w',RG.BelX w.heap.size [] w w'→Calls Tryz.prog 71 #[v] w' (Ret fun e w''=>Below w'.heap.size w' w''∧e=.tuple #[pvl (rdB P b),.bool (rd P b).isSome]):=fun w' hb=>zPm C v b w' (hv.below hb.below)
 have hne:=nePt (zFV (P:=P) b) (show o33.size=33 from rfl)
 unfold real
 rw[zDf (zFV b)] at hR hne ⊢
 rw[zOW] at hne
 generalize (fun i:Nat=>(rdB P b)[i]!)=f at hR hne ⊢
 generalize (rd P b).isSome=ok at hR ⊢
 generalize (!decide (rdB P b=o33))=z at hne ⊢
 go_enter Tryz.func56,Tryz.ntmps56
 refine RG.M.enter [(0,.v v)] 18 (by kernel_rfl) ?_
 intro a0 M0
 repeat refine wp_seq ?_
 refine M0.t [.m 2 [] 0,.x 3 [] (.bool false)] [(0,zz 33)] [] [zz 33] [(0,.v v),(2,.p 0 0),(3,.v (.bool false))] ⟨RG.mk 0 54,RG.st,trivial⟩ ?_
 intro j1 a1 w1 M1
 repeat refine wp_seq ?_
 refine M1.t [.x 7 [] v,.c 8 [(7,0)] (.tuple #[fpv f,.bool ok]),.x 6 [(8,1)] (.tuple #[fpv f,.bool ok]),.x 9 [(6,2)] (fpv f),.x 10 [(6,2)] (.bool ok),.m 4 [] 1,.u [(4,5),(9,3)] 1,.x 5 [(10,4)] (.bool ok)] [(5,zz 33)] [(1,6,fl33 f)] [zz 33,fl33 f] [(2,.p 0 0),(4,.p 1 0),(5,.v (.bool ok))] ⟨RG.st,RG.clB (fun _ _=>by kernel_rfl) hR,RG.st,RG.st,RG.st,RG.mk 1 54,RG.pt zAs,RG.st,trivial⟩ ?_
 intro j2 a2 w2 M2
 repeat refine wp_seq ?_
 cases ok with
 | true =>
  refine M2.d (zRq f f z) [] [(0,7,fl33 f)] [fl33 f,fl33 f] [(2,.p 0 0),(3,.v (.bool z))] ⟨RG.ld uCP zAs,RG.st,RG.st,RG.ld uCP zAs,RG.st,RG.zAg rfl .neq 54 54 14 15 (fpv f) (fpv fun _=>0) (.bool z) rfl rfl RG.sx RG.sx (fun w=>by kernel_rfl) hne,RG.st,RG.pt zAs,RG.st,trivial⟩ ?_
  intro a4 w4 M4
  refine wp_ret ?_
  refine bodyPost_ret (v:=.tuple #[fpv f,.bool z]) (RG.zAj M4.st 2 3 54 rfl 0 _ rfl (M4.at (s:=.p 0 0)) (.bool z) M4.av uCP zAs) M4.sl.defers ?_
  exact ⟨_,rfl,M4.st.bel.below,rfl⟩
 | false =>
  refine M2.d [.x 11 [] (fpv f),.x 12 [] (.bool false),.x 13 [(12,1)] (.bool false),⟨some 14,[],(.v undef),.pass⟩,⟨some 15,[],(.v undef),.pass⟩,⟨some 16,[],(.v undef),.pass⟩,.x 17 [(13,2),(16,5)] (.bool false),.u [(11,0)] 0,.x 3 [(17,6)] (.bool false)] [] [(0,7,fl33 f)] [fl33 f,fl33 f] [(2,.p 0 0),(3,.v (.bool false))] ⟨RG.ld uCP zAs,RG.st,RG.st,RG.zAe rfl rfl,RG.zAe rfl rfl,RG.zAe rfl rfl,RG.st,RG.pt zAs,RG.st,trivial⟩ ?_
  intro a4 w4 M4
  refine wp_ret ?_
  refine bodyPost_ret (v:=.tuple #[fpv f,.bool false]) (RG.zAj M4.st 2 3 54 rfl 0 _ rfl (M4.at (s:=.p 0 0)) (.bool false) M4.av uCP zAs) M4.sl.defers ?_
  exact ⟨_,rfl,M4.st.bel.below,rfl⟩
theorem atP (k o n c i:Nat) (hi:i<n) (w:World):(Instr.indexAt 91 (.slice (some ⟨k,o,none⟩) n c) (.int .i64 i)).run Tryz.prog w=.ok (.pointer (some ⟨k,o+33*i,none⟩)) w:=by
 have h1:¬ (i:Int)<0:=by omega
 have h2:(i:Int)<n:=by omega
 go_simp
theorem mkPL (N:Nat) (hN:N≤512):∃ C0:List Value,C0.length=33*N∧∀ w:World,(Instr.makeSlice 91 (.int .i64 N) (.int .i64 N)).run Tryz.prog w=.ok (.slice (some ⟨w.heap.size,0,none⟩) N N) (w.alloc (.cells C0.toArray 54)):=by
 have hu:Tryz.prog.underlying 91=some (.slice 54):=by kernel_rfl
 have hi:(Tryz.prog.info? 54).map (fun i=>(i.size,decide (i.bytes≤4000),i.zero.isSome))=some (33,true,true):=by kernel_rfl
 obtain ⟨i,hi1,hi2⟩:=Option.map_eq_some_iff.1 hi
 simp only[Prod.mk.injEq,decide_eq_true_eq] at hi2
 obtain ⟨h1,h2,h3⟩:=hi2
 obtain ⟨z,hz⟩:=Option.isSome_iff_exists.1 h3
 refine ⟨(madeCells z.cells (N*33)).toList,by rw[Array.length_toList,size_madeCells,Nat.mul_comm],fun w=>?_⟩
 have hb:(i.bytes:Int)*(N:Int)≤281474976710656:=by
  have:i.bytes*N≤4000*512:=Nat.mul_le_mul h2 hN
  have h5:((i.bytes*N:Nat):Int)≤281474976710656:=by omega
  rwa[Int.natCast_mul] at h5
 have:=run_make (P:=Tryz.prog) w 91 54 i z hu hi1 hz .i64 .i64 (N:Int) (N:Int) (by omega) (by omega) hb (by omega)
 rw[Int.toNat_natCast,h1] at this
 rw[Array.toArray_toList]
 exact this
structure Az (w W:World) (K k i:Nat) (L:Nat→Bs):Prop where
 bl:Below w.heap.size w W
 lt:K<W.heap.size
 th:W.there K 0 (33*k)
 rw:∀ j,j<i→W.rangeAt K (33*j) (bl33 (L j))
theorem Az.grow {w W W':World} {K k i:Nat} {L:Nat→Bs} (h:Az w W K k i L) (hb:Below W.heap.size W W'):Az w W' K k i L:=
 ⟨h.bl.trans (hb.mono h.bl.size),Nat.lt_of_lt_of_le h.lt hb.size,RG.zA5 h.th hb h.lt,fun j hj=>RG.zAk (h.rw j hj) hb h.lt⟩
theorem Az.put {w W:World} {K k i:Nat} {L:Nat→Bs} (h:Az w W K k i L) (hK:w.heap.size≤K) (hi:i<k) (hL:∀ j,j≤i→(L j).size=33):Az w (W.setCells K (33*i) (bl33 (L i))) K k (i+1) L:=by
 refine ⟨RG.below_setCells hK _ _ _ h.bl,by rw[RG.setCells_size];exact h.lt,World.there_setCells h.th _ _ _,fun j hj=>?_⟩
 by_cases hji:j=i
 ·subst hji
  refine World.rangeAt_setCells_same W K _ _ fun t ht=>?_
  rw[zAd (hL j (Nat.le_refl _))] at ht
  have:=h.th (33*j+t) (by omega)
  rwa[Nat.zero_add] at this
 ·exact World.rangeAt_setCells_apart (h.rw j (by omega)) K _ _ (Or.inr (Or.inl (by rw[zAd (hL j (by omega))];omega)))
def zSl (P:Nat) [NeZero P] (w:World) (k:Nat) (L:Nat→Bs) (e:Value) (w':World):Prop:=
 Below w.heap.size w w'∧(((∀ j,j<k→∃ p,rd P (L j)=some p)∧∃ K,e=.tuple #[.slice (some ⟨K,0,none⟩) k k,.bool true]∧w.heap.size≤K∧K<w'.heap.size∧w'.there K 0 (33*k)∧∀ j,j<k→w'.rangeAt K (33*j) (bl33 (L j)))∨((∃ j,j<k∧rd P (L j)=none)∧e=.tuple #[.slice none 0 0,.bool false]))
theorem zQ3 (C:Fld P) (gg k c:Nat) (hk:k≤512) (L:Nat→Bs) (w:World) (hg:gg<w.heap.size) (hL:∀ j,j<k→∃ v,w.cell? ⟨gg,j,none⟩=some v∧Arg33 w v (L j)) :
 Calls Tryz.prog 60 #[.func (.func 71) #[] #[],.slice (some ⟨gg,0,none⟩) k c] w (Ret (zSl P w k L)):=by
 obtain ⟨C0,hC0,hmk⟩:=mkPL k hk
 have hmk':=hmk w
 obtain ⟨w1,hw1⟩:∃ w1,Hid (w.alloc (.cells C0.toArray 54)=w1):=⟨_,rfl⟩
 rw[hw1.out] at hmk'
 have HM:=Hid.mk' hmk'
 have K1:Hid (Az w w1 w.heap.size k 0 L):=by
  have hR:Row w1 w.heap.size C0:=by rw[← hw1.out];exact zAi w _ _
  refine ⟨by rw[← hw1.out];exact zAf _ _,hR.1,by rw[← hC0];exact hR.2.2,fun j hj=>by omega⟩
 have HC:Hid (Fld P∧(∀ j,j<k→∃ v,w.cell? ⟨gg,j,none⟩=some v∧Arg33 w v (L j))∧gg<w.heap.size):=⟨C,hL,hg⟩
 obtain ⟨d,hd1,hd2⟩:=Option.map_eq_some_iff.1 uCP
 have HD:Hid (Tryz.prog.underlying 54=some d∧d.isRow=true):=⟨hd1,hd2⟩
 have HO:Hid (z33.toArray.all (·.oneCell')=true):=by show _=_;decide +kernel
 clear hd1 hd2 C hL hg hmk hC0 hw1
 go_enter Tryz.func60,Tryz.ntmps60
 go_wp2
 clear hmk'
 go_loopg [16] k (fun m s16 W=>∃ i:Nat,i+m=k∧s16=.int .i64 i∧Hid (Az w W w.heap.size k i L∧∀ j,j<i→∃ p,rd P (L j)=some p))
 case atStart=>exact ⟨0,by omega,rfl,K1.out,fun j hj=>by omega⟩
 case round =>
  clear K1 HM
  obtain ⟨i,hik,rfl,KM⟩:=hrel
  by_cases hi:i<k
  ·have hi':(i:Int)<(k:Int):=by omega
   obtain ⟨v,hc0,hA0⟩:=HC.out.2.1 i hi
   have hc:wr.cell? ⟨gg,i,none⟩=some v:=by rw[KM.out.1.bl.cell (p:=⟨gg,i,none⟩) HC.out.2.2];exact hc0
   have HA:Hid (Arg33 wr v (L i)):=hA0.below KM.out.1.bl
   have hix:=atB gg 0 k c i hi
   rw[show 0+1*i=i by omega] at hix
   clear hc0 hA0
   obtain ⟨b,hbe⟩:∃ b,Hid (L i=b):=⟨_,rfl⟩
   rw[hbe.out] at HA
   obtain ⟨k9,hk9⟩:∃ k9:Nat,True:=⟨0,trivial⟩
   clear hk9 k9
   cases hr:rd P b with
   | none =>
    go_wp2_with fail
    refine (zLl HC.out.1 v b wr HA.out hr).mono ?_
    rintro e W1 ⟨vv,rfl,hb1,rfl⟩
    obtain ⟨vz,hvz⟩:∃ vz,Hid (Value.agg z33.toArray=vz):=⟨_,rfl⟩
    rw[hvz.out]
    obtain ⟨k9,hk9⟩:∃ k9,Hid (W1.heap.size=k9):=⟨_,rfl⟩
    obtain ⟨W2,hW2⟩:∃ W2,Hid (W1.alloc (.cells z33.toArray 54)=W2):=⟨_,rfl⟩
    obtain ⟨W3,hW3⟩:∃ W3,Hid (W2.setCells k9 0 z33=W3):=⟨_,rfl⟩
    have F2:Hid (Row W2 k9 z33∧Below w.heap.size w W2∧w.heap.size≤k9):=by
     have hbb:Below w.heap.size w W1:=KM.out.1.bl.trans (hb1.mono KM.out.1.bl.size)
     rw[← hW2.out,← hk9.out]
     exact ⟨zAi W1 _ _,hbb.alloc hbb.size _,hbb.size⟩
    have K3:Hid (Below w.heap.size w W3):=by rw[← hW3.out];exact RG.below_setCells F2.out.2.2 _ _ _ F2.out.2.1
    have HN:Hid (i<k∧rd P (L i)=none):=⟨hi,by rw[hbe.out];exact hr⟩
    clear hb1 KM hr
    go_wp2_with (first|(refine zAp (v:=.pointer (some ⟨k9,0,none⟩)) (w':=W2) rfl (.alloc 54) rfl ?_ ?_;(rw[← hW2.out,← hk9.out];kernel_rfl))|(refine wpList_store_mid rfl 54 _ _ rfl k9 0 z33.toArray ?_ ?_ ?_ ?_ ?_ ?_;rfl;exact hvz.out.symm;exact F2.out.1.2.2;exact zAs;exact HO.out;rw[show z33.toArray.toList=z33 from rfl,hW3.out])|fail)
    go_ret2
    exact ⟨_,rfl,K3.out,Or.inr ⟨⟨i,HN.out⟩,rfl⟩⟩
   | some p =>
    have hs:=zJ5 hr
    go_wp2_with fail
    refine (zLk HC.out.1 v b p wr HA.out hr).mono ?_
    rintro e W1 ⟨vv,rfl,hb1,rfl⟩
    obtain ⟨vz,hvz⟩:∃ vz,Hid (pvl b=vz):=⟨_,rfl⟩
    rw[hvz.out]
    have hlen:(bl33 b).length=33:=zAd hs
    have hsz:(bl33 b).toArray.size=33:=by rw[List.size_toArray];exact hlen
    obtain ⟨k9,hk9⟩:∃ k9,Hid (W1.heap.size=k9):=⟨_,rfl⟩
    obtain ⟨W2,hW2⟩:∃ W2,Hid (W1.alloc (.cells z33.toArray 54)=W2):=⟨_,rfl⟩
    obtain ⟨W3,hW3⟩:∃ W3,Hid (W2.setCells k9 0 (bl33 b)=W3):=⟨_,rfl⟩
    obtain ⟨W4,hW4⟩:∃ W4,Hid (W3.setCells w.heap.size (33*i) (bl33 b)=W4):=⟨_,rfl⟩
    have A1:Az w W1 w.heap.size k i L:=KM.out.1.grow hb1
    have F2:Hid (Row W2 k9 z33∧Below W1.heap.size W1 W2):=by
     rw[← hW2.out,← hk9.out]
     exact ⟨zAi W1 _ _,zAf _ _⟩
    have F3:Hid (Row W3 k9 (bl33 b)∧Az w W3 w.heap.size k i L):=by
     rw[← hW3.out]
     exact ⟨F2.out.1.put (by rw[hlen];rfl),A1.grow (RG.below_setCells (by rw[hk9.out];exact Nat.le_refl _) _ _ _ F2.out.2)⟩
    have K4:Hid (Az w W4 w.heap.size k (i+1) L∧∀ j,j<i+1→∃ p,rd P (L j)=some p):=by
     have hall:∀ j,j<i+1→∃ p,rd P (L j)=some p:=fun j hj=>by
      by_cases hji:j=i
      ·subst hji;exact ⟨p,by rw[hbe.out];exact hr⟩
      ·exact KM.out.2 j (by omega)
     have h:=F3.out.2.put (Nat.le_refl _) hi (fun j hj=>by obtain ⟨q,hq⟩:=hall j (by omega);exact zJ5 hq)
     rw[hbe.out,hW4.out] at h
     exact ⟨h,hall⟩
    have HI:Hid ((Tryz.prog.info? 54).map (·.size)=some (bl33 b).length∧(Tryz.prog.info? 54).map (·.size)=some (bl33 b).toArray.size∧W2.there k9 0 (bl33 b).toArray.size∧W3.there w.heap.size (33*i) (bl33 b).toArray.size):=by
     rw[hlen,hsz]
     refine ⟨zAs,zAs,F2.out.1.2.2,fun t ht=>?_⟩
     have:=F3.out.2.th (33*i+t) (by omega)
     rwa[Nat.zero_add] at this
    have hix2:=atP w.heap.size 0 k k i hi
    clear hb1 KM hr hlen hsz A1 hs
    go_wp2_with (first|(refine zAp (v:=.pointer (some ⟨k9,0,none⟩)) (w':=W2) rfl (.alloc 54) rfl ?_ ?_;(rw[← hW2.out,← hk9.out];kernel_rfl))|(refine wpList_store_mid rfl 54 _ _ rfl k9 0 (bl33 b).toArray ?_ ?_ ?_ ?_ ?_ ?_;rfl;exact hvz.out.symm;exact HI.out.2.2.1;exact HI.out.2.1;exact zBt b;rw[show (bl33 b).toArray.toList=bl33 b from rfl,hW3.out])|(refine wpList_load_mid rfl 54 _ rfl k9 0 ?_ (bl33 b) d ?_ ?_ ?_ ?_ ?_;rfl;exact F3.out.1.2.1;exact HD.out.1;exact HD.out.2;exact HI.out.1;rw[show Value.agg (bl33 b).toArray=vz from hvz.out])|(refine wpList_store_mid rfl 54 _ _ rfl w.heap.size (33*i) (bl33 b).toArray ?_ ?_ ?_ ?_ ?_ ?_;rfl;exact hvz.out.symm;exact HI.out.2.2.2;exact HI.out.2.1;exact zBt b;rw[show (bl33 b).toArray.toList=bl33 b from rfl,hW4.out])|fail)
    go_roundg (gk-1)
    case measure=>omega
    case rel=>exact ⟨i+1,by omega,rfl,K4⟩
  ·have hi':¬ (i:Int)<(k:Int):=by omega
   obtain rfl:i=k:=by omega
   go_wp2
   go_ret2
   exact ⟨_,rfl,KM.out.1.bl,Or.inl ⟨KM.out.2,w.heap.size,rfl,Nat.le_refl _,KM.out.1.lt,KM.out.1.th,KM.out.1.rw⟩⟩
theorem zHr {b:Bs} (h:real P b=true):b.size=33:=by
 unfold real at h
 obtain ⟨p,hp⟩:=Option.isSome_iff_exists.1 ((Bool.and_eq_true _ _).mp h).1
 exact zJ5 hp
theorem u22:(Tryz.prog.underlying 22).map (·.isRow)=some false:=by kernel_rfl
theorem at62 (k o n c i:Nat) (hi:i<n) (w:World):(Instr.indexAt 44 (.slice (some ⟨k,o,none⟩) n c) (.int .i64 i)).run Tryz.prog w=.ok (.pointer (some ⟨k,o+i,none⟩)) w:=by
 have h1:¬ (i:Int)<0:=by omega
 have h2:(i:Int)<n:=by omega
 go_simp
theorem at33 (k o n c i:Nat) (hi:i<n) (w:World):(Instr.indexAt 94 (.slice (some ⟨k,o,none⟩) n c) (.int .i64 i)).run Tryz.prog w=.ok (.pointer (some ⟨k,o+4*i,none⟩)) w:=by
 have h1:¬ (i:Int)<0:=by omega
 have h2:(i:Int)<n:=by omega
 go_simp
theorem mkSL (N:Nat) (hN:N≤512):∃ C0:List Value,C0.length=4*N∧∀ w:World,(Instr.makeSlice 94 (.int .i64 N) (.int .i64 N)).run Tryz.prog w=.ok (.slice (some ⟨w.heap.size,0,none⟩) N N) (w.alloc (.cells C0.toArray 49)):=by
 have hu:Tryz.prog.underlying 94=some (.slice 49):=by kernel_rfl
 have hi:(Tryz.prog.info? 49).map (fun i=>(i.size,decide (i.bytes≤4000),i.zero.isSome))=some (4,true,true):=by kernel_rfl
 obtain ⟨i,hi1,hi2⟩:=Option.map_eq_some_iff.1 hi
 simp only[Prod.mk.injEq,decide_eq_true_eq] at hi2
 obtain ⟨h1,h2,h3⟩:=hi2
 obtain ⟨z,hz⟩:=Option.isSome_iff_exists.1 h3
 refine ⟨(madeCells z.cells (N*4)).toList,by rw[Array.length_toList,size_madeCells,Nat.mul_comm],fun w=>?_⟩
 have hb:(i.bytes:Int)*(N:Int)≤281474976710656:=by
  have:i.bytes*N≤4000*512:=Nat.mul_le_mul h2 hN
  have h5:((i.bytes*N:Nat):Int)≤281474976710656:=by omega
  rwa[Int.natCast_mul] at h5
 have:=run_make (P:=Tryz.prog) w 94 49 i z hu hi1 hz .i64 .i64 (N:Int) (N:Int) (by omega) (by omega) hb (by omega)
 rw[Int.toNat_natCast,h1] at this
 rw[Array.toArray_toList]
 exact this
def AllQ (N:Nat) (w:World) (n:Nat) (L:Nat→Bs) (e:Value) (w':World):Prop:=
 ((∃ j,j<n∧rq N (L j)=none)∧Below w.heap.size w w'∧e=.tuple #[.slice none 0 0,.bool false]) ∨
 ((∀ j,j<n→(rq N (L j)).isSome=true)∧∃ k C,RG.Made w k C w'∧Rows 4 n (fun j=>wn ((rq N (L j)).getD 0)) n C∧e=.tuple #[.slice (some ⟨k,0,none⟩) n n,.bool true])
theorem zPv (O:Ord N) (n cap:Nat) (hn:n≤512) (q:Option Addr) (L:Nat→Bs) (w:World) (hA:Args w q n L):Calls Tryz.prog 65 #[(.func (.func 66) #[] #[]),.slice q n cap] w (Ret fun e w'=>AllQ N w n L e w'):=by
 obtain ⟨C,hCl,hmk⟩:=mkSL n hn
 go_enter Tryz.func65,Tryz.ntmps65
 refine RG.M.enter [(0,.v (.func (.func 66) #[] #[])),(1,.v (.slice q n cap))] 35 (by kernel_rfl) ?_
 intro a0 M0
 repeat refine wp_seq ?_
 refine M0.u [.x 4 [] (.slice none 0 0),.x 5 [] (.bool false)] [(0,(.v (.func (.func 66) #[] #[]))),(1,(.v (.slice q n cap)))] ⟨RG.st,RG.st,trivial⟩ ?_
 intro a1 w1 M1
 repeat refine wp_seq ?_
 refine M1.t [.x 11 [] (.slice q n cap),.x 12 [(11,0)] (.int .i64 n),⟨some 13,[(12,1)],(.s 0 n n),.make 0⟩,.s 6 [(13,2)] (.s 0 n n)] [(2,C)] [] [C] [(0,(.v (.func (.func 66) #[] #[]))),(1,(.v (.slice q n cap))),(6,(.s 0 n n))] ⟨RG.st,RG.st,RG.zCG 0 rfl _ rfl 94 49 12 12 n rfl rfl RG.sx RG.sx (hmk),RG.st,trivial⟩ ?_
 intro j2 a2 w2 M2
 repeat refine wp_seq ?_
 refine M2.u [.x 14 [] (.slice q n cap),.x 15 [(14,0)] (.int .i64 n),.x 16 [] (.int .i64 0)] [(0,(.v (.func (.func 66) #[] #[]))),(6,(.s 0 n n)),(14,(.v (.slice q n cap))),(15,(.v (.int .i64 n))),(16,(.v (.int .i64 0)))] ⟨RG.st,RG.st,RG.st,trivial⟩ ?_
 intro a3 w3 M3
 repeat refine wp_seq ?_
 refine wp_block ?_
 refine wp_loop_ghost (fun m a wr=>∃ (i:Nat) (C:List Value) (kt:Nat),i+m=n∧(∀ j,j<i→(rq N (L j)).isSome=true)∧Rows 4 n (fun j=>wn ((rq N (L j)).getD 0)) i C∧RG.M w w.heap.size [] 35 [C] [kt] [(0,.v (.func (.func 66) #[] #[])),(6,.s 0 n n),(14,.v (.slice q n cap)),(15,.v (.int .i64 n)),(16,.v (.int .i64 i))] a wr) n ⟨0,C,_,by omega,fun j hj=>by omega,⟨hCl,fun j r hj=>by omega⟩,M3⟩ ?_
 clear hmk
 intro m' a wr
 rintro ⟨i,C,kt,him,hall,hR,M20⟩
 by_cases hi:i<n
 ·obtain ⟨gg,hqe,hgg,hc⟩:=hA (by omega)
  subst hqe
  obtain ⟨v,hv,harg⟩:=hc i hi
  have hcell:w.cell? ⟨gg,0+i,none⟩=some v:=by rw[Nat.zero_add];exact hv
  have hrd0:=fun w' (hb:RG.BelX w.heap.size [] w w')=>zJP O v (L i) w' (harg.below hb.below)
  obtain ⟨m,hm⟩:∃ m,m=(rq N (L i)).getD 0:=⟨_,rfl⟩
  cases hok:(rq N (L i)).isSome with
  | true =>
   have hrd:∀ w',RG.BelX w.heap.size [] w w'→Calls Tryz.prog 66 #[v] w' (Ret fun e w''=>Below w'.heap.size w' w''∧e=.tuple #[nv m,.bool true]):=fun w' hb=>by
    have h:=hrd0 w' hb
    rw[hok,← hm] at h
    exact h
   have hlen:=hR.len
   have hoff:0+4*i+(wn m).length≤C.length:=by rw[hlen];show 0+4*i+4≤4*n;omega
   obtain ⟨C2,hC2e⟩:∃ c,RG.rep C (0+4*i) (wn m)=c:=⟨_,rfl⟩
   have hC2:=hC2e ▸ RG.rep_at hoff
   have hcl:C2.length=C.length:=hC2e ▸ RG.zAQ hoff
   have hR2:Rows 4 n (fun j=>wn ((rq N (L j)).getD 0)) (i+1) C2:=by
    have:=hR.next hi rfl
    rw[← hC2e,hm]
    exact this
   repeat refine wp_seq ?_
   refine M20.u [.x 17 [] (.bool true)] [(0,(.v (.func (.func 66) #[] #[]))),(6,(.s 0 n n)),(14,(.v (.slice (some ⟨gg,0,none⟩) n cap))),(15,(.v (.int .i64 n))),(16,(.v (.int .i64 i))),(17,(.v (.bool true)))] ⟨RG.zAg rfl .lss 3 3 16 15 (.int .i64 i) (.int .i64 n) (.bool true) rfl rfl RG.sx RG.sx (fun w=>by kernel_rfl) (zBW hi),trivial⟩ ?_
   intro a21 w21 M21
   repeat refine wp_seq ?_
   refine wp_cond_true M21.ev ?_
   refine wp_skip ?_
   refine wp_seq ?_
   refine wp_block ?_
   repeat refine wp_seq ?_
   refine M21.u [.x 18 [] (.int .i64 i),.x 19 [] (.pointer (some ⟨gg,(0+i),none⟩)),.x 20 [(19,1)] v,.x 7 [(18,0)] (.int .i64 i),.x 8 [(20,2)] v] [(0,(.v (.func (.func 66) #[] #[]))),(6,(.s 0 n n)),(7,(.v (.int .i64 i))),(8,(.v v)),(14,(.v (.slice (some ⟨gg,0,none⟩) n cap))),(15,(.v (.int .i64 n))),(16,(.v (.int .i64 i)))] ⟨RG.st,RG.zAt rfl 44 14 16 rfl (.v (.slice (some ⟨gg,0,none⟩) n cap)) (.int .i64 i) RG.sx RG.sx (fun μ w=>at62 _ 0 _ _ i hi w),RG.zAy rfl gg (0+i) hgg List.not_mem_nil 22 19 rfl v rfl RG.sx hcell u22,RG.st,RG.st,trivial⟩ ?_
   intro a22 w22 M22
   repeat refine wp_seq ?_
   refine M22.t [.x 22 [] (.func (.func 66) #[] #[]),.x 23 [] v,.c 24 [(22,0),(23,1)] (.tuple #[(nv m),(.bool true)]),.x 21 [(24,2)] (.tuple #[(nv m),(.bool true)]),.x 25 [(21,3)] (nv m),.x 26 [(21,3)] (.bool true),.m 9 [] 1,.u [(9,6),(25,4)] 1,.x 10 [(26,5)] (.bool true)] [(6,(RG.z 4))] [(1,7,(wn m))] [C,(wn m)] [(0,(.v (.func (.func 66) #[] #[]))),(6,(.s 0 n n)),(7,(.v (.int .i64 i))),(9,(.p 1 0)),(10,(.v (.bool true))),(14,(.v (.slice (some ⟨gg,0,none⟩) n cap))),(15,(.v (.int .i64 n))),(16,(.v (.int .i64 i)))] ⟨RG.st,RG.st,RG.clB (fun _ _=>by kernel_rfl) hrd,RG.st,RG.st,RG.st,RG.mk 1 49,RG.pt i40,RG.st,trivial⟩ ?_
   intro j23 a23 w23 M23
   repeat refine wp_seq ?_
   refine M23.u [.x 27 [] (.bool true),.x 28 [(27,0)] (.bool false)] [(0,(.v (.func (.func 66) #[] #[]))),(6,(.s 0 n n)),(7,(.v (.int .i64 i))),(9,(.p 1 0)),(14,(.v (.slice (some ⟨gg,0,none⟩) n cap))),(15,(.v (.int .i64 n))),(16,(.v (.int .i64 i))),(28,(.v (.bool false)))] ⟨RG.st,RG.st,trivial⟩ ?_
   intro a24 w24 M24
   repeat refine wp_seq ?_
   refine wp_cond_false M24.ev ?_
   refine wp_skip ?_
   repeat refine wp_seq ?_
   refine M24.tx [.s 29 [] (.s 0 n n),.x 30 [] (.int .i64 i),.x 31 [] (nv m),.s 32 [(29,0),(30,1)] (.p 0 (0+4*i)),.u [(32,3),(31,2)] 0] [] [(0,4,C2)] [C2,(wn m)] [(0,(.v (.func (.func 66) #[] #[]))),(6,(.s 0 n n)),(14,(.v (.slice (some ⟨gg,0,none⟩) n cap))),(15,(.v (.int .i64 n))),(16,(.v (.int .i64 i)))] (by kernel_rfl) (congrArg (fun n=>[n]) hcl) ⟨RG.st,RG.st,RG.ld u40 i40,RG.zAt rfl 94 29 30 rfl (.s 0 n n) (.int .i64 i) RG.sx RG.sx (fun μ w=>at33 _ 0 _ _ i hi w),RG.zBc 0 (0+4*i) rfl _ rfl 49 (.tmp 32) (.tmp 31) (wn m) rfl rfl RG.sx RG.sx hoff hC2 i40 rfl,trivial⟩ ?_
   intro a25 w25 M25
   repeat refine wp_seq ?_
   refine M25.u [.x 33 [] (.int .i64 ((i+1:Nat):Int)),.x 16 [(33,0)] (.int .i64 ((i+1:Nat):Int))] [(0,(.v (.func (.func 66) #[] #[]))),(6,(.s 0 n n)),(14,(.v (.slice (some ⟨gg,0,none⟩) n cap))),(15,(.v (.int .i64 n))),(16,(.v (.int .i64 ((i+1:Nat):Int))))] ⟨RG.zAh rfl .add 3 3 16 (.int .i64 i) (.int .i64 1) (.int .i64 ((i+1:Nat):Int)) rfl rfl RG.sx (fun w=>by kernel_rfl) (addn i 1 (by omega) (by omega)),RG.st,trivial⟩ ?_
   intro a26 w26 M26
   show ∃ n',_
   exact ⟨m'-1,by omega,i+1,C2,kt,by omega,fun j hj=>(by
    by_cases hji:j=i
    ·rw[hji];exact hok
    ·exact hall j (by omega)),hR2,RG.M.drop (cs:=[C2]) (cs2:=[_]) (ks:=[kt]) (ks2:=[_]) M26 rfl rfl⟩
  | false =>
   have hrd:∀ w',RG.BelX w.heap.size [] w w'→Calls Tryz.prog 66 #[v] w' (Ret fun e w''=>Below w'.heap.size w' w''∧e=.tuple #[nv m,.bool false]):=fun w' hb=>by
    have h:=hrd0 w' hb
    rw[hok,← hm] at h
    exact h
   repeat refine wp_seq ?_
   refine M20.u [.x 17 [] (.bool true)] [(0,(.v (.func (.func 66) #[] #[]))),(14,(.v (.slice (some ⟨gg,0,none⟩) n cap))),(16,(.v (.int .i64 i))),(17,(.v (.bool true)))] ⟨RG.zAg rfl .lss 3 3 16 15 (.int .i64 i) (.int .i64 n) (.bool true) rfl rfl RG.sx RG.sx (fun w=>by kernel_rfl) (zBW hi),trivial⟩ ?_
   intro a21 w21 M21
   repeat refine wp_seq ?_
   refine wp_cond_true M21.ev ?_
   refine wp_skip ?_
   refine wp_seq ?_
   refine wp_block ?_
   repeat refine wp_seq ?_
   refine M21.u [.x 18 [] (.int .i64 i),.x 19 [] (.pointer (some ⟨gg,(0+i),none⟩)),.x 20 [(19,1)] v,.x 7 [(18,0)] (.int .i64 i),.x 8 [(20,2)] v] [(0,(.v (.func (.func 66) #[] #[]))),(8,(.v v))] ⟨RG.st,RG.zAt rfl 44 14 16 rfl (.v (.slice (some ⟨gg,0,none⟩) n cap)) (.int .i64 i) RG.sx RG.sx (fun μ w=>at62 _ 0 _ _ i hi w),RG.zAy rfl gg (0+i) hgg List.not_mem_nil 22 19 rfl v rfl RG.sx hcell u22,RG.st,RG.st,trivial⟩ ?_
   intro a22 w22 M22
   repeat refine wp_seq ?_
   refine M22.t [.x 22 [] (.func (.func 66) #[] #[]),.x 23 [] v,.c 24 [(22,0),(23,1)] (.tuple #[(nv m),(.bool false)]),.x 21 [(24,2)] (.tuple #[(nv m),(.bool false)]),.x 25 [(21,3)] (nv m),.x 26 [(21,3)] (.bool false),.m 9 [] 1,.u [(9,6),(25,4)] 1,.x 10 [(26,5)] (.bool false)] [(6,(RG.z 4))] [(1,7,(wn m))] [C,(wn m)] [(10,(.v (.bool false)))] ⟨RG.st,RG.st,RG.clB (fun _ _=>by kernel_rfl) hrd,RG.st,RG.st,RG.st,RG.mk 1 49,RG.pt i40,RG.st,trivial⟩ ?_
   intro j23 a23 w23 M23
   repeat refine wp_seq ?_
   refine M23.u [.x 27 [] (.bool false),.x 28 [(27,0)] (.bool true)] [(28,(.v (.bool true)))] ⟨RG.st,RG.st,trivial⟩ ?_
   intro a24 w24 M24
   repeat refine wp_seq ?_
   refine wp_cond_true M24.ev ?_
   repeat refine wp_seq ?_
   refine M24.u [.x 4 [] (.slice none 0 0),.x 5 [] (.bool false)] [(4,(.v (.slice none 0 0))),(5,(.v (.bool false)))] ⟨RG.st,RG.st,trivial⟩ ?_
   intro a25 w25 M25
   refine wp_ret ?_
   refine bodyPost_ret (v:=.tuple #[.slice none 0 0,.bool false]) (RG.zBu 4 5 rfl (.slice none 0 0) (.bool false) M25.av M25.av) M25.sl.defers ?_
   exact ⟨_,rfl,Or.inl ⟨⟨i,hi,by simpa using hok⟩,M25.st.bel.below,rfl⟩⟩
 ·have hiN:i=n:=by omega
  rw[hiN] at hall hR
  repeat refine wp_seq ?_
  refine M20.u [.x 17 [] (.bool false)] [(6,(.s 0 n n)),(17,(.v (.bool false)))] ⟨RG.zAg rfl .lss 3 3 16 15 (.int .i64 i) (.int .i64 n) (.bool false) rfl rfl RG.sx RG.sx (fun w=>by kernel_rfl) (zDU hi),trivial⟩ ?_
  intro a21 w21 M21
  repeat refine wp_seq ?_
  refine wp_cond_false M21.ev ?_
  refine wp_exit ?_
  dsimp only[Exit.then,Exit.inBlock]
  rw[if_pos rfl]
  repeat refine wp_seq ?_
  refine M21.u [.s 34 [] (.s 0 n n),.s 4 [(34,0)] (.s 0 n n),.x 5 [] (.bool true)] [(4,(.s 0 n n)),(5,(.v (.bool true)))] ⟨RG.st,RG.st,RG.st,trivial⟩ ?_
  intro a22 w22 M22
  refine wp_ret ?_
  refine bodyPost_ret (v:=_) (RG.zBu 4 5 rfl _ (.bool true) (M22.at (s:=.s 0 n n)) M22.av) M22.sl.defers ?_
  exact ⟨_,rfl,Or.inr ⟨hall,_,C,M22.st.made (b:=0) rfl,hR,rfl⟩⟩
end
section
open Go.RowKit Go.Sort Go.Deep
variable {P:Nat} [NeZero P] {N:Nat}
section
variable (w:World) (k6 k8 k9 k10 x kk c z B0:Nat) (X A B F G:Bs)
end
end
section
open Go.RowKit Go.Sort Go.Deep
variable {P:Nat} [NeZero P] {N:Nat}
end
section
open Go.RowKit Go.Sort Go.Deep
variable {P:Nat} [NeZero P] {N:Nat}
theorem zQh (O:Ord N) {a:Nat} (ha:a<N):Gives 163 #[nv a] (nv (sMi N 0 a)):=by
 intro w
 have h:=zPP O 0 a O.pos ha
 generalize sMi N 0 a=m at h ⊢
 go_enter Tryz.func163,Tryz.ntmps163
 refine RG.M.enter [(0,.v (nv a))] 6 (by kernel_rfl) ?_
 intro a0 M0
 repeat refine wp_seq ?_
 refine M0.t [.m 1 [] 0,.m 2 [] 1] [(0,wn a),(1,RG.z 4)] [] [wn a,RG.z 4] [(1,.p 0 0),(2,.p 1 0)] ⟨RG.mk 0 49,RG.mk 1 49,trivial⟩ ?_
 intro j1 j2 a1 w1 M1
 repeat refine wp_seq ?_
 refine M1.t [.x 3 [] (nv 0),.x 4 [] (nv a),.c 5 [(3,0),(4,1)] (nv m),.u [(5,2)] 1] [] [(1,3,wn m)] [wn a,wn m] [(2,.p 1 0)] ⟨RG.st,RG.ld u40 i40,RG.cl h,RG.pt i40,trivial⟩ ?_
 intro a2 w2 M2
 refine wp_ret ?_
 refine bodyPost_ret (v:=nv m) (RG.zAb M2.st 2 49 rfl 1 _ rfl (M2.at (s:=(.p 1 0))) u40 i40) M2.sl.defers ?_
 exact ⟨_,rfl,M2.st.bel.below,rfl⟩
theorem mkTL (N:Nat) (hN:N≤512):∃ C0:List Value,C0.length=37*N∧∀ w:World,(Instr.makeSlice 106 (.int .i64 N) (.int .i64 N)).run Tryz.prog w=.ok (.slice (some ⟨w.heap.size,0,none⟩) N N) (w.alloc (.cells C0.toArray 167)):=by
 have hi:(Tryz.prog.info? 167).map (fun i=>(i.size,decide (i.bytes≤4000),i.zero.isSome))=some (37,true,true):=by kernel_rfl
 obtain ⟨i,hi1,hi2⟩:=Option.map_eq_some_iff.1 hi
 simp only[Prod.mk.injEq,decide_eq_true_eq] at hi2
 obtain ⟨h1,h2,h3⟩:=hi2
 obtain ⟨z,hz⟩:=Option.isSome_iff_exists.1 h3
 refine ⟨(madeCells z.cells (N*37)).toList,by rw[Array.length_toList,size_madeCells,Nat.mul_comm],fun w=>?_⟩
 have hb:(i.bytes:Int)*(N:Int)≤281474976710656:=by
  have:i.bytes*N≤4000*512:=Nat.mul_le_mul h2 hN
  have h5:((i.bytes*N:Nat):Int)≤281474976710656:=by omega
  rwa[Int.natCast_mul] at h5
 have:=run_make (P:=Tryz.prog) w 106 167 i z undS hi1 hz .i64 .i64 (N:Int) (N:Int) (by omega) (by omega) hb (by omega)
 rw[Int.toNat_natCast,h1] at this
 rw[Array.toArray_toList]
 exact this
theorem zLg {W:World} {g:Nat} {l:List (Nat × Bs)} (h33:∀ x∈l.map (·.2),x.size=33) (hr:W.rangeAt g 0 (zAu l)) (j:Nat) (hj:j<l.length):W.rangeAt g (37*j) (wn (l[j]).1++bl33 (l[j]).2):=fun t u hu=>by
 have ht:t<37:=by
  have:=(List.getElem?_eq_some_iff.1 hu).1
  rw[zBL (h33 _ (List.mem_map.2 ⟨_,List.getElem_mem hj,rfl⟩))] at this
  exact this
 have:=hr (37*j+t) u (by rw[zCv l h33 j hj t ht];exact hu)
 rw[Nat.zero_add] at this
 exact this
theorem zIW {W:World} {g:Nat} {l:List (Nat × Bs)} (h33:∀ x∈l.map (·.2),x.size=33) (hr:∀ j (hj:j<l.length),W.rangeAt g (37*j) (wn (l[j]).1++bl33 (l[j]).2)):W.rangeAt g 0 (zAu l):=fun t u hu=>by
 have hlen:t<l.length*37:=by
  have:=(List.getElem?_eq_some_iff.1 hu).1
  rwa[zDF fun x hx=>h33 _ (List.mem_map.2 ⟨x,hx,rfl⟩)] at this
 have hj:t/37<l.length:=Nat.div_lt_of_lt_mul (by omega)
 have ht:t%37<37:=Nat.mod_lt _ (by decide)
 have e:37*(t/37)+t%37=t:=Nat.div_add_mod _ _
 have h2:=zCv l h33 (t/37) hj (t%37) ht
 rw[e,hu] at h2
 have:=hr (t/37) hj (t%37) u h2.symm
 rw[e] at this
 rw[Nat.zero_add]
 exact this
def tmT (N n:Nat) (x:Nat × Bs):Nat × Bs:=(sTi N n x.1,x.2)
structure Tz (w W:World) (N n K k3 i:Nat) (l:List (Nat × Bs)):Prop where
 bl:Below w.heap.size w W
 lt:K<W.heap.size
 ne:k3≠K
 th:W.there K 0 (37*l.length)
 r3:Row W k3 (wn n)
 rw:∀ j (hj:j<l.length),j<i→W.rangeAt K (37*j) (wn (tmT N n (l[j])).1++bl33 (tmT N n (l[j])).2)
theorem Tz.grow {w W W':World} {n K k3 i:Nat} {l:List (Nat × Bs)} (h:Tz w W N n K k3 i l) (hb:Below W.heap.size W W'):Tz w W' N n K k3 i l:=
 ⟨h.bl.trans (hb.mono h.bl.size),Nat.lt_of_lt_of_le h.lt hb.size,h.ne,RG.zA5 h.th hb h.lt,h.r3.below hb,fun j hj hji=>RG.zAk (h.rw j hj hji) hb h.lt⟩
theorem Tz.drew {w W:World} {n K k3 i:Nat} {l:List (Nat × Bs)} (h:Tz w W N n K k3 i l):Tz w W.drew N n K k3 i l:=⟨h.bl.drew,h.lt,h.ne,h.th,h.r3,h.rw⟩
theorem Tz.put {w W:World} {n K k3 i:Nat} {l:List (Nat × Bs)} (h:Tz w W N n K k3 i l) (hK:w.heap.size≤K) (hi:i<l.length) (h33:∀ x∈l.map (·.2),x.size=33):Tz w (W.setCells K (37*i) (wn (tmT N n (l[i])).1++bl33 (tmT N n (l[i])).2)) N n K k3 (i+1) l:=by
 have hsz:∀ (j:Nat) (hj:j<l.length),(wn (tmT N n (l[j])).1++bl33 (tmT N n (l[j])).2).length=37:=fun j hj=>zBL (h33 _ (List.mem_map.2 ⟨_,List.getElem_mem hj,rfl⟩))
 refine ⟨RG.below_setCells hK _ _ _ h.bl,by rw[RG.setCells_size];exact h.lt,h.ne,World.there_setCells h.th _ _ _,⟨by rw[RG.setCells_size];exact h.r3.1,World.rangeAt_setCells_apart h.r3.2.1 K _ _ (Or.inl h.ne),World.there_setCells h.r3.2.2 _ _ _⟩,fun j hj hji=>?_⟩
 by_cases e:j=i
 ·subst e
  refine World.rangeAt_setCells_same W K _ _ fun t ht=>?_
  rw[hsz j hj] at ht
  have:=h.th (37*j+t) (by omega)
  rwa[Nat.zero_add] at this
 ·exact World.rangeAt_setCells_apart (h.rw j hj (by omega)) K _ _ (Or.inr (Or.inl (by rw[hsz j hj];omega)))
section
variable (w:World) (n K k3 k7 i s m:Nat) (p:Bs) (l:List (Nat × Bs))
def Rt:Nat→Value→World→Prop
 | 0,v,_=>v=.slice (some ⟨K,0,none⟩) l.length l.length
 | 1,v,_=>v=.int .i64 i
 | 2,v,_=>v=nv n
 | 3,v,_=>v=.pointer (some ⟨k7,0,none⟩)
 | 4,v,_=>v=nv s
 | 5,v,_=>v=nv m
 | 6,v,_=>v=.pointer (some ⟨k7,4,none⟩)
 | 7,v,_=>v=pvl p
 | 8,v,_=>v=tvl m p
 | 9,v,_=>v=.pointer (some ⟨K,0+37*i,none⟩)
 | _,_,_=>True
def Gt (N:Nat):RG.Gw:=⟨Rt n K k7 i s m p l,fun W=>Tz w W N n K k3 i l∧Row W k7 (wn s++bl33 p),fun j v W W' hb h=>by
 match j,h with
 | 0,h=>exact h
 | 1,h=>exact h
 | 2,h=>exact h
 | 3,h=>exact h
 | 4,h=>exact h
 | 5,h=>exact h
 | 6,h=>exact h
 | 7,h=>exact h
 | 8,h=>exact h
 | 9,h=>exact h
 | _+10,_=>trivial,fun W W' hb h=>⟨h.1.grow hb,h.2.below hb⟩⟩
end
theorem zIP (O:Ord N) {n:Nat} (hn:n<N) (B:Nat) (s:Value) (l:List (Nat × Bs)) (hl:l.length≤512) (h33:∀ x∈l.map (·.2),x.size=33) (hlN:∀ x∈l,x.1<N) (w:World) (hS:Sm B w s l) :
 Calls Tryz.prog 162 #[s,nv n] w (Ret fun e w'=>Below w.heap.size w w'∧Sm w.heap.size w' e (l.map (tmT N n))):=by
 obtain ⟨g,c,rfl,hc,-,hg,hr⟩:=hS
 have HB:=Hid.mk' (boxS n w)
 obtain ⟨w1,hw1⟩:∃ w1,Hid (w.alloc (.cells (wn n).toArray 49)=w1):=⟨_,rfl⟩
 rw[hw1.out] at HB
 obtain ⟨k3,hk3⟩:∃ k,Hid (w.heap.size=k):=⟨_,rfl⟩
 obtain ⟨K,hK⟩:∃ k,Hid (w1.heap.size=k):=⟨_,rfl⟩
 have e1:K=k3+1:=by rw[← hK.out,← hk3.out,← hw1.out,World.size_alloc]
 obtain ⟨C0,hC0,hmk⟩:=mkTL l.length hl
 have hmk':=hmk w1
 obtain ⟨w2,hw2⟩:∃ w2,Hid (w1.alloc (.cells C0.toArray 167)=w2):=⟨_,rfl⟩
 rw[hw2.out,hK.out] at hmk'
 rw[hk3.out] at HB
 have K2:Hid (Tz w w2 N n K k3 0 l):=by
  have hR1:Row w1 k3 (wn n):=by rw[← hw1.out,← hk3.out];exact zAi w _ _
  have b1:Below w.heap.size w w1:=by rw[← hw1.out];exact zAf _ _
  have b2:Below w1.heap.size w1 w2:=by rw[← hw2.out];exact zAf _ _
  have hR2:Row w2 K C0:=by rw[← hw2.out,← hK.out];exact zAi w1 _ _
  exact ⟨b1.trans (b2.mono b1.size),hR2.1,by omega,by rw[← hC0];exact hR2.2.2,hR1.below b2,fun j hj hji=>by omega⟩
 have HF:Hid (Ord N∧n<N∧(∀ x∈l.map (·.2),x.size=33)∧(∀ x∈l,x.1<N)∧g<w.heap.size∧w.rangeAt g 0 (zAu l)∧w.heap.size≤K):=⟨O,hn,h33,hlN,hg,hr,by rw[hk3.out];omega⟩
 obtain ⟨d',hd3,hd4⟩:=Option.map_eq_some_iff.1 uT
 have HD:Hid (Tryz.prog.underlying 167=some d'∧d'.isRow=true):=⟨hd3,hd4⟩
 obtain ⟨vn,hvn⟩:∃ v,Hid (nv n=v):=⟨_,rfl⟩
 rw[hvn.out] at HB ⊢
 clear hd3 hd4 O hn h33 hlN hg hr hmk hC0 hw1 hw2 hK hk3 e1
 go_enter Tryz.func162,Tryz.ntmps162
 go_wp2_with (first|(refine zAD (u:=vn) (v:=.pointer (some ⟨k3,0,none⟩)) (w':=w1) rfl 49 (.tmp 1) rfl ?_ ?_ ?_;rfl;exact HB.out)|fail)
 clear hmk'
 go_loopg [13] l.length (fun m s13 W=>∃ i:Nat,i+m=l.length∧s13=.int .i64 i∧Hid (Tz w W N n K k3 i l))
 case atStart=>exact ⟨0,by omega,rfl,K2⟩
 case round =>
  clear K2 HB
  obtain ⟨i,hik,rfl,KM⟩:=hrel
  by_cases hi:i<l.length
  ·have hi':(i:Int)<(l.length:Int):=by omega
   obtain ⟨s,hse⟩:∃ s,Hid ((l[i]'hi).1=s):=⟨(l[i]'hi).1,(rfl:(l[i]'hi).1=(l[i]'hi).1)⟩
   obtain ⟨p,hpe⟩:∃ p,Hid ((l[i]'hi).2=p):=⟨(l[i]'hi).2,(rfl:(l[i]'hi).2=(l[i]'hi).2)⟩
   have hps:Hid (p.size=33):=by rw[← hpe.out];exact HF.out.2.2.1 _ (List.mem_map.2 ⟨_,List.getElem_mem hi,rfl⟩)
   have hsN:Hid (s<N):=by rw[← hse.out];exact HF.out.2.2.2.1 _ (List.getElem_mem hi)
   have B0:Hid (wr.rangeAt g (37*i) (wn s++bl33 p)):=by
    have h:=RG.zAk (zLg HF.out.2.2.1 HF.out.2.2.2.2.2.1 i hi) KM.out.bl HF.out.2.2.2.2.1
    rw[hse.out,hpe.out] at h
    exact h
   obtain ⟨k7,hk7⟩:∃ k,Hid (wr.heap.size=k):=⟨_,rfl⟩
   obtain ⟨W1,hW1⟩:∃ W1,Hid (wr.alloc (.cells zT.toArray 167)=W1):=⟨_,rfl⟩
   obtain ⟨W2,hW2⟩:∃ W2,Hid (W1.setCells k7 0 (wn s++bl33 p)=W2):=⟨_,rfl⟩
   have hlen:(wn s++bl33 p).length=37:=zBL hps.out
   have F1:Hid (Row W1 k7 zT∧Below wr.heap.size wr W1):=by rw[← hW1.out,← hk7.out];exact ⟨zAi wr _ _,zAf wr _⟩
   have F2:Hid (Row W2 k7 (wn s++bl33 p)∧Tz w W2 N n K k3 i l):=by
    rw[← hW2.out]
    exact ⟨F1.out.1.put (by rw[hlen];rfl),KM.out.grow (RG.below_setCells (by rw[hk7.out];exact Nat.le_refl _) _ _ _ F1.out.2)⟩
   have HLT:Hid ((Tryz.prog.info? 167).map (·.size)=some (wn s++bl33 p).length):=by show _=_;rw[hlen];exact iT
   have HLS:Hid ((Tryz.prog.info? 167).map (·.size)=some (wn s++bl33 p).toArray.size∧W1.there k7 0 (wn s++bl33 p).toArray.size):=by
    have e:(wn s++bl33 p).toArray.size=37:=by rw[List.size_toArray];exact hlen
    rw[e];exact ⟨iT,F1.out.1.2.2⟩
   have HAL:Hid ((wn s++bl33 p).toArray.all (·.oneCell')=true):=by
    show _=_
    rw[Array.all_eq_true']
    intro u hu
    exact cells_one s p u (List.mem_toArray.1 hu)
   have hix:=atT g 0 l.length c i hi
   obtain ⟨vt,hvt⟩:∃ v,Hid (Value.agg (wn s++bl33 p).toArray=v):=⟨_,rfl⟩
   have HL:Hid (i<l.length):=hi
   clear hlen KM F1
   go_wp2_with (first|(refine wpList_load_mid rfl 167 _ rfl g (37*i) ?_ (wn s++bl33 p) d' ?_ ?_ ?_ ?_ ?_;rfl;exact B0.out;exact HD.out.1;exact HD.out.2;exact HLT.out;rw[hvt.out])|(refine zAp (v:=.pointer (some ⟨k7,0,none⟩)) (w':=W1) rfl (.alloc 167) rfl ?_ ?_;(rw[← hW1.out,← hk7.out];kernel_rfl))|(refine wpList_store_mid rfl 167 _ _ rfl k7 0 (wn s++bl33 p).toArray ?_ ?_ ?_ ?_ ?_ ?_;rfl;exact hvt.out.symm;exact HLS.out.2;exact HLS.out.1;exact HAL.out;rw[show (wn s++bl33 p).toArray.toList=wn s++bl33 p from rfl,hW2.out])|fail)
   clear hW1 hW2 hk7
   refine (Gt w n K k3 k7 i s (sTi N n s) p l N).last 10 (by kernel_rfl) (by kernel_rfl) (by kernel_rfl) ⟨
    RG.zA1 fun a W hp=>⟨[(5,.slice (some ⟨K,0,none⟩) l.length l.length)],.slice (some ⟨K,0,none⟩) l.length l.length,W,⟨hp.o 5 (by kernel_rfl),trivial⟩,by kernel_rfl,Below.refl _ _,rfl⟩,
    RG.zA1 fun a W hp=>⟨[(6,.int .i64 i)],.int .i64 i,W,⟨hp.o 6 (by kernel_rfl),trivial⟩,by kernel_rfl,Below.refl _ _,rfl⟩,
    RG.zA6 49 3 rfl Go.Proofs.YtglhhepedoffeaaGreat.u40 fun a W hp=>⟨k3,0,wn n,hp.o 3 (by kernel_rfl),hp.b.1.r3.2.1,i40,rfl⟩,
    RG.zA1 fun a W hp=>⟨[(7,.pointer (some ⟨k7,0,none⟩))],.pointer (some ⟨k7,0,none⟩),W,⟨hp.o 7 (by kernel_rfl),trivial⟩,by kernel_rfl,Below.refl _ _,rfl⟩,
    RG.zA6 49 21 rfl Go.Proofs.YtglhhepedoffeaaGreat.u40 fun a W hp=>⟨k7,0,wn s,hp.n 3 21 (by kernel_rfl) (by kernel_rfl),zB4 hp.b.2.2.1,i40,rfl⟩,
    RG.zA9 fun a W hp=>⟨[(20,nv n),(22,nv s)],93,#[nv n,nv s],⟨hp.n 2 20 (by kernel_rfl) (by kernel_rfl),hp.n 4 22 (by kernel_rfl) (by kernel_rfl),trivial⟩,by kernel_rfl,(zNh HF.out.1 n s HF.out.2.1 hsN.out W).mono (by
     rintro e W' ⟨u,rfl,hb,rfl⟩
     exact ⟨_,rfl,hb,rfl⟩)⟩,
    RG.zA1 fun a W hp=>⟨[(7,.pointer (some ⟨k7,0,none⟩))],.pointer (some ⟨k7,4,none⟩),W,⟨hp.o 7 (by kernel_rfl),trivial⟩,by kernel_rfl,Below.refl _ _,rfl⟩,
    RG.zA6 54 24 rfl uCP fun a W hp=>⟨k7,4,bl33 p,hp.n 6 24 (by kernel_rfl) (by kernel_rfl),zBT (xs:=wn s) hp.b.2.2.1,by rw[zAd hps.out];exact zAs,rfl⟩,
    RG.zA1 fun a W hp=>⟨[(23,nv (sTi N n s)),(25,pvl p)],tvl (sTi N n s) p,W,⟨hp.n 5 23 (by kernel_rfl) (by kernel_rfl),hp.n 7 25 (by kernel_rfl) (by kernel_rfl),trivial⟩,by
     rw[Prod.mk.injEq]
     refine ⟨by kernel_rfl,?_⟩
     refine Eq.trans (b:=((Instr.build 167 #[(0,nv (sTi N n s)),(1,pvl p)]) >>= fun v=>pure (Next.value v)).run Tryz.prog W) (by kernel_rfl) ?_
     rw[Sem.run_bind,bldT hps.out]
     rfl,Below.refl _ _,rfl⟩,
    RG.zA1 fun a W hp=>⟨[(18,.slice (some ⟨K,0,none⟩) l.length l.length),(19,.int .i64 i)],.pointer (some ⟨K,0+37*i,none⟩),W,⟨hp.n 0 18 (by kernel_rfl) (by kernel_rfl),hp.n 1 19 (by kernel_rfl) (by kernel_rfl),trivial⟩,by
     rw[Prod.mk.injEq]
     refine ⟨by kernel_rfl,?_⟩
     show ((Instr.indexAt 106 (.slice (some ⟨K,0,none⟩) l.length l.length) (.int .i64 i)) >>= fun v=>pure (Next.value v)).run Tryz.prog W=_
     rw[Sem.run_bind,atT K 0 l.length l.length i HL.out]
     rfl,Below.refl _ _,rfl⟩,trivial⟩ ⟨F2.out.2.drew,F2.out.1⟩ ?_
   intro V W3 hR3 hB3
   have hV8:V 8=tvl (sTi N n s) p:=hR3 8 (by decide)
   have hV9:V 9=.pointer (some ⟨K,0+37*i,none⟩):=hR3 9 (by decide)
   have hlen2:(wn (sTi N n s)++bl33 p).length=37:=zBL hps.out
   obtain ⟨W4,hW4⟩:∃ W4,Hid (W3.setCells K (37*i) (wn (sTi N n s)++bl33 p)=W4):=⟨_,rfl⟩
   have K4:Hid (Tz w W4 N n K k3 (i+1) l):=by
    have h:=hB3.1.put HF.out.2.2.2.2.2.2 HL.out HF.out.2.2.1
    have e:tmT N n (l[i]'HL.out)=(sTi N n s,p):=by
     have h1:=hse.out
     have h2:=hpe.out
     unfold tmT
     rw[h1,h2]
    rw[e] at h
    rw[← hW4.out]
    exact h
   have HT:Hid (W3.there K (37*i) (wn (sTi N n s)++bl33 p).toArray.size∧(Tryz.prog.info? 167).map (·.size)=some (wn (sTi N n s)++bl33 p).toArray.size∧(wn (sTi N n s)++bl33 p).toArray.all (·.oneCell')=true):=by
    have e:(wn (sTi N n s)++bl33 p).toArray.size=37:=by rw[List.size_toArray];exact hlen2
    refine ⟨fun t ht=>?_,by rw[e];exact iT,?_⟩
    ·rw[e] at ht
     have:=hB3.1.th (37*i+t) (by have:=HL.out;omega)
     rwa[Nat.zero_add] at this
    ·rw[Array.all_eq_true']
     intro u hu
     exact cells_one _ p u (List.mem_toArray.1 hu)
   dsimp only[RG.putV,Nat.reduceAdd,List.take,List.drop]
   simp only[Act.put,List.setIfInBounds_toArray,List.set_cons_succ,List.set_cons_zero]
   obtain ⟨vz,hvz⟩:∃ v,Hid (tvl (sTi N n s) p=v):=⟨_,rfl⟩
   rw[hV8,hV9,hvz.out,Nat.zero_add]
   clear hR3 hB3 hV8 hV9 hlen2 F2
   generalize V 0=s0
   generalize V 1=s1
   generalize V 2=s2
   generalize V 3=s3
   generalize V 4=s4
   generalize V 5=s5
   generalize V 6=s6
   generalize V 7=s7
   go_wp2_with (first|(refine wpList_store_mid rfl 167 _ _ rfl K (37*i) (wn (sTi N n s)++bl33 p).toArray ?_ ?_ ?_ ?_ ?_ ?_;rfl;exact hvz.out.symm;exact HT.out.1;exact HT.out.2.1;exact HT.out.2.2;rw[show (wn (sTi N n s)++bl33 p).toArray.toList=wn (sTi N n s)++bl33 p from rfl,hW4.out])|fail)
   go_roundg (gk-1)
   case measure=>omega
   case rel=>exact ⟨i+1,by omega,rfl,K4⟩
  ·have hi':¬ (i:Int)<(l.length:Int):=by omega
   obtain rfl:i=l.length:=by omega
   have KS:Hid (Below w.heap.size w wr∧Sm w.heap.size wr (.slice (some ⟨K,0,none⟩) l.length l.length) (l.map (tmT N n))):=by
    refine ⟨KM.out.bl,K,l.length,by rw[List.length_map],by rw[List.length_map];exact Nat.le_refl _,HF.out.2.2.2.2.2.2,KM.out.lt,zIW (fun x hx=>?_) fun j hj=>?_⟩
    ·obtain ⟨y,hy,rfl⟩:=List.mem_map.1 hx
     obtain ⟨z,hz,rfl⟩:=List.mem_map.1 hy
     exact HF.out.2.2.1 _ (List.mem_map.2 ⟨z,hz,rfl⟩)
    ·rw[List.getElem_map]
     rw[List.length_map] at hj
     exact KM.out.rw j hj hj
   clear KM
   go_wp2
   go_ret
   exact ⟨_,rfl,KS.out.1,KS.out.2⟩
end
section
open Go.RowKit Go.Sort Go.Deep
variable {P:Nat} [NeZero P] {N:Nat}
end
section
open Go.RowKit Go.Sort Go.Deep
variable {P:Nat} [NeZero P] {N:Nat}
theorem Sm.mono {B B':Nat} {W:World} {v:Value} {l:List (Nat × Bs)} (h:Sm B W v l) (hb:B'≤B):Sm B' W v l:=by
 obtain ⟨g,c,h1,h2,h3,h4⟩:=h
 exact ⟨g,c,h1,h2,Nat.le_trans hb h3,h4⟩
section
variable (w:World) (k6 k8 n:Nat) (Y A T:Bs)
end
end
section
open Go.RowKit Go.Sort Go.Deep
variable {P:Nat} [NeZero P] {N:Nat}
theorem zIF (x:UInt8) (r:List UInt8):beV (x :: r)=x.toNat*256^r.length+beV r:=by
 have h:=zBe [x] r
 rw[show [x]++r=x :: r from rfl] at h
 rw[h]
 simp[beV]
end
section
open Go.RowKit Go.Sort Go.Deep
theorem zLw:∀ (l r:List UInt8),l.length=r.length→beV l=beV r→l=r
 | [],[],_,_=>rfl
 | x :: l,y :: r,hl,h=>by
  have h1:l.length=r.length:=Nat.succ.inj hl
  rw[zIF,zIF,h1] at h
  have b1:=zLv l
  have b2:=zLv r
  rw[h1] at b1
  have hp:0<256^r.length:=Nat.pow_pos (by decide)
  have e1:(x.toNat*256^r.length+beV l)/256^r.length=x.toNat:=by
   rw[Nat.mul_comm,Nat.mul_add_div hp,Nat.div_eq_of_lt b1,Nat.add_zero]
  have e2:(y.toNat*256^r.length+beV r)/256^r.length=y.toNat:=by
   rw[Nat.mul_comm,Nat.mul_add_div hp,Nat.div_eq_of_lt b2,Nat.add_zero]
  have e3:x.toNat=y.toNat:=by rw[← e1,← e2,h]
  have e4:x=y:=UInt8.toNat_inj.1 e3
  subst e4
  rw[zLw l r h1 (by omega)]
theorem zR6 {b:Bs} (hs:b.size=32) {n:Nat} (hn:n<top) (h:beV b.toList=n):bx n=b:=by
 have:=zLw (bx n).toList b.toList (by rw[Array.length_toList,Array.length_toList,zA3,hs]) (by rw[zIC hn,h])
 exact Array.toList_inj.1 this
variable {P:Nat} [NeZero P]
theorem zPR (C:Fld P) {m y:Fin P} (h:rt m=some y):y.val%2=0:=by
 have h2:=zOf C (zL5 h)
 rw[h] at h2
 have e:=Option.some.inj h2
 by_cases ho:y.val%2=1
 ·rw[if_pos ho] at e
  have e3:=congrArg Fin.val e
  have h0:(0-y:Fin P).val=(P-y.val)%P:=by rw[← zCP,EC.val_zero,Nat.zero_add]
  rw[h0] at e3
  have h3:=C.p3
  have hy:=y.isLt
  rw[Nat.mod_eq_of_lt (by omega)] at e3
  omega
 ·omega
theorem zQJ {b:Bs} (hs:b.size=33):b=#[b[0]!]++tl33 b:=by
 unfold tl33
 apply Array.ext
 ·rw[Array.size_append,Array.size_extract,hs];rfl
 ·intro i h1 h2
  by_cases hi:i=0
  ·subst hi
   rw[Array.getElem_append_left (by simp),getElem!_pos b 0 (by omega)]
   rfl
  ·rw[Array.getElem_append_right (by simp;omega),Array.getElem_extract]
   congr 1
   simp
   omega
theorem zPF {x:UInt8} (h:ub x=2):x=2:=by
 apply UInt8.toNat_inj.1
 have:(x.toNat:Int)=2:=h
 show x.toNat=2
 omega
theorem zLR {x:UInt8} (h:ub x=3):x=3:=by
 apply UInt8.toNat_inj.1
 have:(x.toNat:Int)=3:=h
 show x.toNat=3
 omega
theorem zNO (C:Fld P) {b:Bs} {p:Fin P × Fin P} (h:rd P b=some p):wr (pt p)=b:=by
 have hon:=zJ4 C h
 unfold rd at h
 split at h
 ·rename_i hs
  split at h
  ·rename_i hz
   obtain rfl:=Option.some.inj h
   unfold pt
   rw[if_pos ⟨rfl,rfl⟩]
   exact ((zCx hs).1 hz).symm
  ·split at h
   ·rename_i hm
    split at h
    ·rename_i hx
     obtain ⟨y,hr,rfl⟩:=Option.map_eq_some_iff.1 h
     have hsq:=zL5 hr
     have hpar:=zPR C hr
     have hy0:y≠0:=C.cur.y_ne (zKw hsq)
     have hyv:y.val≠0:=fun e=>hy0 (Fin.ext (by rw[EC.val_zero];exact e))
     have hxv:(rdx P b).val=beV (tl33 b).toList:=Nat.mod_eq_of_lt hx
     have hbx:bx (rdx P b).val=tl33 b:=zR6 (zBw hs) (C.top _) hxv.symm
     have h3:=C.p3
     have hyl:=y.isLt
     have h0:(0-y:Fin P).val=P-y.val:=by rw[← zCP,EC.val_zero,Nat.zero_add,Nat.mod_eq_of_lt (by omega)]
     by_cases h3':ub b[0]! = 3
     ·rw[if_pos h3']
      unfold pt
      rw[if_neg (fun e=>by
       have:=congrArg Fin.val e.2
       rw[EC.val_zero,h0] at this
       omega)]
      show #[mark (0-y:Fin P).val]++bx (rdx P b).val=b
      rw[hbx,h0]
      unfold mark
      rw[if_pos (by omega),← zLR h3']
      exact (zQJ hs).symm
     ·rw[if_neg h3']
      have h2':ub b[0]! = 2:=hm.resolve_right h3'
      unfold pt
      rw[if_neg (fun e=>hy0 e.2)]
      show #[mark y.val]++bx (rdx P b).val=b
      rw[hbx]
      unfold mark
      rw[if_neg (by omega),← zPF h2']
      exact (zQJ hs).symm
    ·cases h
   ·cases h
 ·cases h
end
section
open Go.RowKit Go.Sort Go.Deep
variable {P:Nat} [NeZero P] {N:Nat}
theorem zIR (O:Ord N) (B:Nat) (s t:Value) (l m:List (Nat × Bs)) (hl0:0<l.length) (hl:l.length≤500) (hm:m.length≤500) (hl3:∀ x∈l,x.2.size=33) (hm3:∀ x∈m,x.2.size=33) (hmN:∀ x∈m,x.1<N) (w:World) (hB:B≤w.heap.size) (h1:Sm B w s l) (h2:Sm B w t m) :
 Calls Tryz.prog 117 #[s,t] w (Ret fun e w'=>Below w.heap.size w w'∧Sm w.heap.size w' e (l++m.map (tmT N (sMi N 0 1)))):=by
 have h1N:1<N:=by have:2≤N:=Nat.le_trans O.n2 (Nat.mod_le _ _);omega
 have HOp:=Hid.mk' (zQh O h1N)
 have hoN:sMi N 0 1<N:=Nat.mod_lt _ O.pos
 generalize sMi N 0 1=o at HOp hoN ⊢
 have HT:Hid (∀ W,Below w.heap.size w W→Calls Tryz.prog 162 #[t,nv o] W (Ret fun e w'=>Below W.heap.size W w'∧Sm W.heap.size w' e (m.map (tmT N o)))):=fun W hb=>by
  have h33:∀ x∈m.map (·.2),x.size=33:=fun x hx=>by obtain ⟨y,hy,rfl⟩:=List.mem_map.1 hx;exact hm3 y hy
  exact zIP O hoN B t m (by omega) h33 hmN W (h2.grow hb)
 have HP:Hid (∀ W v,Below w.heap.size w W→Sm w.heap.size W v (m.map (tmT N o))→Calls Tryz.prog 74 #[s,v] W (Ret fun e w'=>Below W.heap.size W w'∧Sm W.heap.size w' e (l++m.map (tmT N o)))):=fun W v hb hv=>by
  refine zJM B s v l (m.map (tmT N o)) hl0 hl (by rw[List.length_map];exact hm) hl3 (fun x hx=>?_) W (h1.grow hb) (hv.mono hB)
  obtain ⟨y,hy,rfl⟩:=List.mem_map.1 hx
  exact hm3 y hy
 obtain ⟨gs,cs,es,-⟩:=id h1
 obtain ⟨gt,ct,et,-⟩:=id h2
 subst es
 subst et
 obtain ⟨v1,hv1⟩:∃ v,Hid (nv 1=v):=⟨_,rfl⟩
 obtain ⟨vo,hvo⟩:∃ v,Hid (nv o=v):=⟨_,rfl⟩
 rw[hv1.out,hvo.out] at HOp
 rw[hvo.out] at HT
 have H1:=Hid.mk' (zRI)
 rw[hv1.out] at H1
 clear O h1N hoN hl3 hm3 hmN h1 h2
 go_enter Tryz.func117,Tryz.ntmps117
 go_wp2_with fail
 refine (H1.out w).mono ?_
 rintro e w1 ⟨vv,rfl,hb1,rfl⟩
 go_wp2_with fail
 refine (HOp.out w1).mono ?_
 rintro e w2 ⟨vv,rfl,hb2,rfl⟩
 have B2:Hid (Below w.heap.size w w2):=hb1.trans (hb2.mono hb1.size)
 clear hb1 hb2
 go_wp2_with fail
 refine (HT.out w2 B2.out).mono ?_
 rintro e w3 ⟨v3,rfl,hb3,hS3⟩
 have B3:Hid (Below w.heap.size w w3∧Sm w.heap.size w3 v3 (m.map (tmT N o))):=⟨B2.out.trans (hb3.mono B2.out.size),hS3.mono B2.out.size⟩
 clear hb3 hS3 B2
 go_wp2_with fail
 refine (HP.out w3 v3 B3.out.1 B3.out.2).mono ?_
 rintro e w4 ⟨v4,rfl,hb4,hS4⟩
 have B4:Hid (Below w.heap.size w w4∧Sm w.heap.size w4 v4 (l++m.map (tmT N o))):=⟨B3.out.1.trans (hb4.mono B3.out.1.size),hS4.mono B3.out.1.size⟩
 clear hb4 hS4 B3
 go_wp2
 go_ret
 exact ⟨_,rfl,B4.out.1,B4.out.2⟩
theorem eq_neg (C:Fld P) {x y:EC.Pt P} (hx:EC.On x) (hy:EC.On y) (h:EC.add x y=none):x=EC.neg y:=by
 have h1:=C.cur.assoc hx hy (EC.zAJ hy)
 rw[h,EC.zBG,EC.add_neg,EC.zAw] at h1
 exact h1.symm
theorem zO0 (C:Fld P) (O:Ord N) (hord:∀ r:EC.Pt P,EC.On r→EC.mul N r=none) {X:EC.Pt P} (hX:EC.On X) (n:Nat):EC.mul (sTi N (sMi N 0 1) n) X=EC.neg (EC.mul n X):=by
 have h1N:1<N:=by have:2≤N:=Nat.le_trans O.n2 (Nat.mod_le _ _);omega
 have e:sMi N 0 1=N-1:=by unfold sMi;rw[Nat.zero_add,Nat.mod_eq_of_lt (by omega)]
 unfold sTi
 rw[e,mul_mod C hord hX]
 refine eq_neg C (EC.zAK C.cur hX _) (EC.zAK C.cur hX _) ?_
 rw[← EC.mul_add C.cur hX]
 have e2:(N-1)*n+n=N*n:=by
  have:(N-1+1)*n=(N-1)*n+n:=Nat.succ_mul _ _
  rw[← this]
  congr 1
  omega
 rw[e2,EC.zCY C.cur hX N n,hord X hX,EC.zDj]
section
variable (w:World) (K k8 n o:Nat) (S Q T:Bs)
end
end
section
open Go.RowKit Go.Sort Go.Deep
variable {P:Nat} [NeZero P] {N:Nat}
def encV (v:Value):Value:=v
theorem zHR (s:ByteArray) (w:World) :
 ∃ cap w',(convert 9 22 (.string s)).run Tryz.prog w=.ok (.slice (some ⟨w.heap.size,0,none⟩) s.size cap) w'∧s.size≤cap∧Below w.heap.size w w'∧Holds encB w' w.heap.size 0 s.data∧w.heap.size<w'.heap.size:=by
 have h:=Lib.run_convert_string_bytes (P:=Tryz.prog) w 9 22 5 s str9 slice22 int5
 have hcap:s.size≤grownCap w s.size 0 5:=by
  unfold grownCap Question.cut
  exact Nat.le_add_right _ _
 have hl:s.data.size=s.size:=rfl
 refine ⟨_,_,h,hcap,?_,?_,by rw[Lib.bytesWorld_size];omega⟩
 ·refine ⟨?_,?_,?_,?_,fun k hk=>Lib.bytesWorld_at_old w 5 s k hk⟩
  ·unfold Lib.bytesWorld World.freeze
   rw[if_neg (by decide)]
   rfl
  ·unfold Lib.bytesWorld World.freeze
   rw[if_neg (by decide)]
   rfl
  ·unfold Lib.bytesWorld World.freeze
   rw[if_neg (by decide)]
   rfl
  ·rw[Lib.bytesWorld_size];omega
 ·intro j hj
  have hb:=Lib.bytesWorld_at_new w 5 s
  have hsz:(Lib.bytesCells w 5 s).size=grownCap w s.size 0 5:=by
   unfold Lib.bytesCells
   rw[Array.size_append,Array.size_map,Array.size_replicate]
   omega
  have hc:(Lib.bytesCells w 5 s)=(s.data++Array.replicate (grownCap w s.size 0 5-s.size) 0).map encB:=by
   unfold Lib.bytesCells
   rw[Array.map_append,Array.map_replicate]
   rfl
  have hj2:j<(s.data++Array.replicate (grownCap w s.size 0 5-s.size) 0).size:=by rw[Array.size_append,Array.size_replicate];omega
  have hget:(s.data++Array.replicate (grownCap w s.size 0 5-s.size) 0)[j]=s.data[j]!:=by
   rw[Array.getElem_append_left hj,getElem!_pos s.data j hj]
  constructor
  ·unfold World.cell?
   rw[hb]
   simp only[Nat.zero_add]
   rw[if_neg (by decide),hc,Array.getElem?_map,Array.getElem?_eq_getElem hj2,Option.map_some,hget]
  ·unfold World.frozen?
   rw[hb]
   simp only[Nat.zero_add,hsz]
   simp
   omega
def rdT (P:Nat) [NeZero P] (bs:Bs):T3 P:=
 if bs.size=33 then if zDq bs then (0,1,0) else if ub bs[0]! = 2∨ub bs[0]! = 3 then if beV (tl33 bs).toList<P then
  (rdx P bs,if ub bs[0]! = 3 then 0-(rt (rdx P bs*rdx P bs*rdx P bs+7)).getD 0 else (rt (rdx P bs*rdx P bs*rdx P bs+7)).getD 0,1) else (0,0,0) else (0,0,0) else (0,0,0)
theorem zKg (C:Fl3 P) (bs:Bs):Gives 76 #[.string ⟨bs⟩] (.tuple #[tv (rdT P bs),.bool (rd P bs).isSome]):=by
 intro w
 unfold rdT rd
 by_cases hs:bs.size=33
 ·rw[if_pos hs,if_pos hs]
  by_cases hz:zDq bs
  ·rw[if_pos hz,if_pos hz]
   obtain rfl:=(zCx hs).1 hz
   exact zOi C w
  ·rw[if_neg hz,if_neg hz]
   have hz':¬ bs=zs33:=fun h=>hz ((zCx hs).2 h)
   by_cases hm:ub bs[0]! = 2∨ub bs[0]! = 3
   ·rw[if_pos hm,if_pos hm]
    by_cases hx:beV (tl33 bs).toList<P
    ·rw[if_pos hx,if_pos hx]
     have hx':beV (tl33 bs).toList=(rdx P bs).val:=(Nat.mod_eq_of_lt hx).symm
     cases hr:rt (rdx P bs*rdx P bs*rdx P bs+7) with
     | none=>exact zJV C bs (rdx P bs) 0 false w hs hz' hm hx' (zOt C _ hr)
     | some y =>
      rw[Option.map_some]
      exact zJV C bs (rdx P bs) y true w hs hz' hm hx' (zJ8 C _ _ hr)
    ·rw[if_neg hx,if_neg hx]
     exact zPS C _ bs w hs hz' hm (zKj C (tl33 bs) (zBw hs) hx)
   ·rw[if_neg hm,if_neg hm]
    exact zOj C bs hs hz' _ rfl (fun h=>hm (Or.inl h)) (fun h=>hm (Or.inr h)) w
 ·rw[if_neg hs,if_neg hs]
  exact zPT C bs hs w
def ptOf (P:Nat) [NeZero P] (bs:Bs):EC.Pt P:=match rd P bs with|some p=>pt p|none=>none
theorem zFY {bs:Bs} {p:Fin P × Fin P} (h:rd P bs=some p):ptOf P bs=pt p:=by unfold ptOf;rw[h]
theorem zD7 (C:Fl3 P) {bs:Bs} (h:(rd P bs).isSome=true):FracT (rdT P bs) (ptOf P bs):=by
 obtain ⟨p,hp⟩:=Option.isSome_iff_exists.1 h
 rw[zFY hp]
 have hp0:=hp
 unfold rdT
 unfold rd at hp
 split at hp
 ·rename_i hs
  rw[if_pos hs]
  split at hp
  ·rename_i hz
   rw[if_pos hz]
   obtain rfl:=Option.some.inj hp
   unfold pt
   rw[if_pos ⟨rfl,rfl⟩]
   exact FracT.none
  ·rename_i hz
   rw[if_neg hz]
   split at hp
   ·rename_i hm
    rw[if_pos hm]
    split at hp
    ·rename_i hx
     rw[if_pos hx]
     obtain ⟨y,hr,hpe⟩:=Option.map_eq_some_iff.1 hp
     have hsq:=zL5 hr
     have hon:=zJ4 C.toFld hp0
     rw[hr]
     show FracT (rdx P bs,(if ub bs[0]! = 3 then 0-y else y),1) (pt p)
     have hb:p=(rdx P bs,if ub bs[0]! = 3 then 0-y else y):=hpe.symm
     have hpt:pt p=some p:=by
      unfold pt
      rw[if_neg]
      rintro ⟨-,h2⟩
      rw[hb] at h2
      dsimp only at h2
      split at h2
      ·exact C.toFld.cur.y_ne (zKx hsq) h2
      ·exact C.toFld.cur.y_ne (zKw hsq) h2
     rw[hpt,hb]
     split
     ·exact ⟨zF8 C.toFld _ _,zKx hsq⟩
     ·exact ⟨zF8 C.toFld _ _,zKw hsq⟩
    ·cases hp
   ·cases hp
 ·cases hp
theorem zPX (C:Fl3 P) {bs:Bs} {p:Fin P × Fin P} (h:rd P bs=some p):FracT (rdT P bs) (pt p):=by
 have:=zD7 C (bs:=bs) (by rw[h];rfl)
 unfold ptOf at this
 rw[h] at this
 exact this
theorem zRE (C:Fl3 P) (t:T3 P):Gives 102 #[tv t] (.bool (decide (t.2.2=0))):=by
 by_cases h:t.2.2=0
 ·rw[decide_eq_true h]
  exact zE4 C _ _ _ h
 ·rw[decide_eq_false h]
  exact zCw C _ _ _ h
def zSh (s:ByteArray) (v:Value) (ok:Bool):List RG.It:=[.x 8 [] (.string s),.c 9 [(8,0)] (.tuple #[v,.bool ok]),.x 7 [(9,1)] (.tuple #[v,.bool ok]),.x 10 [(7,2)] v,.x 11 [(7,2)] (.bool ok),.m 4 [] 1,.u [(4,5),(10,3)] 1,.x 5 [(11,4)] (.bool ok)]
def zSg (v:Value) (z:Bool):List RG.It:=[.x 12 [] v,.c 13 [(12,0)] (.bool z),.x 6 [(13,1)] (.bool z)]
def zRk (v:Value) (z:Bool):List RG.It:=[.x 14 [] v,.x 15 [] (.bool true),.x 16 [(15,1)] (.bool true),.x 17 [] (.bool z),.x 18 [(17,3)] (.bool (!z)),.x 19 [(16,2),(18,4)] (.bool (!z)),.u [(14,0)] 0,.x 3 [(19,5)] (.bool (!z))]
def zRl (v:Value):List RG.It:=[.x 14 [] v,.x 15 [] (.bool false),.x 16 [(15,1)] (.bool false),⟨some 17,[],(.v undef),.pass⟩,⟨some 18,[],(.v undef),.pass⟩,.x 19 [(16,2),(18,4)] (.bool false),.u [(14,0)] 0,.x 3 [(19,5)] (.bool false)]
omit [NeZero P] in
theorem zOB (t:T3 P) (s:ByteArray) (ok z:Bool) (hR:Gives 76 #[.string s] (.tuple #[tv t,.bool ok])) (hI:Gives 102 #[tv t] (.bool z)):Gives 51 #[.string s] (.tuple #[tv t,.bool (ok && !z)]):=by
 intro w
 go_enter Tryz.func51,Tryz.ntmps51
 refine RG.M.enter [(0,.v (.string s))] 20 (by kernel_rfl) ?_
 intro a0 M0
 repeat refine wp_seq ?_
 refine M0.t [.m 2 [] 0,.x 3 [] (.bool false)] [(0,RG.z 12)] [] [RG.z 12] [(0,.v (.string s)),(2,.p 0 0),(3,.v (.bool false))] ⟨RG.mk 0 68,RG.st,trivial⟩ ?_
 intro j1 a1 w1 M1
 repeat refine wp_seq ?_
 refine M1.t (zSh s (tv t) ok) [(5,RG.z 12)] [(1,6,tw t)] [RG.z 12,tw t] [(2,.p 0 0),(4,.p 1 0),(5,.v (.bool ok))] ⟨RG.st,RG.cl hR,RG.st,RG.st,RG.st,RG.mk 1 68,RG.pt i56,RG.st,trivial⟩ ?_
 intro j2 a2 w2 M2
 repeat refine wp_seq ?_
 refine M2.u (zSg (tv t) z) [(2,.p 0 0),(4,.p 1 0),(5,.v (.bool ok)),(6,.v (.bool z))] ⟨RG.ld u56 i56,RG.cl hI,RG.st,trivial⟩ ?_
 intro a3 w3 M3
 repeat refine wp_seq ?_
 cases ok with
 | true =>
  refine M3.t (zRk (tv t) z) [] [(0,6,tw t)] [tw t,tw t] [(2,.p 0 0),(3,.v (.bool (!z)))] ⟨RG.ld u56 i56,RG.st,RG.st,RG.st,RG.st,RG.st,RG.pt i56,RG.st,trivial⟩ ?_
  intro a4 w4 M4
  refine wp_ret ?_
  refine bodyPost_ret (v:=.tuple #[tv t,.bool (!z)]) (RG.zAj M4.st 2 3 68 rfl 0 _ rfl (M4.at (s:=.p 0 0)) (.bool (!z)) M4.av u56 i56) M4.sl.defers ?_
  exact ⟨_,rfl,M4.st.bel.below,rfl⟩
 | false =>
  refine M3.t (zRl (tv t)) [] [(0,6,tw t)] [tw t,tw t] [(2,.p 0 0),(3,.v (.bool false))] ⟨RG.ld u56 i56,RG.st,RG.st,RG.zAe rfl rfl,RG.zAe rfl rfl,RG.st,RG.pt i56,RG.st,trivial⟩ ?_
  intro a4 w4 M4
  refine wp_ret ?_
  refine bodyPost_ret (v:=.tuple #[tv t,.bool false]) (RG.zAj M4.st 2 3 68 rfl 0 _ rfl (M4.at (s:=.p 0 0)) (.bool false) M4.av u56 i56) M4.sl.defers ?_
  exact ⟨_,rfl,M4.st.bel.below,rfl⟩
omit [NeZero P] in
theorem zHc:(wr (none:EC.Pt P))=o33:=by
 show zs33=o33
 decide +kernel
theorem zOq (C:Fl3 P) (b:Bs):((rd P b).isSome && !decide ((rdT P b).2.2=0))=real P b:=by
 unfold real
 cases hr:rd P b with
 | none=>rfl
 | some p =>
  have hf:=zPX C hr
  have hw:=zNO C.toFld hr
  have hB:rdB P b=b:=by unfold rdB;rw[hr];rfl
  rw[hB]
  congr 2
  rw[decide_eq_decide]
  cases hp:pt p with
  | none =>
   rw[hp] at hf hw
   rw[zHc] at hw
   exact ⟨fun _=>hw.symm,fun _=>hf.1⟩
  | some q =>
   rw[hp] at hf hw
   obtain ⟨x,y⟩:=q
   refine ⟨fun h=>absurd h hf.1.1,fun h=>?_⟩
   obtain ⟨p1,h1,h2⟩:=zI2 C.toFld (X:=some (x,y)) hf.2
   obtain ⟨p2,h3,h4⟩:=zI2 C.toFld (X:=(none:EC.Pt P)) trivial
   rw[hw,h,← zHc (P:=P),h3] at h1
   rw[← Option.some.inj h1,h4] at h2
   cases h2
theorem zKk (C:Fl3 P) (s:ByteArray):Gives 51 #[.string s] (.tuple #[tv (rdT P s.data),.bool (real P s.data)]):=by
 rw[← zOq C]
 exact zOB _ s _ _ (zKg C s.data) (zRE C _)
theorem zFT {b:Bs} (h:real P b=true):(rd P b).isSome=true:=by
 unfold real at h
 exact ((Bool.and_eq_true _ _).mp h).1
theorem zHq (C:Fl3 P) {b:Bs} (h:real P b=true):wr (ptOf P b)=b∧EC.On (ptOf P b):=by
 obtain ⟨p,hp⟩:=Option.isSome_iff_exists.1 (zFT h)
 rw[zFY hp]
 exact ⟨zNO C.toFld hp,(zJ4 C.toFld hp).2⟩
end
section
open Go.RowKit Go.Sort Go.Deep
namespace RG
section
variable {P:Program} {ops:Array Oper} {Q:Exit→Act→World→Prop} {w0 w:World} {k0:Nat} {X:List Nat} {its:List It} {bl:List Bl} {olds:List (Tmp × SV)} {a:Act} {i:Nat} {o:Oper} {it:It}
theorem zEV (hk:it.kind=.stay) (T:TypeId) (t:Tmp) (hi v v':Value) (ho:o.op=.slice T (.tmp t) none (some (.const hi)) none) (hout:it.out=.v v') (hx:∀ (μ:Nat→Nat) (a:Act),Known ops i its olds it.need μ a→a.eval (.tmp t)=v)
 (hf:∀ w:World,(Instr.sliceAt T v none (some hi) none).run P w=.ok v' w):Cert P Q w0 k0 X ops i its bl olds o it:=by
 refine zAI hk fun μ a w hK _=>?_
 unfold execOp
 rw[ho,hout]
 dsimp only
 rw[hx μ a hK]
 show ((Instr.sliceAt T v none (some hi) none) >>= fun v=>pure (Next.value v)).run P w=_
 rw[Sem.run_bind,hf]
 rfl
end
end RG
variable {P:Nat} [NeZero P] {N:Nat}
end
section
open Go.RowKit Go.Sort Go.Deep
variable {P:Nat} [NeZero P] {N:Nat}
noncomputable def vsF (P:Nat) [NeZero P] (a:Bs) (c s:Nat):Bs:=wr (EC.add (EC.mul s (gG P)) (EC.neg (EC.mul c (ptOf P a))))
theorem zRx {bs:Bs} (h:(rq N bs).isSome=true):nuV bs<N:=by
 obtain ⟨n,hn⟩:=Option.isSome_iff_exists.1 h
 rw[← zOk hn]
 unfold rq at hn
 split at hn
 ·rename_i h
  rw[← Option.some.inj hn];exact h.2
 ·cases hn
theorem zBA {P:Program} {w:World} {fn:Func} {a:Act} (t u x:Tmp) (hr:fn.results=#[.tmp t,.tmp u,.tmp x]) (v v' v'':Value) (ht:a.tmps[t]? = some v) (hu:a.tmps[u]? = some v') (hx:a.tmps[x]? = some v''):(results fn a.tmps).run P w=.ok (.tuple #[v,v',v'']) w:=by
 have h2:a.tmps.getD t undef=v:=by rw[Array.getD_eq_getD_getElem?,ht];rfl
 have h3:a.tmps.getD u undef=v':=by rw[Array.getD_eq_getD_getElem?,hu];rfl
 have h4:a.tmps.getD x undef=v'':=by rw[Array.getD_eq_getD_getElem?,hx];rfl
 unfold results
 rw[hr]
 simp only[Array.mapM_eq_mapM_toList,List.mapM_cons,List.mapM_nil,h2,h3,h4]
 simp[Sem.run_bind]
theorem zGO {W:World} {base m:Nat} {T:TypeId} {e:Value} {xs:List Value} (h:W.ownsRow base T 1 e m xs) (hm:0<m):∃ g cap,e=.slice (some ⟨g,0,none⟩) m cap∧base≤g∧g<W.heap.size∧∀ j,j<m→W.cell? ⟨g,j,none⟩=xs[j]?:=by
 rcases h.2 with ⟨_,h0⟩|⟨g,cap,cur,rfl,hb,hg,h1,h2,h3,h4⟩
 ·omega
 ·refine ⟨g,cap,rfl,hb,(Array.getElem?_eq_some_iff.1 hg).1,fun j hj=>?_⟩
  rw[← h4,List.getElem?_take_of_lt (by omega)]
  simp[World.cell?,hg]
theorem zGr (w:World) (u v:Value) (T U:TypeId):Below w.heap.size w ((w.alloc (.cells #[u] T)).alloc (.cells #[v] U))∧((w.alloc (.cells #[u] T)).alloc (.cells #[v] U)).heap.size=w.heap.size+2∧((w.alloc (.cells #[u] T)).alloc (.cells #[v] U)).cell? ⟨w.heap.size,0,none⟩=some u∧((w.alloc (.cells #[u] T)).alloc (.cells #[v] U)).cell? ⟨w.heap.size+1,0,none⟩=some v:=by
 have h1:=RG.Made.alloc w [u] T
 have h2:=RG.Made.alloc (w.alloc (.cells #[u] T)) [v] U
 rw[World.size_alloc] at h2
 refine ⟨h1.bel.trans (h2.bel.mono (by rw[World.size_alloc];omega)),by rw[World.size_alloc,World.size_alloc],?_,h2.range 0 _ rfl⟩
 have hlt:=h1.lt
 rw[World.cell?_of_block (a:=⟨w.heap.size,0,none⟩) (Below.heap_alloc _ _ _ hlt)]
 exact h1.range 0 _ rfl
theorem zPU {b:Bs} (h:(rq N b).isSome=true):(rq N b).getD 0=nuV b:=by
 obtain ⟨n,hn⟩:=Option.isSome_iff_exists.1 h
 rw[hn,Option.getD_some,zOk hn]
end
end Go.Proofs.YtglhhepedoffeaaGreat
