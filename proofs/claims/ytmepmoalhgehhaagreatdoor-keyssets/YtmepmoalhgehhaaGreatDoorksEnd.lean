import Derived.BigQuiet
import Derived.StillTailTactics
import Derived.Deep.LoopGhost
import Derived.Deep.AppendSrc
import Derived.Laws.AppendOwn
import Derived.Test.YtmepmoalhgehhaaGreatDoorTie
import Derived.Test.YtmepmoalhgehhaaGreatDoorCards
import Derived.ChangeOld
import Derived.ChangeMaps
import Derived.ProofKit
import Derived.LaidMore
import Derived.OpenShut
import Derived.Stop.Joined
import Derived.SevenTiedAt
import Derived.Lib.LaidTab
import Derived.Test.YtmepmoalhgehhaaGreatDoorks6
set_option linter.unusedVariables false
set_option linter.constructorNameAsVariable false
set_option linter.unusedSimpArgs false
set_option maxRecDepth 1000000
set_option maxHeartbeats 4000000
namespace Go.Proofs.YtmepmoalhgehhaaGreatDoor
section
open Go.RowKit Go.Sort Go.Deep
variable {P:Nat} [NeZero P] {N:Nat}
def fillQ (i j:Nat):UInt8:=UInt8.ofNat ((i*37+j)%253) ^^^ 90
theorem fillQ_int (i j:Nat):bits .xor .u8 (((i:Int)*37+(j:Int))%253) 90=SP.ub (fillQ i j):=by
 have H:∀ j:Fin 253,bits .xor .u8 (j.val:Int) 90=SP.ub (UInt8.ofNat j.val ^^^ 90):=by decide +kernel
 have:=H ⟨(i*37+j)%253,Nat.mod_lt _ (by decide)⟩
 have e:(((i*37+j)%253:Nat):Int)=((i:Int)*37+(j:Int))%253:=by omega
 simp only[e] at this
 exact this
theorem ubQ_succ (x:UInt8):IntKind.u8.wrap (SP.ub x+1)=SP.ub (x+1):=by
 have H:∀ j:Fin 256,IntKind.u8.wrap ((j.val:Int)+1)=(((UInt8.ofNat j.val+1).toNat:Nat):Int):=by decide +kernel
 have:=H ⟨x.toNat,x.toNat_lt⟩
 unfold SP.ub
 simp only[UInt8.ofNat_toNat] at this
 exact this
def flQ (b:SP.Bs) (i:Nat):Nat→SP.Bs
 | 0=>b
 | j+1=>flQ b i j++#[fillQ i j]
theorem flQ_size (b:SP.Bs) (i:Nat):∀ j,(flQ b i j).size=b.size+j
 | 0=>rfl
 | j+1=>by rw[flQ,Array.size_append,flQ_size b i j];rfl
theorem arr_front (a x:SP.Bs) (k:Nat) (h:k<a.size):(a++x)[k]! = a[k]!:=by
 rw[getElem!_pos (a++x) k (by rw[Array.size_append];omega),getElem!_pos a k h,Array.getElem_append_left h]
theorem flQ_low (b:SP.Bs) (i k:Nat) (hk:k<b.size):∀ j,(flQ b i j)[k]! = b[k]!
 | 0=>rfl
 | j+1=>by rw[flQ,arr_front _ _ _ (by rw[flQ_size];omega),flQ_low b i k hk j]
theorem flQ_high (b:SP.Bs) (i k:Nat):∀ j,k<j→(flQ b i j)[b.size+k]! = fillQ i k
 | 0,h=>absurd h (by omega)
 | j+1,h=>by
  rw[flQ]
  by_cases e:k=j
  ·subst e
   rw[getElem!_pos (flQ b i k++#[fillQ i k]) (b.size+k) (by rw[Array.size_append,flQ_size];show _<_+1;omega),Array.getElem_append_right (by rw[flQ_size];omega)]
   simp[flQ_size]
  ·rw[arr_front _ _ _ (by rw[flQ_size];omega),flQ_high b i k j (by omega)]
theorem flQ_app (b:SP.Bs) (i j:Nat):∃ x,flQ b i j=b++x:=by
 induction j with
 | zero=>exact ⟨#[],by rw[Array.append_empty];rfl⟩
 | succ j ih =>
  obtain ⟨x,hx⟩:=ih
  exact ⟨x++#[fillQ i j],by rw[flQ,hx,Array.append_assoc]⟩
def incQ (b:SP.Bs):Nat→SP.Bs
 | 0=>b
 | k+1=>(incQ b k).setIfInBounds k (b[k]!+1)
theorem incQ_size (b:SP.Bs):∀ k,(incQ b k).size=b.size
 | 0=>rfl
 | k+1=>by rw[incQ,Array.size_setIfInBounds,incQ_size b k]
theorem incQ_at (b:SP.Bs):∀ k j,k≤b.size→j<b.size→(incQ b k)[j]! = if j<k then b[j]!+1 else b[j]!
 | 0,j,_,_=>by simp[incQ]
 | k+1,j,hk,hj=>by
  have hj':j<((incQ b k).setIfInBounds k (b[k]!+1)).size:=by rw[Array.size_setIfInBounds,incQ_size];exact hj
  rw[incQ,getElem!_pos _ j hj',Array.getElem_setIfInBounds (by rw[incQ_size];exact hj)]
  by_cases e:k=j
  ·subst e
   rw[if_pos rfl,if_pos (by omega)]
  ·rw[if_neg e,← getElem!_pos (incQ b k) j (by rw[incQ_size];exact hj),incQ_at b k j (by omega) hj]
   by_cases h:j<k
   ·rw[if_pos h,if_pos (by omega)]
   ·rw[if_neg h,if_neg (by omega)]
def T2Q (T:Nat→SP.Bs) (i k:Nat):Nat→SP.Bs:=fun j=>if j<i then incQ (T j) (T j).size else if j=i then incQ (T j) k else T j
theorem T2Q_zero (T:Nat→SP.Bs):T2Q T 0 0=T:=by
 funext j
 unfold T2Q
 rw[if_neg (by omega)]
 by_cases h:j=0
 ·rw[if_pos h];rfl
 ·rw[if_neg h]
theorem T2Q_next (T:Nat→SP.Bs) (i:Nat):T2Q T i (T i).size=T2Q T (i+1) 0:=by
 funext j
 unfold T2Q
 by_cases h:j<i
 ·rw[if_pos h,if_pos (by omega)]
 ·rw[if_neg h]
  by_cases h2:j=i
  ·rw[if_pos h2,if_pos (by omega),h2]
  ·rw[if_neg h2,if_neg (by omega)]
   by_cases h3:j=i+1
   ·rw[if_pos h3];rfl
   ·rw[if_neg h3]
theorem T2Q_own (T:Nat→SP.Bs) (i k:Nat):T2Q T i k i=incQ (T i) k:=by unfold T2Q;rw[if_neg (by omega),if_pos rfl]
theorem T2Q_else (T:Nat→SP.Bs) (i k j:Nat) (h:j≠i):T2Q T i (k+1) j=T2Q T i k j:=by
 unfold T2Q
 rw[if_neg h,if_neg h]
theorem T2Q_size (T:Nat→SP.Bs) (i k j:Nat):(T2Q T i k j).size=(T j).size:=by
 unfold T2Q
 split
 ·exact incQ_size _ _
 ·split
  ·exact incQ_size _ _
  ·rfl
theorem T2Q_all (T:Nat→SP.Bs) (n j:Nat) (h:j<n):T2Q T n 0 j=incQ (T j) (T j).size:=by unfold T2Q;rw[if_pos h]
structure ARow (w:World) (B kl n:Nat) (V:Nat→Value):Prop where
 cell:∀ j,j<n→w.cell? ⟨kl,j,none⟩=some (V j)
 kb:0<n→kl<w.heap.size
 ne:∀ j,j<n→(V j).ownBlock≠some kl
 inj:∀ j j',j<n→j'<n→j≠j'→∀ g,(V j).ownBlock=some g→(V j').ownBlock≠some g
 lt:∀ j,j<n→∀ g,(V j).ownBlock=some g→B≤g∧g<w.heap.size
structure AS (w W:World) (B kl n:Nat) (V:Nat→Value) (T:Nat→SP.Bs) (sv:Value) (m:Nat) (S:Nat→SP.Bs):Prop where
 bl:Below B w W
 sz:w.heap.size≤W.heap.size
 kl0:0<n→W.heap[kl]? = w.heap[kl]?
 own:∀ j,j<n→OwQ W w.heap.size B (V j) (T j)
 sl:W.ownsRow w.heap.size 9 1 sv m ((List.range m).map fun j=>.string ⟨S j⟩)
theorem AS.cell {w W:World} {B kl n m:Nat} {V:Nat→Value} {T S:Nat→SP.Bs} {sv:Value} (h:AS w W B kl n V T sv m S) (hA:ARow w B kl n V) {j:Nat} (hj:j<n):W.cell? ⟨kl,j,none⟩=some (V j):=by
 have:W.cell? ⟨kl,j,none⟩=w.cell? ⟨kl,j,none⟩:=by unfold World.cell?;rw[h.kl0 (by omega)]
 rw[this]
 exact hA.cell j hj
theorem AS.drew {w W:World} {B kl n m:Nat} {V:Nat→Value} {T S:Nat→SP.Bs} {sv:Value} (h:AS w W B kl n V T sv m S):AS w W.drew B kl n V T sv m S:=⟨⟨h.bl.os,h.bl.tape,h.bl.output,h.bl.size,h.bl.block⟩,h.sz,h.kl0,h.own,h.sl⟩
theorem infoST:(Tryz.prog.info? 9).map (fun i=>(i.size,i.bytes,i.zero.map fun z=>z.cells.size))=some (1,16,some 1):=by kernel_rfl
theorem undST:Tryz.prog.underlying 38=some (.slice 9):=by kernel_rfl
theorem AS.push {w W:World} {B kl n m:Nat} {V:Nat→Value} {T S:Nat→SP.Bs} {sv:Value} (h:AS w W B kl n V T sv m S) (hA:ARow w B kl n V) (hB:B≤w.heap.size) (hm:m≤1000000) {x:ByteArray} (hx:x=⟨S m⟩) :
 ∃ v' W',(Builtin.append_ #[38,38] 38 #[sv,.slice (some ⟨W.heap.size,0,none⟩) 1 1]).run Tryz.prog (W.alloc (.cells #[.string x] 9))=.ok v' W'∧AS w W' B kl n V T v' (m+1) S:=by
 have hs:=h.sz
 obtain ⟨v',W',r1,r2,r3⟩:=own_app1 undST infoST (by omega) h.sl (x:=.string x) rfl (by omega) hs
 have hsv:∀ g,g<w.heap.size→sv.ownBlock≠some g:=fun g hg e=>by
  have:=(own_lt h.sl e).1
  omega
 have hk:∀ g,g<w.heap.size→W'.heap[g]? = W.heap[g]?:=fun g hg=>r3.keep g (by omega) (hsv g hg)
 refine ⟨v',W',r1,⟨by rw[r3.os,h.bl.os],by rw[r3.tape,h.bl.tape],by rw[r3.output,h.bl.output],Nat.le_trans h.bl.size r3.size,fun g hg=>?_⟩,by have:=r3.size;omega,fun hn=>?_,fun j hj=>?_,?_⟩
 ·rw[hk g (by omega),h.bl.block g hg]
 ·rw[hk kl (hA.kb hn),h.kl0 hn]
 ·exact (h.own j hj).keep r3.size (fun g hg=>hk g (hA.lt j hj g hg).2)
 ·rw[List.range_succ,List.map_append]
  rw[hx] at r2
  exact r2
theorem AS.set {w W:World} {B kl n m i k g c:Nat} {V:Nat→Value} {T S:Nat→SP.Bs} {sv:Value} {x:UInt8} (h:AS w W B kl n V (T2Q T i k) sv m S) (hA:ARow w B kl n V) (hi:i<n) (hv:V i=.slice (some ⟨g,0,none⟩) (T i).size c) (hk0:k<(T i).size) (hx:x=(T i)[k]!+1):AS w (W.setCell ⟨g,k,none⟩ (SP.encB x)) B kl n V (T2Q T i (k+1)) sv m S:=by
 have ho:=h.own i hi
 have hg:(V i).ownBlock=some g:=by rw[hv];rfl
 obtain ⟨g1,g2⟩:=hA.lt i hi g hg
 have hsz:=T2Q_size T i k i
 have s1:W.heap.size≤(W.setCell ⟨g,k,none⟩ (SP.encB x)).heap.size:=by rw[World.size_setCell];exact Nat.le_refl _
 have hk:∀ y,y<W.heap.size→y≠g→(W.setCell ⟨g,k,none⟩ (SP.encB x)).heap[y]? = W.heap[y]?:=fun y _ hne=>heap_setCell_other W ⟨g,k,none⟩ y _ hne
 have hs:=h.sz
 refine ⟨⟨h.bl.os,h.bl.tape,h.bl.output,Nat.le_trans h.bl.size s1,fun y hy=>?_⟩,Nat.le_trans hs s1,fun hn=>?_,fun j hj=>?_,?_⟩
 ·rw[hk y (by omega) (by omega),h.bl.block y hy]
 ·have:=hA.kb hn
  rw[hk kl (by omega) (fun e=>hA.ne i hi (by rw[hg,e])),h.kl0 hn]
 ·by_cases e:j=i
  ·subst e
   rw[hv,T2Q_own] at ho
   have hsz':(incQ (T j) k).size=(T j).size:=incQ_size _ _
   rw[hv,T2Q_own,incQ,← hx]
   rw[← hsz'] at ho ⊢
   exact ho.set (by rw[hsz'];exact hk0)
  ·rw[T2Q_else _ _ _ _ e]
   refine (h.own j hj).keep s1 (fun y hy=>hk y (by have:=(hA.lt j hj y hy).2;omega) (fun e2=>?_))
   rw[e2] at hy
   exact hA.inj j i hj hi e g hy hg
 ·refine own_keep h.sl (fun y hy=>?_)
  have:=own_lt h.sl hy
  exact hk y this.2.1 (by omega)
end
section
open Go.RowKit Go.Sort Go.Deep
structure AG (w W:World) (B kl n:Nat) (V:Nat→Value) (T:Nat→SP.Bs) (sv:Value) (S:Nat→SP.Bs) (gv:Value) (i o:Nat) (U:Nat→Value):Prop where
 bl:Below B w W
 sz:w.heap.size≤W.heap.size
 kl0:0<n→W.heap[kl]? = w.heap[kl]?
 own:∀ j,o≤j→j<n→OwQ W w.heap.size B (V j) (T j)
 rv:∀ j,j<n→RV W w.heap.size (V j) (T j)
 sl:W.ownsRow w.heap.size 9 1 sv n ((List.range n).map fun j=>.string ⟨S j⟩)
 gl:W.ownsRow w.heap.size 24 1 gv i ((List.range i).map U)
 uv:∀ j,j<i→RV W w.heap.size (U j) (flQ (T j) j 80)
 ud:∀ j,j<i→(U j).ownBlock=(V j).ownBlock∨∃ g,(U j).ownBlock=some g∧w.heap.size≤g
variable {w W:World} {B kl n i o:Nat} {V U:Nat→Value} {T S:Nat→SP.Bs} {sv gv u:Value}
theorem AG.cell (h:AG w W B kl n V T sv S gv i o U) (hA:ARow w B kl n V) {j:Nat} (hj:j<n):W.cell? ⟨kl,j,none⟩=some (V j):=by
 have:W.cell? ⟨kl,j,none⟩=w.cell? ⟨kl,j,none⟩:=by unfold World.cell?;rw[h.kl0 (by omega)]
 rw[this]
 exact hA.cell j hj
theorem AG.drewN (h:AG w W B kl n V T sv S gv i o U) (q:Nat):AG w (W.drewN q) B kl n V T sv S gv i o U:=⟨⟨h.bl.os,h.bl.tape,h.bl.output,h.bl.size,h.bl.block⟩,h.sz,h.kl0,h.own,h.rv,h.sl,h.gl,h.uv,h.ud⟩
theorem AG.begin (h:AS w W B kl n V T sv n S):AG w W B kl n V T sv S (.slice none 0 0) 0 0 U:=
 ⟨h.bl,h.sz,h.kl0,fun j _ hj=>h.own j hj,fun j hj=>RV.of (h.own j hj),h.sl,⟨rfl,Or.inl ⟨rfl,rfl⟩⟩,fun j hj=>absurd hj (Nat.not_lt_zero _),fun j hj=>absurd hj (Nat.not_lt_zero _)⟩
structure AJ (w W:World) (B kl n:Nat) (V:Nat→Value) (T:Nat→SP.Bs) (sv:Value) (S:Nat→SP.Bs) (gv:Value) (i:Nat) (U:Nat→Value) (u:Value) (j:Nat):Prop where
 ag:AG w W B kl n V T sv S gv i (i+1) U
 cu:OwQ W w.heap.size B u (flQ (T i) i j)
 cd:u.ownBlock=(V i).ownBlock∨∃ g,u.ownBlock=some g∧w.heap.size≤g
 un:∀ k,k<i→∀ g,(U k).ownBlock=some g→u.ownBlock≠some g
theorem AJ.begin (h:AG w W B kl n V T sv S gv i i U) (hA:ARow w B kl n V) (hi:i<n):AJ w W B kl n V T sv S gv i U (V i) 0:=by
 refine ⟨⟨h.bl,h.sz,h.kl0,fun j h1 h2=>h.own j (by omega) h2,h.rv,h.sl,h.gl,h.uv,h.ud⟩,h.own i (Nat.le_refl _) hi,Or.inl rfl,fun k hk g hg e=>?_⟩
 have hl:=hA.lt i hi g e
 rcases h.ud k hk with h1|⟨g',h1,h2⟩
 ·rw[h1] at hg
  exact hA.inj k i (by omega) hi (by omega) g hg e
 ·rw[h1] at hg
  have:=Option.some.inj hg
  omega
theorem AJ.push {j:Nat} (h:AJ w W B kl n V T sv S gv i U u j) (hA:ARow w B kl n V) (hi:i<n) (hin:i<n) (hsz:(T i).size+j≤1000000) (hB:B≤w.heap.size) {x:Value} (hx:x=SP.encB (fillQ i j)) :
 ∃ v' W',(Builtin.append_ #[24,24] 24 #[u,.slice (some ⟨W.heap.size,0,none⟩) 1 1]).run Tryz.prog (W.alloc (.cells #[x] 5))=.ok v' W'∧AJ w W' B kl n V T sv S gv i U v' (j+1):=by
 have a:=h.ag
 have hs:=a.sz
 subst hx
 obtain ⟨v',W',r1,r2,r3⟩:=h.cu.app (x:=fillQ i j) (by rw[flQ_size];omega) (by omega)
 have hcu':OwQ W' w.heap.size B v' (flQ (T i) i (j+1)):=r2
 have ut:∀ g,u.ownBlock=some g→B≤g∧TyQ W w.heap.size g:=fun g hg=>h.cu.lt hg
 have uV:∀ k,k<n→k≠i→∀ g,(V k).ownBlock=some g→u.ownBlock≠some g:=fun k hk hne g hg e=>by
  rcases h.cd with h1|⟨g',h1,h2⟩
  ·rw[h1] at e
   exact hA.inj k i hk hi hne g hg e
  ·rw[h1] at e
   have e':=Option.some.inj e
   have:=(hA.lt k hk g hg).2
   omega
 have hrs:=r3.size
 refine ⟨v',W',r1,⟨⟨⟨by rw[r3.os,a.bl.os],by rw[r3.tape,a.bl.tape],by rw[r3.output,a.bl.output],Nat.le_trans a.bl.size r3.size,fun g hg=>?_⟩,by omega,fun hn=>?_,fun k h1 h2=>?_,fun k hk=>?_,?_,?_,fun k hk=>?_,a.ud⟩,hcu',?_,fun k hk g hg=>?_⟩⟩
 ·rw[r3.keep g (by omega) (fun e=>by have:=(ut g e).1;omega),a.bl.block g hg]
 ·have hk:=hA.kb hn
  rw[r3.keep kl (by omega) (fun e=>by
   rcases h.cd with h1|⟨g',h1,h2⟩
   ·exact hA.ne i hi (by rw[← h1];exact e)
   ·rw[h1] at e
    have:=Option.some.inj e
    omega),a.kl0 hn]
 ·exact (a.own k h1 h2).keep hrs (fun g hg=>r3.keep g ((a.own k h1 h2).lt hg).2.1 (uV k h2 (by omega) g hg))
 ·by_cases e:k=i
  ·subst e
   rcases r3.mv with h1|⟨-,h1⟩
   ·by_cases hb:u.ownBlock=(V k).ownBlock
    ·rcases id (a.rv k hk) with h2|⟨g,c,h2,-⟩
     ·exact Or.inl h2
     ·obtain ⟨x',hx'⟩:=flQ_app (T k) k (j+1)
      have hv':v'.ownBlock=some g:=by rw[h1,hb,h2];rfl
      have hR:=RV.of hcu'
      rw[hx'] at hR
      rcases id hR with ⟨-,e⟩|⟨g2,c2,e,t2,e2⟩
      ·rw[e] at hv';cases hv'
      ·rw[e] at hv'
       obtain rfl:g2=g:=Option.some.inj hv'
       exact Or.inr ⟨g2,c,h2,t2,holds_frontQ e2⟩
    ·exact (a.rv k hk).keep hrs (fun g hg=>r3.keep g ((a.rv k hk).typ hg).1 (fun e=>hb (by rw[e,hg])))
   ·exact (a.rv k hk).keep hrs (fun g hg=>h1 g ((a.rv k hk).typ hg).1)
  ·exact (a.rv k hk).keep hrs (fun g hg=>r3.keep g ((a.rv k hk).typ hg).1 (uV k hk e g hg))
 ·refine own_keep a.sl (fun g hg=>?_)
  obtain ⟨g1,g2,cur,g3⟩:=own_lt a.sl hg
  exact r3.keep g g2 (fun e=>(ut g e).2.ne g1 g3 (by decide) rfl)
 ·refine own_keep a.gl (fun g hg=>?_)
  obtain ⟨g1,g2,cur,g3⟩:=own_lt a.gl hg
  exact r3.keep g g2 (fun e=>(ut g e).2.ne g1 g3 (by decide) rfl)
 ·exact (a.uv k hk).keep hrs (fun g hg=>r3.keep g ((a.uv k hk).typ hg).1 (h.un k hk g hg))
 ·rcases r3.mv with h1|⟨⟨g,h1,h2⟩,-⟩
  ·rw[h1];exact h.cd
  ·exact Or.inr ⟨g,h1,by omega⟩
 ·rcases r3.mv with h1|⟨⟨g',h1,h2⟩,-⟩
  ·rw[h1];exact h.un k hk g hg
  ·rw[h1]
   intro e
   have e':=Option.some.inj e
   have:=((a.uv k hk).typ hg).1
   omega
theorem AJ.done (h:AJ w W B kl n V T sv S gv i U u 80) (hA:ARow w B kl n V) (hi:i<n) (hn:i≤1000000) (hB:B≤w.heap.size) :
 ∃ v' W',(Builtin.append_ #[33,33] 33 #[gv,.slice (some ⟨W.heap.size,0,none⟩) 1 1]).run Tryz.prog (W.alloc (.cells #[u] 24))=.ok v' W'∧AG w W' B kl n V T sv S v' (i+1) (i+1) (fun k=>if k=i then u else U k):=by
 have a:=h.ag
 have hs:=a.sz
 have hu:RV W w.heap.size u (flQ (T i) i 80):=RV.of h.cu
 obtain ⟨v',W',r1,r2,r3⟩:=own_app1 undBB infoBB (by omega) a.gl (x:=u) (by
  obtain ⟨q,c,rfl⟩:=hu.slice
  rfl) (by omega) hs
 have gt:∀ g,gv.ownBlock=some g→w.heap.size≤g∧g<W.heap.size∧∃ cur,W.heap[g]? = some (.cells cur 24 (0,0)):=fun g hg=>own_lt a.gl hg
 have hrs:=r3.size
 have old:∀ g,g<w.heap.size→W'.heap[g]? = W.heap[g]?:=fun g hg=>r3.keep g (by omega) (fun e=>by have:=(gt g e).1;omega)
 have kp:∀ {v:Value} {b:SP.Bs},RV W w.heap.size v b→RV W' w.heap.size v b:=fun hv=>hv.keep hrs (fun g hg=>by
  have ty:=hv.typ hg
  exact r3.keep g ty.1 (fun e=>by
   obtain ⟨e1,-,cur',e3⟩:=gt g e
   exact ty.ne e1 e3 (by decide) rfl))
 refine ⟨v',W',r1,⟨⟨by rw[r3.os,a.bl.os],by rw[r3.tape,a.bl.tape],by rw[r3.output,a.bl.output],Nat.le_trans a.bl.size r3.size,fun g hg=>?_⟩,by omega,fun hn=>?_,fun k h1 h2=>?_,fun k hk=>kp (a.rv k hk),?_,?_,fun k hk=>?_,fun k hk=>?_⟩⟩
 ·rw[old g (by omega),a.bl.block g hg]
 ·rw[old kl (hA.kb hn),a.kl0 hn]
 ·exact (a.own k h1 h2).keep hrs (fun g hg=>old g (hA.lt k h2 g hg).2)
 ·refine own_keep a.sl (fun g hg=>?_)
  obtain ⟨-,g2,cur,g3⟩:=own_lt a.sl hg
  exact r3.keep g g2 (fun e=>by
   obtain ⟨-,-,cur',e3⟩:=gt g e
   rw[g3] at e3
   injection e3 with e3
   injection e3 with _ e3 _
   cases e3)
 ·rw[List.range_succ,List.map_append]
  have e1:(List.range i).map (fun k=>if k=i then u else U k)=(List.range i).map U:=by
   refine List.map_congr_left fun k hk=>?_
   have:=List.mem_range.1 hk
   rw[if_neg (by omega)]
  rw[e1]
  simp only[List.map_cons,List.map_nil,if_pos]
  exact r2
 ·by_cases e:k=i
  ·subst e
   rw[if_pos rfl]
   exact kp hu
  ·rw[if_neg e]
   exact kp (a.uv k (by omega))
 ·by_cases e:k=i
  ·subst e
   rw[if_pos rfl]
   exact h.cd
  ·rw[if_neg e]
   exact a.ud k (by omega)
end
section
open Go.RowKit Go.Sort Go.Deep
variable {P:Nat} [NeZero P] {N:Nat}
structure LookQ (W:World) (kl gs gg p:Nat) (qv qu:Option Addr) (m cv cu:Nat) (s:ByteArray) (b b3:SP.Bs) (L:Nat):Prop where
 cl:W.cell? ⟨kl,p,none⟩=some (.slice qv m cv)
 cs:W.cell? ⟨gs,p,none⟩=some (.string s)
 cg:W.cell? ⟨gg,p,none⟩=some (.slice qu (m+80) cu)
 hl:RV W L (.slice qv m cv) b
 hg:RV W L (.slice qu (m+80) cu) b3
theorem LookQ.drewN {W:World} {kl gs gg p m cv cu L:Nat} {qv qu:Option Addr} {s:ByteArray} {b b3:SP.Bs} (h:LookQ W kl gs gg p qv qu m cv cu s b b3 L) (q:Nat):LookQ (W.drewN q) kl gs gg p qv qu m cv cu s b b3 L:=⟨h.cl,h.cs,h.cg,h.hl,h.hg⟩
theorem mixedQ:Tryz.prog.follows .mixedOrders=true:=by kernel_rfl
theorem own_cellS {W:World} {base n g c:Nat} {e:TypeId} {xs:List Value} (h:W.ownsRow base e 1 (.slice (some ⟨g,0,none⟩) n c) n xs) {j:Nat} {u:Value} (hu:xs[j]? = some u):W.cell? ⟨g,j,none⟩=some u:=by
 have:=h.cells (g:=g) rfl j u hu
 rw[addP0,Nat.zero_add] at this
 exact this
theorem own_shape {W:World} {base n:Nat} {e:TypeId} {v:Value} {xs:List Value} (h:W.ownsRow base e 1 v n xs) (hn:0<n):∃ g c,v=.slice (some ⟨g,0,none⟩) n c:=by
 rcases h with ⟨-,⟨-,h0⟩|⟨g,cap,cur,rfl,-⟩⟩
 ·omega
 ·exact ⟨g,cap,rfl⟩
theorem ApartQ (kl n c B:Nat) (q:Option Addr) (V:Nat→Value) (T:Nat→SP.Bs) (w:World) (hn:n≤5000) (hq:0<n→q=some ⟨kl,0,none⟩) (hA:ARow w B kl n V) (hO:∀ j,j<n→OwQ w w.heap.size B (V j) (T j)) (hT:∀ j,j<n→(T j).size≤100000) (hBw:B≤w.heap.size) :
 Calls Tryz.prog 10 #[.slice q n c] w (fun e w'=>e=.returned (.bool true)∧Below B w w'):=by
 have HA:=Hid.mkP hA
 have HT:=Hid.mkP hT
 have HQ:=Hid.mkP hq
 have A0:Hid (AS w w B kl n V T (.slice none 0 0) 0 T):=⟨Below.refl _ _,Nat.le_refl _,fun _=>rfl,hO,⟨rfl,Or.inl ⟨rfl,rfl⟩⟩⟩
 clear hA hO hq hT
 go_enter Tryz.func10,Tryz.ntmps10
 go_wp2
 go_loopg [3,4] n (fun gk s3 s4 wr=>∃ (i:Nat) (sv:Value),i+gk=n∧sv=s3∧s4=.int .i64 i∧Hid (AS w wr B kl n V T sv i T))
 case atStart=>exact ⟨0,_,Nat.zero_add _,rfl,rfl,A0⟩
 case round =>
  clear A0
  obtain ⟨i,sv,hi,rfl,rfl,HS⟩:=hrel
  by_cases hlt:i<n
  ·have hlt':(i:Int)<(n:Int):=by omega
   obtain rfl:=HQ.out (by omega)
   have hc:=HS.out.cell HA.out hlt
   have hpt:=(RV.of (HS.out.own i hlt)).pt
   obtain ⟨qv,cv,hv,-⟩:=id hpt
   rw[hv] at hc hpt
   have hcv:=hpt.conv
   obtain ⟨v',w3,hap,hL3⟩:=HS.out.push HA.out hBw (by omega) (x:=⟨T i⟩) rfl
   have HL3:=Hid.mkP hL3
   generalize (⟨T i⟩:ByteArray)=s at hcv hap
   generalize Array.size (T i)=m at hc hcv
   clear hL3 hpt hv HS
   go_wp2_with (at_builtin;refine Lib.wpList_append_run _ rfl _ _ 38 38 rfl _ _ rfl rfl _ _ hap ?_)
   go_roundg (gk-1)
   case measure=>omega
   case rel=>exact ⟨i+1,_,by omega,rfl,rfl,HL3⟩
  ·have hge:¬ (i:Int)<(n:Int):=by omega
   obtain rfl:i=n:=by omega
   have HS1:Hid (AS w wr B kl i V (T2Q T 0 0) sv i T):=by rw[T2Q_zero];exact HS
   clear HS hi hlt
   go_wp2
   clear hge
   go_loopg [5] i (fun gk s5 wr=>∃ k:Nat,k+gk=i∧s5=.int .i64 k∧Hid (AS w wr B kl i V (T2Q T k 0) sv i T))
   case atStart=>exact ⟨0,Nat.zero_add _,rfl,HS1⟩
   case round =>
    clear HS1
    obtain ⟨k,hk,rfl,HS1⟩:=hrel
    by_cases hlt:k<i
    ·have hlt':(k:Int)<(i:Int):=by omega
     obtain rfl:=HQ.out (by omega)
     have hm:(T k).size≤100000:=HT.out k hlt
     obtain ⟨m,hmm⟩:∃ m,Hid ((T k).size=m):=⟨_,rfl⟩
     rw[hmm.out] at hm
     obtain ⟨qv,cv,hv⟩:=(RV.of (HS1.out.own k hlt)).slice
     rw[T2Q_size,hmm.out] at hv
     have Hv:=Hid.mkP hv
     clear hv
     go_wp2
     go_loopg [6] m (fun gj s6 wr=>∃ j:Nat,j+gj=m∧s6=.int .i64 j∧Hid (AS w wr B kl i V (T2Q T k j) sv i T))
     case atStart=>exact ⟨0,Nat.zero_add _,rfl,HS1⟩
     case round =>
      clear HS1
      obtain ⟨j,hj,rfl,HS1⟩:=hrel
      have hc:=HS1.out.cell HA.out hlt
      rw[Hv.out] at hc
      by_cases hj2:j<m
      ·have hj3:(j:Int)<(m:Int):=by omega
       obtain ⟨x,hx⟩:∃ x,(T k)[j]! = x:=⟨_,rfl⟩
       obtain ⟨g,c0,e1,hb0,hf0⟩:=(RV.of (HS1.out.own k hlt)).at (k:=j) (by rw[T2Q_size,hmm.out];exact hj2)
       rw[T2Q_own,incQ_at _ _ _ (by rw[hmm.out];omega) (by rw[hmm.out];omega),if_neg (by omega),hx] at hb0
       have e2:V k=.slice (some ⟨g,0,none⟩) (T k).size c0:=by rw[e1,T2Q_size]
       rw[Hv.out,hmm.out] at e2
       injection e2 with e3 _ e4
       subst e3 e4
       have hw:=ubQ_succ x
       have HS2:Hid (AS w (wr.setCell ⟨g,j,none⟩ (SP.encB (x+1))) B kl i V (T2Q T k (j+1)) sv i T):=HS1.out.set HA.out hlt (by rw[Hv.out,hmm.out]) (by rw[hmm.out];exact hj2) (by rw[hx])
       unfold SP.encB at hb0 HS2
       clear HS1 hx e1
       generalize SP.ub x=u at hb0 hw
       go_wp2_with fail
       go_still_tail 14,mixedQ
       go_wp2
       go_roundg (gk-1)
       case measure=>omega
       case rel=>exact ⟨j+1,by omega,rfl,HS2.out.drew⟩
      ·have hj3:¬ (j:Int)<(m:Int):=by omega
       obtain rfl:j=m:=by omega
       have HS2:Hid (AS w wr B kl i V (T2Q T (k+1) 0) sv i T):=by
        rw[← T2Q_next,hmm.out]
        exact HS1
       clear HS1
       go_wp2
       go_roundg (i-(k+1))
       case measure=>omega
       case rel=>exact ⟨k+1,by omega,rfl,HS2⟩
    ·have hge:¬ (k:Int)<(i:Int):=by omega
     obtain rfl:k=i:=by omega
     have HG0:Hid (AG w wr B kl k V (T2Q T k 0) sv T (.slice none 0 0) 0 0 (fun _=>undef)):=AG.begin HS1.out
     clear hlt hk HS1
     go_wp2
     clear hge
     go_loopg [7,8] k (fun gk s7 s8 wr=>∃ (i:Nat) (gv:Value) (U:Nat→Value),i+gk=k∧gv=s7∧s8=.int .i64 i∧Hid (AG w wr B kl k V (T2Q T k 0) sv T gv i i U))
     case atStart=>exact ⟨0,_,_,Nat.zero_add _,rfl,rfl,HG0⟩
     case round =>
      clear HG0
      obtain ⟨i,gv,U,hi,rfl,rfl,HG1⟩:=hrel
      by_cases hlt:i<k
      ·have hlt':(i:Int)<(k:Int):=by omega
       obtain rfl:=HQ.out (by omega)
       have hc:=HG1.out.cell HA.out hlt
       obtain ⟨qv,cv,hv⟩:=(HG1.out.rv i hlt).slice
       have HJ0:Hid (AJ w wr B kl k V (T2Q T k 0) sv T gv i U (V i) 0):=AJ.begin HG1.out HA.out hlt
       have hm:(T2Q T k 0 i).size≤100000:=by rw[T2Q_size];exact HT.out i hlt
       obtain ⟨m,Hm⟩:∃ m,Hid ((T2Q T k 0 i).size=m):=⟨_,rfl⟩
       rw[hv,Hm.out] at hc HJ0
       rw[Hm.out] at hm
       clear hv HG1
       go_wp2
       clear hc
       go_loopg [9,10] 80 (fun gk s9 s10 wr=>∃ (j:Nat) (bv:Value),j+gk=80∧bv=s9∧s10=.int .i64 j∧Hid (AJ w wr B kl k V (T2Q T k 0) sv T gv i U bv j))
       case atStart=>exact ⟨0,_,Nat.zero_add _,rfl,rfl,HJ0⟩
       case round =>
        clear HJ0
        obtain ⟨j,bv,hj,rfl,rfl,HJ⟩:=hrel
        by_cases hj2:j<80
        ·have hj3:(j:Int)<80:=by omega
         have hf:=fillQ_int i j
         obtain ⟨v',w3,hap,hL3⟩:=HJ.out.push HA.out hlt hlt (by rw[Hm.out];omega) hBw (x:=.int .u8 (SP.ub (fillQ i j))) rfl
         have HL3:=Hid.mkP hL3
         clear hL3 HJ
         generalize SP.ub (fillQ i j)=u at hf hap
         go_wp2_with (at_builtin;refine Lib.wpList_append_run _ rfl _ _ 24 24 rfl _ _ rfl rfl _ _ hap ?_)
         go_roundg (gk-1)
         case measure=>omega
         case rel=>exact ⟨j+1,_,by omega,rfl,rfl,HL3⟩
        ·have hj3:¬ (j:Int)<80:=by omega
         obtain rfl:j=80:=by omega
         obtain ⟨qb,cb,hbv⟩:∃ q c,bv=.slice q (m+80) c:=by
          have h1:RV wr w.heap.size bv (flQ (T2Q T k 0 i) i 80):=RV.of HJ.out.cu
          obtain ⟨q,c,h2⟩:=h1.slice
          rw[flQ_size,Hm.out] at h2
          exact ⟨q,c,h2⟩
         subst hbv
         obtain ⟨v',w3,hap,hL3⟩:=HJ.out.done HA.out hlt (by omega) hBw
         have HL3:=Hid.mkP hL3
         clear hL3 HJ
         go_wp2_with (at_builtin;refine Lib.wpList_append_run _ rfl _ _ 33 33 rfl _ _ rfl rfl _ _ hap ?_)
         go_roundg (k-(i+1))
         case measure=>omega
         case rel=>exact ⟨i+1,_,_,by omega,rfl,rfl,HL3⟩
      ·have hge:¬ (i:Int)<(k:Int):=by omega
       obtain rfl:i=k:=by omega
       clear hlt hi
       go_wp2
       clear hge
       go_loopg [11] i (fun gk s11 wr=>∃ p:Nat,p+gk=i∧s11=.int .i64 p∧Hid (AG w wr B kl i V (T2Q T i 0) sv T gv i i U))
       case atStart=>exact ⟨0,Nat.zero_add _,rfl,HG1⟩
       case round =>
        clear HG1
        obtain ⟨p,hp,rfl,HST⟩:=hrel
        by_cases hlt:p<i
        ·have hlt':(p:Int)<(i:Int):=by omega
         obtain rfl:=HQ.out (by omega)
         obtain ⟨gs,cs,rfl⟩:=own_shape HST.out.sl (by omega)
         obtain ⟨gg,cg,rfl⟩:=own_shape HST.out.gl (by omega)
         have hcs:wr.cell? ⟨gs,p,none⟩=some (.string ⟨T p⟩):=own_cellS HST.out.sl (by rw[List.getElem?_map,List.getElem?_range hlt];rfl)
         have hcg:wr.cell? ⟨gg,p,none⟩=some (U p):=own_cellS HST.out.gl (by rw[List.getElem?_map,List.getElem?_range hlt];rfl)
         have hcl:=HST.out.cell HA.out hlt
         have hHl:=HST.out.rv p hlt
         have hHg:=HST.out.uv p hlt
         obtain ⟨qv,cv,hv⟩:=hHl.slice
         obtain ⟨qu,cu,hu⟩:=hHg.slice
         have hm:(T p).size≤100000:=HT.out p hlt
         obtain ⟨m,hmm⟩:∃ m,(T p).size=m:=⟨_,rfl⟩
         rw[T2Q_size,hmm] at hv
         rw[flQ_size,T2Q_size,hmm] at hu
         rw[hv] at hcl hHl
         rw[hu] at hcg hHg
         rw[hmm] at hm
         have HLK:Hid (LookQ wr kl gs gg p qv qu m cv cu ⟨T p⟩ (T2Q T i 0 p) (flQ (T2Q T i 0 p) p 80) w.heap.size):=⟨hcl,hcs,hcg,hHl,hHg⟩
         have HB1:Hid (∀ j,j<m→(T2Q T i 0 p)[j]! = (T p)[j]!+1):=fun j hj=>by rw[T2Q_all _ _ _ hlt,incQ_at _ _ _ (Nat.le_refl _) (by rw[hmm];exact hj),if_pos (by rw[hmm];exact hj)]
         have HB2:Hid (∀ j,j<m→(flQ (T2Q T i 0 p) p 80)[j]! = (T p)[j]!+1):=fun j hj=>by
          rw[flQ_low _ _ _ (by rw[T2Q_size,hmm];exact hj)]
          exact HB1.out j hj
         have HB3:Hid (∀ j,j<80→(flQ (T2Q T i 0 p) p 80)[m+j]! = fillQ p j):=fun j hj=>by
          have:=flQ_high (T2Q T i 0 p) p j 80 hj
          rw[T2Q_size,hmm] at this
          exact this
         have HSS:Hid ((T2Q T i 0 p).size=m∧(flQ (T2Q T i 0 p) p 80).size=m+80):=⟨by rw[T2Q_size,hmm],by rw[flQ_size,T2Q_size,hmm]⟩
         generalize flQ (T2Q T i 0 p) p 80=b3 at HLK HB2 HB3 HSS
         obtain ⟨b,hb⟩:∃ b,T2Q T i 0 p=b:=⟨_,rfl⟩
         rw[hb] at HLK HB1 HSS
         obtain ⟨s,hs⟩:∃ s:ByteArray,s=⟨T p⟩:=⟨_,rfl⟩
         rw[← hs] at HLK hcs
         have hsz:s.size=m:=by rw[hs];exact hmm
         have HSX:Hid (∀ j (h:j<s.size),s[j]=(T p)[j]!):=fun j h=>by
          subst hs
          have h':j<(T p).size:=h
          rw[getElem!_pos (T p) j h']
          rfl
         clear hHg hHl hs hb hv hu hmm
         go_wp2_with fail
         go_quiet (fail)
         have HST1:=Hid.mkP (HST.out.drewN nq)
         have HLK1:=Hid.mkP (HLK.out.drewN nq)
         clear HST HLK hcs hcg hcl
         generalize wr.drewN nq=w6 at HST1 HLK1 ⊢
         go_wp2
         go_loopg [12] m (fun gk s12 wr=>∃ j:Nat,j+gk=m∧s12=.int .i64 j∧Hid (AG w wr B kl i V (T2Q T i 0) (.slice (some ⟨gs,0,none⟩) i cs) T (.slice (some ⟨gg,0,none⟩) i cg) i i U)∧Hid (LookQ wr kl gs gg p qv qu m cv cu s b b3 w.heap.size))
         case atStart=>exact ⟨0,Nat.zero_add _,rfl,HST1,HLK1⟩
         case round =>
          clear HST1 HLK1
          obtain ⟨j,hj,rfl,HST,HLK⟩:=hrel
          have hcs:=HLK.out.cs
          by_cases hj2:j<m
          ·have hj3:(j:Int)<(m:Int):=by omega
           have hj4:j<s.size:=by omega
           have hj5:(j:Int)<(s.size:Int):=by omega
           have hj6:(j:Int)<(m:Int)+80:=by omega
           have hcl:=HLK.out.cl
           have hcg:=HLK.out.cg
           obtain ⟨g1,c1,e1,h1,-⟩:=HLK.out.hl.at (k:=j) (by rw[HSS.out.1];exact hj2)
           obtain ⟨g2,c2,e2,h2,-⟩:=HLK.out.hg.at (k:=j) (by rw[HSS.out.2];omega)
           rw[HB1.out j hj2] at h1
           rw[HB2.out j hj2] at h2
           injection e1 with e1 _ _
           injection e2 with e2 _ _
           have hw:IntKind.u8.wrap ((s[j].toNat:Int)+1)=SP.ub ((T p)[j]!+1):=by rw[HSX.out j hj4];exact ubQ_succ _
           unfold SP.encB at h1 h2
           generalize SP.ub ((T p)[j]!+1)=u at h1 h2 hw
           rw[e1] at hcl
           rw[e2] at hcg
           go_wp2_with fail
           go_quiet (fail)
           have HST1:=Hid.mkP (HST.out.drewN nq)
           have HLK1:=Hid.mkP (HLK.out.drewN nq)
           clear HST HLK hcs hcg hcl h1 h2 hw
           generalize wr.drewN nq=w7 at HST1 HLK1 ⊢
           go_wp2
           go_roundg (gk-1)
           case measure=>omega
           case rel=>exact ⟨j+1,by omega,rfl,HST1,HLK1⟩
          ·have hj3:¬ (j:Int)<(m:Int):=by omega
           have hj7:¬ (j:Int)<(s.size:Int):=by omega
           go_wp2
           clear hcs hj3
           go_loopg [13] 80 (fun gk s13 wr=>∃ j:Nat,j+gk=80∧s13=.int .i64 j∧Hid (AG w wr B kl i V (T2Q T i 0) (.slice (some ⟨gs,0,none⟩) i cs) T (.slice (some ⟨gg,0,none⟩) i cg) i i U)∧Hid (LookQ wr kl gs gg p qv qu m cv cu s b b3 w.heap.size))
           case atStart=>exact ⟨0,Nat.zero_add _,rfl,HST,HLK⟩
           case round =>
            clear HST HLK hj hj2
            obtain ⟨j,hj,rfl,HST,HLK⟩:=hrel
            by_cases hj2:j<80
            ·have hj3:(j:Int)<80:=by omega
             have hcs:=HLK.out.cs
             have hcg:=HLK.out.cg
             obtain ⟨m2,hm2⟩:∃ m2,m+j=m2:=⟨_,rfl⟩
             have i1:(s.size:Int)+(j:Int)=(m2:Int):=by omega
             have i2:(m2:Int)<(m:Int)+80:=by omega
             obtain ⟨g2,c2,e2,h2,-⟩:=HLK.out.hg.at (k:=m2) (by rw[HSS.out.2];omega)
             injection e2 with e2 _ _
             rw[e2] at hcg
             rw[← hm2,HB3.out j hj2,hm2] at h2
             have hf:=fillQ_int p j
             unfold SP.encB at h2
             generalize SP.ub (fillQ p j)=u at h2 hf
             go_wp2_with fail
             go_quiet (fail)
             have HST1:=Hid.mkP (HST.out.drewN nq)
             have HLK1:=Hid.mkP (HLK.out.drewN nq)
             clear HST HLK hcs hcg h2 hf
             generalize wr.drewN nq=w7 at HST1 HLK1 ⊢
             go_wp2
             go_roundg (gk-1)
             case measure=>omega
             case rel=>exact ⟨j+1,by omega,rfl,HST1,HLK1⟩
            ·have hj3:¬ (j:Int)<80:=by omega
             go_wp2
             go_roundg (i-(p+1))
             case measure=>omega
             case rel=>exact ⟨p+1,by omega,rfl,HST⟩
        ·have hge:¬ (p:Int)<(i:Int):=by omega
         go_wp2
         go_ret
         exact ⟨rfl,HST.out.bl⟩
theorem pop0:∀ (f x:Nat),x<2^f→OC.popAux f x=0→x=0
 | 0,x,h,_=>by simp at h;exact h
 | f+1,x,h,e=>by
  rw[OC.popAux] at e
  have:=pop0 f (x/2) (by rw[Nat.pow_succ] at h;omega) (by omega)
  omega
theorem pop1:∀ (f x:Nat),x<2^f→OC.popAux f x=1→∃ k,k<f∧x=2^k
 | 0,x,_,e=>by rw[OC.popAux] at e;omega
 | f+1,x,h,e=>by
  rw[OC.popAux] at e
  rw[Nat.pow_succ] at h
  by_cases h2:x%2=1
  ·have:=pop0 f (x/2) (by omega) (by omega)
   exact ⟨0,by omega,by rw[Nat.pow_zero];omega⟩
  ·obtain ⟨k,h3,h4⟩:=pop1 f (x/2) (by omega) (by omega)
   exact ⟨k+1,by omega,by rw[Nat.pow_succ,← h4];omega⟩
def NoP (x:Nat):Prop:=∀ k,k<20→x≠2^k
theorem nop_or {x:Nat} (hx:x<18446744073709551616) (hn:NoP x):OC.popAux 64 x≠1∨524288<x:=by
 by_cases h:OC.popAux 64 x=1
 ·right
  obtain ⟨k,h1,h2⟩:=pop1 64 x hx h
  by_cases hk:k<20
  ·exact absurd h2 (hn k hk)
  ·have:2^20≤2^k:=Nat.pow_le_pow_right (by decide) (by omega)
   omega
 ·exact Or.inl h
theorem placen_c (x:Nat) (hx:x<18446744073709551616) (hn:NoP x) (w:World):Calls Tryz.prog 6 #[.int .u64 x] w fun e w'=>e=.returned (.tuple #[.int .i64 0,.int .i64 7])∧w'=w:=by
 have hO:=ones_c x hx w
 have h:=nop_or hx hn
 generalize OC.popAux 64 x=p at hO h
 clear hn
 by_cases hp:p=1
 ·have g1:(524288:Int)<(x:Int):=by omega
  subst hp
  clear h
  go_enter Tryz.func6,Tryz.ntmps6
  go_wp2_with fail
  refine hO.mono ?_
  rintro e w' ⟨rfl,rfl⟩
  clear hO
  go_wp2
  go_ret2
  exact ⟨rfl,rfl⟩
 ·have g1:¬ (p:Int)=1:=by omega
  have g2:((p:Int) == 1)=false:=by simpa using g1
  clear h
  go_enter Tryz.func6,Tryz.ntmps6
  go_wp2_with fail
  refine hO.mono ?_
  rintro e w' ⟨rfl,rfl⟩
  clear hO
  go_wp2
  go_ret2
  exact ⟨rfl,rfl⟩
theorem KeyF_c (sq:Option Addr) (n sc nb x:Nat) (hn:n≠32) (w:World):Calls Tryz.prog 4 #[.slice sq n sc,.int .u32 nb,.int .u64 x] w fun e w'=>e=.returned (.tuple #[.slice none 0 0,.int .i64 2])∧w'=w:=by
 have hS:=isSeedY_c sq n sc w
 rw[decide_eq_false hn] at hS
 clear hn
 go_enter Tryz.func4,Tryz.ntmps4
 go_wp2_with fail
 refine hS.mono ?_
 rintro e w' ⟨rfl,rfl⟩
 clear hS
 go_wp2
 go_ret2
 exact ⟨rfl,rfl⟩
theorem KeyN_c (sq:Option Addr) (sc nb x:Nat) (hx:x<18446744073709551616) (hn:NoP x) (w:World):Calls Tryz.prog 4 #[.slice sq 32 sc,.int .u32 nb,.int .u64 x] w fun e w'=>e=.returned (.tuple #[.slice none 0 0,.int .i64 7])∧w'=w:=by
 have hS:=isSeedY_c sq 32 sc w
 have hP:=placen_c x hx hn w
 clear hn hx
 go_enter Tryz.func4,Tryz.ntmps4
 go_wp2_with fail
 refine hS.mono ?_
 rintro e w' ⟨rfl,rfl⟩
 clear hS
 go_wp2_with fail
 refine hP.mono ?_
 rintro e w' ⟨rfl,rfl⟩
 clear hP
 go_wp2
 go_ret2
 exact ⟨rfl,rfl⟩
def kyB (N:Nat) (k:Bs) (nb x:Nat):Bs:=if k.size=32∧x∈(List.range 20).map (2 ^ ·) then bx (mkN N k nb (Nat.log2 x)) else #[]
def kyE (k:Bs) (x:Nat):Nat:=if k.size=32 then (if x∈(List.range 20).map (2 ^ ·) then 0 else 7) else 2
theorem nop_mem {x:Nat} (h:NoP x):¬ x∈(List.range 20).map (2 ^ ·):=fun hm=>by
 obtain ⟨k,h1,h2⟩:=List.mem_map.1 hm
 exact h k (List.mem_range.1 h1) h2.symm
theorem pow_mem {x k:Nat} (hk:k<20) (hx:x=2^k):x∈(List.range 20).map (2 ^ ·):=List.mem_map.2 ⟨k,List.mem_range.2 hk,hx.symm⟩
theorem pow_cases (x:Nat):(∃ k,k<20∧x=2^k)∨NoP x:=by
 by_cases h:∃ k,k<20∧x=2^k
 ·exact Or.inl h
 ·exact Or.inr fun k hk e=>h ⟨k,hk,e⟩
theorem log_pow {x k:Nat} (hx:x=2^k):Nat.log2 x=k:=by rw[hx,Nat.log2_two_pow]
theorem KeyA_c (O:Ord N) (sq:Option Addr) (sc:Nat) (k:Bs) (nb x:Nat) (hnb:nb<4294967296) (hx:x<18446744073709551616) (w:World) (hk:SP.PartOk w (.slice sq k.size sc) k.toList) (hT:TabX w) :
 Calls Tryz.prog 4 #[.slice sq k.size sc,.int .u32 nb,.int .u64 x] w (Ret fun e w'=>Below w.heap.size w w'∧∃ v,e=.tuple #[v,.int .i64 (kyE k x:Int)]∧Pt w' v (kyB N k nb x)):=by
 by_cases h32:k.size=32
 ·rcases pow_cases x with ⟨i,hi,hxi⟩|hn
  ·have e1:kyE k x=0:=by unfold kyE;rw[if_pos h32,if_pos (pow_mem hi hxi)]
   have e2:kyB N k nb x=bx (mkN N k nb i):=by unfold kyB;rw[if_pos ⟨h32,pow_mem hi hxi⟩,log_pow hxi]
   rw[e1,e2]
   rw[h32] at hk ⊢
   refine (Key_c O sq sc k nb i x hnb hi hxi w hk hT).mono ?_
   rintro e w' ⟨v,rfl,hb,g,rfl,h1,h2⟩
   exact ⟨_,rfl,hb,_,rfl,some ⟨g,0,none⟩,32,by rw[bx_size],Or.inr ⟨g,0,rfl,h1,h2⟩⟩
  ·have e1:kyE k x=7:=by unfold kyE;rw[if_pos h32,if_neg (nop_mem hn)]
   have e2:kyB N k nb x=#[]:=by unfold kyB;rw[if_neg (fun h=>nop_mem hn h.2)]
   rw[e1,e2,h32]
   refine (KeyN_c sq sc nb x hx hn w).mono ?_
   rintro e w' ⟨rfl,rfl⟩
   exact ⟨_,rfl,Below.refl _ _,_,rfl,none,0,rfl,Or.inl rfl⟩
 ·have e1:kyE k x=2:=by unfold kyE;rw[if_neg h32]
  have e2:kyB N k nb x=#[]:=by unfold kyB;rw[if_neg (fun h=>h32 h.1)]
  rw[e1,e2]
  refine (KeyF_c sq k.size sc nb x h32 w).mono ?_
  rintro e w' ⟨rfl,rfl⟩
  exact ⟨_,rfl,Below.refl _ _,_,rfl,none,0,rfl,Or.inl rfl⟩
theorem results_cY {P:Program} {fn:Func} {tmps:Array Value} {W:World} {k:Nat} {vs:List Value} {v:Value} (t u:Tmp) (T:TypeId) (hr:fn.results=#[.cell t T,.tmp u]) (h:Row W k vs) (ht:tmps[t]? = some (.pointer (some ⟨k,0,none⟩))) (hv:tmps[u]? = some v)
 (hu:(P.underlying T).map (·.isRow)=some true) (hi:(P.info? T).map (·.size)=some vs.length):(results fn tmps).run P W=.ok (.tuple #[.agg vs.toArray,v]) W:=by
 obtain ⟨d,hu,hd⟩:=Option.map_eq_some_iff.1 hu
 have h1:=run_loadVar_mid (P:=P) W k 0 T vs d h.2.1 hu hd hi
 have h2:tmps.getD t undef=.pointer (some ⟨k,0,none⟩):=by rw[Array.getD_eq_getD_getElem?,ht];rfl
 have h3:tmps.getD u undef=v:=by rw[Array.getD_eq_getD_getElem?,hv];rfl
 unfold results
 rw[hr]
 simp only[Array.mapM_eq_mapM_toList,List.mapM_cons,List.mapM_nil,h2,h3,asAddr]
 simp[Sem.run_bind,h1]
def pkB (P N:Nat) [NeZero P] (k:Bs) (nb i:Nat):Bs:=wr (EC.mul (mkN N k nb i) (gG P))
theorem row_blk {W W':World} {k:Nat} {vs:List Value} (h:Row W k vs) (hs:W.heap.size≤W'.heap.size) (e:W'.heap[k]? = W.heap[k]?):Row W' k vs:=
 ⟨Nat.lt_of_lt_of_le h.1 hs,fun j v hj=>by rw[World.cell?_of_block (a:=⟨k,0+j,none⟩) e];exact h.2.1 j v hj,fun j hj=>by rw[World.cell?_of_block (a:=⟨k,0+j,none⟩) e,World.frozen?_of_block (a:=⟨k,0+j,none⟩) e];exact h.2.2 j hj⟩
theorem row_set {W:World} {k:Nat} {vs:List Value} (h:Row W k vs) (j:Nat) (hj:j<vs.length) (v:Value):Row (W.setCell ⟨k,j,none⟩ v) k (vs.set j v):=by
 have hcj:∃ u,W.cell? ⟨k,j,none⟩=some u:=⟨_,h.cell hj⟩
 obtain ⟨u,hcj⟩:=hcj
 have hce:∀ i u,(vs.set j v)[i]? = some u→(W.setCell ⟨k,j,none⟩ v).cell? ⟨k,0+i,none⟩=some u:=fun i u hi=>by
  rw[Nat.zero_add]
  by_cases e:i=j
  ·subst e
   rw[List.getElem?_set_self hj] at hi
   obtain rfl:=Option.some.inj hi
   exact World.cell?_setCell_same _ _ _ hcj
  ·rw[List.getElem?_set_ne (fun x=>e x.symm)] at hi
   rw[World.cell?_setCell_other _ _ _ _ (by intro x;injection x with _ x _;exact e x.symm)]
   have:=h.2.1 i u hi
   rw[Nat.zero_add] at this
   exact this
 refine ⟨by rw[World.size_setCell];exact h.1,hce,fun i hi=>?_⟩
 rw[List.length_set] at hi
 refine ⟨by rw[hce i ((vs.set j v)[i]'(by rw[List.length_set];exact hi)) (List.getElem?_eq_getElem _)];rfl,?_⟩
 rw[World.frozen?_setCell]
 exact (h.2.2 i hi).2
theorem ptBytesK_c {a:Bs} (ha:a.size=33) (w:World):Calls Tryz.prog 20 #[pvl a] w (Ret fun e w'=>Below w.heap.size w w'∧∃ k,e=.slice (some ⟨k,0,none⟩) 33 33∧w.heap.size≤k∧k<w'.heap.size∧Holds encB w' k 0 a):=by
 have B1:=Hid.mk' (boxCP ha w)
 obtain ⟨w1,hw1⟩:∃ w1,Hid (w.alloc (.cells (bl33 a).toArray 52)=w1):=⟨_,rfl⟩
 rw[hw1.out] at B1
 have K:Hid (Row w1 w.heap.size (bl33 a)∧Below w.heap.size w w1):=by rw[← hw1.out];exact ⟨row_new w _ _,below1 w _⟩
 obtain ⟨va,hva⟩:∃ v,Hid (pvl a=v):=⟨_,rfl⟩
 have B1':Hid ((Instr.box 52 va).run Tryz.prog w=.ok (.pointer (some ⟨w.heap.size,0,none⟩)) w1):=by rw[← hva.out];exact B1
 rw[hva.out]
 have hs:=slCP w.heap.size
 clear B1 hw1
 go_enter Tryz.func20,Tryz.ntmps20
 go_wp2_with (first|(refine wpList_box (u:=va) (v:=.pointer (some ⟨w.heap.size,0,none⟩)) (w':=w1) rfl 52 (.tmp 0) rfl ?_ ?_ ?_;rfl;exact B1'.out))
 go_ret
 exact ⟨_,rfl,K.out.2,w.heap.size,rfl,Nat.le_refl _,K.out.1.1,row_holds K.out.1⟩
structure Pub (w W:World) (g:Nat) (S:Nat→Bs) (j:Nat) (C:List Value) (K:Nat→Nat):Prop where
 bl:Below w.heap.size w W
 row:Row W g C
 len:C.length=20
 el:∀ i,i<j→C[i]? = some (.slice (some ⟨K i,0,none⟩) 33 33)∧g<K i∧K i<W.heap.size∧(S i).size=33∧Holds encB W (K i) 0 (S i)
 up:∀ i i',i<i'→i'<j→K i<K i'
 ks:Row W w.heap.size [.slice none 0 0,.slice none 0 0]
 gk:g=w.heap.size+1
theorem Pub.below {w W W':World} {g j:Nat} {S:Nat→Bs} {C:List Value} {K:Nat→Nat} (h:Pub w W g S j C K) (hb:Below W.heap.size W W'):Pub w W' g S j C K:=
 ⟨h.bl.trans (hb.mono h.bl.size),h.row.below hb,h.len,fun i hi=>by
  obtain ⟨h1,h2,h3,h4,h5⟩:=h.el i hi
  exact ⟨h1,h2,Nat.lt_of_lt_of_le h3 hb.size,h4,Holds.kept h5 (hb.block _ h3)⟩,h.up,h.ks.below hb,h.gk⟩
theorem Pub.put {w W W0:World} {g j k:Nat} {S:Nat→Bs} {C:List Value} {K:Nat→Nat} (h:Pub w W0 g S j C K) (hb:Below W0.heap.size W0 W) (hj:j<20) (hk1:W0.heap.size≤k) (hk2:k<W.heap.size) (hs:(S j).size=33) (hH:Holds encB W k 0 (S j)) :
 Pub w (W.setCell ⟨g,j,none⟩ (.slice (some ⟨k,0,none⟩) 33 33)) g S (j+1) (C.set j (.slice (some ⟨k,0,none⟩) 33 33)) (fun i=>if i=j then k else K i):=by
 have hP:=h.below hb
 have hgW:g<W0.heap.size:=h.row.1
 have hoth:∀ y,y≠g→(W.setCell ⟨g,j,none⟩ (.slice (some ⟨k,0,none⟩) 33 33)).heap[y]? = W.heap[y]?:=fun y hy=>heap_setCell_other W ⟨g,j,none⟩ y _ hy
 have hsz:(W.setCell ⟨g,j,none⟩ (.slice (some ⟨k,0,none⟩) 33 33)).heap.size=W.heap.size:=World.size_setCell _ _ _
 refine ⟨hP.bl.setCell (p:=⟨g,j,none⟩) (by show w.heap.size≤g;rw[h.gk];omega) _,row_set hP.row j (by rw[h.len];exact hj) _,by rw[List.length_set];exact h.len,fun i hi=>?_,fun i i' h1 h2=>?_,?_,h.gk⟩
 ·rw[hsz]
  by_cases hij:i=j
  ·subst hij
   simp only[if_true]
   exact ⟨by rw[List.getElem?_set_self (by rw[h.len];exact hj)],by omega,hk2,hs,Holds.kept hH (hoth _ (by omega))⟩
  ·obtain ⟨h1,h2,h3,h4,h5⟩:=hP.el i (by omega)
   simp only[if_neg hij]
   exact ⟨by rw[List.getElem?_set_ne (fun e=>hij e.symm)];exact h1,h2,h3,h4,Holds.kept h5 (hoth _ (by omega))⟩
 ·by_cases hij:i'=j
  ·subst hij
   have h3:=(h.el i h1).2.2.1
   simp only[if_true,if_neg (Nat.ne_of_lt h1)]
   omega
  ·have hij2:i≠j:=by omega
   simp only[if_neg hij,if_neg hij2]
   exact h.up i i' h1 (by omega)
 ·exact row_blk hP.ks (by rw[hsz];exact Nat.le_refl _) (hoth _ (by rw[h.gk];omega))
def nil20:List Value:=List.replicate 20 (.slice none 0 0)
theorem mk20 (w:World):(Instr.makeSlice 33 (.int .i64 20) (.int .i64 20)).run Tryz.prog w=.ok (.slice (some ⟨w.heap.size,0,none⟩) 20 20) (w.alloc (.cells nil20.toArray 24)):=by kernel_rfl
theorem uKS:(Tryz.prog.underlying 35).map (·.isRow)=some true:=by kernel_rfl
theorem iKS:(Tryz.prog.info? 35).map (·.size)=some 2:=by kernel_rfl
theorem zKS:∀ w:World,(zeroValue 35).run Tryz.prog w=.ok (.agg #[.slice none 0 0,.slice none 0 0]) w:=fun _=>by kernel_rfl
theorem idx20 (g j:Nat) (hj:j<20) (w:World):(Instr.indexAt 33 (.slice (some ⟨g,0,none⟩) 20 20) (.int .i64 j)).run Tryz.prog w=.ok (.pointer (some ⟨g,j,none⟩)) w:=by
 have h1:¬ (j:Int)<0:=by omega
 have h2:(j:Int)<20:=by omega
 go_simp
theorem one2 (a b:Value) (ha:a.oneCell'=true) (hb:b.oneCell'=true):(#[a,b]:Array Value).all (·.oneCell')=true:=
 Go.all_oneCell_toArray (cs:=[a,b]) fun v hv=>by
  rcases List.mem_cons.1 hv with rfl|hv
  ·exact ha
  ·rcases List.mem_cons.1 hv with rfl|hv
   ·exact hb
   ·cases hv
theorem round_calls (C:Fld P) (O:Ord N) (sq:Option Addr) (sc:Nat) (k:Bs) (nb:Nat) (hnb:nb<4294967296) (j:Nat) (hj:j<20):∃ (vG vy vB:Value) (T:List Value),
 (∀ W:World,Calls Tryz.prog 17 #[] W (Ret fun e w'=>Below W.heap.size W w'∧e=vG)) ∧
 (∀ W:World,SP.PartOk W (.slice sq 32 sc) k.toList→Calls Tryz.prog 12 #[.slice sq 32 sc,.int .u32 nb,.int .i64 j] W (Ret fun e w'=>Below W.heap.size W w'∧e=vy)) ∧
 (∀ W:World,Calls Tryz.prog 18 #[vG,vy] W (Ret fun e w'=>Below W.heap.size W w'∧∃ k,e=.slice (some ⟨k,0,none⟩) 1 1∧Row w' k T)) ∧
 (∀ (g2:Nat) (W:World),Row W g2 T→Calls Tryz.prog 19 #[.slice (some ⟨g2,0,none⟩) 1 1] W (Ret fun e w'=>Below W.heap.size W w'∧e=vB)) ∧
 (∀ W:World,Calls Tryz.prog 20 #[vB] W (Ret fun e w'=>Below W.heap.size W w'∧∃ k0,e=.slice (some ⟨k0,0,none⟩) 33 33∧W.heap.size≤k0∧k0<w'.heap.size∧Holds encB w' k0 0 (pkB P N k nb j))):=by
 refine ⟨pvl (wr (gG P)),nv (mkN N k nb j),pvl (pkB P N k nb j),wn (mkN N k nb j)++bl33 (wr (gG P)),fun W=>gen_c C W,fun W h=>mintKey_c O sq 32 sc k nb j hnb hj W h,fun W=>(ptTimes_c (wr (gG P)) (wr_size _) (mkN N k nb j) W).mono ?_,fun g2 W h=>one_point C O (mkN_lt O k nb j) (gG_on C) W h,fun W=>ptBytesK_c (wr_size _) W⟩
 rintro e w' ⟨v,rfl,hb,k5,rfl,-,hR⟩
 exact ⟨_,rfl,hb,k5,rfl,hR⟩
def pkL (P N:Nat) [NeZero P] (k:Bs) (nb:Nat):List (List UInt8):=(List.range 20).map fun i=>(pkB P N k nb i).toList
theorem pkB_size (k:Bs) (nb i:Nat):(pkB P N k nb i).size=33:=wr_size _
def nmB (P N:Nat) [NeZero P] (k:Bs) (nb:Nat):Bs:=(SP.tagL [107,101,121,115,101,116] (pkL P N k nb)).extract 0 8
def SetR (P N:Nat) [NeZero P] (w:World) (k:Bs) (nb:Nat) (e:Value) (w':World):Prop:=Below w.heap.size w w'∧∃ (r g:Nat) (C:List Value) (K:Nat→Nat),e=.tuple #[.agg #[.slice (some ⟨r,0,none⟩) 8 8,.slice (some ⟨g,0,none⟩) 20 20],.int .i64 0]∧Row w' g C∧C.length=20∧w.heap.size≤g∧g<r∧r<w'.heap.size∧(nmB P N k nb).size=8∧Holds encB w' r 0 (nmB P N k nb)∧(∀ i,i<20→C[i]? = some (.slice (some ⟨K i,0,none⟩) 33 33)∧g<K i∧K i<r∧Holds encB w' (K i) 0 (pkB P N k nb i))∧∀ i i',i<i'→i'<20→K i<K i'
theorem holds_cut {W:World} {r:Nat} {T:Bs} (hT:T.size=32) (h:Holds encB W r 0 T):(T.extract 0 8).size=8∧Holds encB W r 0 (T.extract 0 8):=by
 have hs:(T.extract 0 8).size=8:=by rw[Array.size_extract];omega
 refine ⟨hs,fun j hj=>?_⟩
 rw[hs] at hj
 have h1:=h j (by omega)
 rw[getElem!_pos (T.extract 0 8) j (by omega),Array.getElem_extract]
 rw[getElem!_pos T j (by omega)] at h1
 simpa using h1
theorem Set_c (C:Fld P) (O:Ord N) (sq:Option Addr) (sc:Nat) (k:Bs) (nb:Nat) (hnb:nb<4294967296) (w:World) (hk:SP.PartOk w (.slice sq 32 sc) k.toList) :
 Calls Tryz.prog 8 #[.slice sq 32 sc,.int .u32 nb] w (Ret (SetR P N w k nb)):=by
 obtain ⟨w1,hw1⟩:∃ w1,Hid (w.alloc (.cells #[.slice none 0 0,.slice none 0 0] 35)=w1):=⟨_,rfl⟩
 obtain ⟨w2,hw2⟩:∃ w2,Hid (w1.alloc (.cells nil20.toArray 24)=w2):=⟨_,rfl⟩
 have e1:w1.heap.size=w.heap.size+1:=by rw[← hw1.out,World.size_alloc]
 have hb01:Below w.heap.size w w1:=by rw[← hw1.out];exact below1 w _
 have hb12:Below w1.heap.size w1 w2:=by rw[← hw2.out];exact below1 w1 _
 have HK:=Hid.mk2 hk
 have K2:Hid (Pub w w2 (w.heap.size+1) (pkB P N k nb) 0 nil20 (fun _=>0)):=by
  refine ⟨hb01.trans (hb12.mono hb01.size),?_,by decide,fun i hi=>absurd hi (Nat.not_lt_zero _),fun i i' _ hi=>absurd hi (Nat.not_lt_zero _),?_,rfl⟩
  ·rw[← hw2.out,← e1];exact row_new w1 _ _
  ·have q1:Row w1 w.heap.size [.slice none 0 0,.slice none 0 0]:=by rw[← hw1.out];exact row_new w _ _
   exact q1.below hb12
 have hS:=isSeedY_c sq 32 sc w1
 have hmk:=mk20 w1
 have HRC:=Hid.mk2 (round_calls C O sq sc k nb hnb)
 have zk:=zKS
 rw[hw2.out,e1] at hmk
 clear hb01 hb12 hk C O
 go_enter Tryz.func8,Tryz.ntmps8
 go_wp2_with fail
 rw[hw1.out]
 refine hS.mono ?_
 rintro e w' ⟨rfl,rfl⟩
 clear hS hw1
 go_wp2_with fail
 have Hgg:Hid (∃ g,g=w.heap.size+1):=⟨_,rfl⟩
 generalize hgg:w.heap.size+1=g at K2 ⊢
 have HG:=Hid.mk2 hgg
 clear hgg hmk hw2 e1 Hgg
 go_loopg [7,15] 20 (fun gk s7 s15 wr=>∃ (j:Nat) (L:List Value) (K:Nat→Nat),j+gk=20∧s15=.int .i64 j∧Hid (Pub w wr g (pkB P N k nb) j L K))
 case atStart=>exact ⟨0,nil20,_,by omega,rfl,K2⟩
 case round =>
  clear K2
  obtain ⟨j,L,KK,hj,rfl,KM⟩:=hrel
  by_cases hj20:j<20
  ·have hj':(j:Int)<20:=by omega
   obtain ⟨vG,vy,vB,T,f1,f2,f3,f4,f5⟩:=HRC.out j hj20
   have HGen:=Hid.mk2 (f1 wr)
   have HMk:=Hid.mk2 f2
   have HT:=Hid.mk2 f3
   have HOne:=Hid.mk2 f4
   have HBy:=Hid.mk2 f5
   clear f1 f2 f3 f4 f5
   have hidx:=idx20 g j hj20
   go_wp2_with fail
   refine HGen.out.mono ?_
   rintro e w3 ⟨v3,rfl,hb3,rfl⟩
   have K3:=Hid.mk2 hb3
   clear hb3 HGen
   go_wp2_with fail
   refine (HMk.out w3 (HK.out.below (KM.out.bl.trans (K3.out.mono KM.out.bl.size)))).mono ?_
   rintro e w4 ⟨v4,rfl,hb4,rfl⟩
   have K4:Hid (Below wr.heap.size wr w4):=K3.out.trans (hb4.mono K3.out.size)
   clear hb4 HMk K3
   go_wp2_with fail
   refine (HT.out w4).mono ?_
   rintro e w5 ⟨v5,rfl,hb5,k5,rfl,hR5⟩
   have K5:Hid (Below wr.heap.size wr w5∧Row w5 k5 T):=⟨K4.out.trans (hb5.mono K4.out.size),hR5⟩
   clear hb5 hR5 HT K4
   go_wp2_with fail
   refine (HOne.out k5 w5 K5.out.2).mono ?_
   rintro e w6 ⟨v6,rfl,hb6,rfl⟩
   have K6:Hid (Below wr.heap.size wr w6):=K5.out.1.trans (hb6.mono K5.out.1.size)
   clear hb6 HOne K5
   go_wp2_with fail
   refine (HBy.out w6).mono ?_
   rintro e w7 ⟨v7,rfl,hb7,k7,rfl,hk71,hk72,hE7⟩
   have hb07:Below wr.heap.size wr w7:=K6.out.trans (hb7.mono K6.out.size)
   have hP7:Pub w w7 g (pkB P N k nb) j L KK:=KM.out.below hb07
   have hz7:w7.frozen? ⟨g,j,none⟩=false:=by
    have:=(hP7.row.2.2 j (by rw[hP7.len];exact hj20)).2
    rw[Nat.zero_add] at this
    exact this
   obtain ⟨u7,hu7⟩:∃ u,w7.cell? ⟨g,j,none⟩=some u:=⟨_,hP7.row.cell (j:=j) (by rw[hP7.len];exact hj20)⟩
   have KN:Hid (Pub w (w7.setCell ⟨g,j,none⟩ (.slice (some ⟨k7,0,none⟩) 33 33)) g (pkB P N k nb) (j+1) (L.set j (.slice (some ⟨k7,0,none⟩) 33 33)) (fun i=>if i=j then k7 else KK i)):=KM.out.put hb07 hj20 (Nat.le_trans K6.out.size hk71) hk72 (pkB_size _ _ _) hE7
   clear hk71 hk72 hE7 hb07
   clear hb7 hP7 KM K6 HBy
   go_wp2
   go_roundg (gk-1)
   case measure=>omega
   case rel=>exact ⟨j+1,_,_,by omega,rfl,KN⟩
  ·have hj':¬ (j:Int)<20:=by omega
   obtain rfl:j=20:=by omega
   have hpl:(pkL P N k nb).length=20:=by unfold pkL;rw[List.length_map,List.length_range]
   have hTg:=SP.Tag_any ⟨#[107,101,121,115,101,116]⟩ (some ⟨g,0,none⟩) 20 (pkL P N k nb) wr (by decide) (by rw[hpl];decide) (Or.inr ⟨g,0,rfl,fun i hi=>?_⟩)
   rotate_left
   ·rw[hpl] at hi
    obtain ⟨h1,h2,h3,h4,h5⟩:=KM.out.el i hi
    refine ⟨_,KM.out.row.2.1 i _ h1,?_⟩
    have e:(pkL P N k nb)[i]! = (pkB P N k nb i).toList:=by
     rw[getElem!_pos _ i (by rw[hpl];exact hi)]
     unfold pkL
     rw[List.getElem_map,List.getElem_range]
    rw[e]
    exact ⟨some ⟨KK i,0,none⟩,KK i,0,33,pkB P N k nb i,by rw[h4],rfl,by omega,by omega,Or.inr ⟨rfl,h5⟩⟩
   rw[hpl] at hTg
   have K3:=KM
   clear KM HRC HK
   go_wp2_with fail
   refine hTg.mono ?_
   rintro e w4 ⟨r,rfl,hr,hb4,hH4⟩
   have K4:Hid (Pub w w4 g (pkB P N k nb) 20 L KK∧wr.heap.size≤r∧(∀ i,i<20→KK i<wr.heap.size)∧g<wr.heap.size∧Holds encB w4 r 0 (SP.tagL [107,101,121,115,101,116] (pkL P N k nb))):=⟨K3.out.below hb4,hr,fun i hi=>(K3.out.el i hi).2.2.1,K3.out.row.1,hH4⟩
   have hsl:∀ W:World,(Instr.sliceAt 24 (.slice (some ⟨r,0,none⟩) 32 32) none (some (.int .i64 8)) (some (.int .i64 8))).run Tryz.prog W=.ok (.slice (some ⟨r,0,none⟩) 8 8) W:=fun W=>by kernel_rfl
   clear hTg hr hb4 hH4 K3
   obtain ⟨w5,hw5⟩:∃ w5,Hid (w4.setCells w.heap.size 0 [.slice (some ⟨r,0,none⟩) 8 8,.slice (some ⟨g,0,none⟩) 20 20]=w5):=⟨_,rfl⟩
   have K5:Hid (Row w5 w.heap.size [.slice (some ⟨r,0,none⟩) 8 8,.slice (some ⟨g,0,none⟩) 20 20]∧SetR P N w k nb (.tuple #[.agg #[.slice (some ⟨r,0,none⟩) 8 8,.slice (some ⟨g,0,none⟩) 20 20],.int .i64 0]) w5):=by
    rw[← hw5.out]
    obtain ⟨k4,hr4,hK4,hg4,hT4⟩:=K4.out
    have hb5:Below w.heap.size w (w4.setCells w.heap.size 0 [.slice (some ⟨r,0,none⟩) 8 8,.slice (some ⟨g,0,none⟩) 20 20]):=RG.below_setCells (Nat.le_refl _) _ _ _ k4.bl
    have hoth:∀ y,y≠w.heap.size→(w4.setCells w.heap.size 0 [.slice (some ⟨r,0,none⟩) 8 8,.slice (some ⟨g,0,none⟩) 20 20]).heap[y]? = w4.heap[y]?:=fun y hy=>RG.setCells_other _ _ _ _ _ hy
    have hgw:=k4.gk
    obtain ⟨c1,c2⟩:=holds_cut (SP.tagL_size _ _) (Holds.kept hT4 (hoth r (by omega)))
    refine ⟨k4.ks.put rfl,hb5,r,g,L,KK,rfl,k4.row.other (by omega),k4.len,by omega,by omega,?_,c1,c2,fun i hi=>?_,k4.up⟩
    ·rw[RG.setCells_size]
     exact Holds.lt hT4 (by rw[SP.tagL_size];omega)
    ·obtain ⟨h1,h2,h3,h4,h5⟩:=k4.el i hi
     have:=hK4 i hi
     exact ⟨h1,h2,by omega,Holds.kept h5 (hoth _ (by omega))⟩
   go_wp2_with (refine wpList_store_mid rfl 35 _ _ rfl w.heap.size 0 #[.slice (some ⟨r,0,none⟩) 8 8,.slice (some ⟨g,0,none⟩) 20 20] ?_ ?_ ?_ ?_ ?_ ?_;rfl;rfl;exact K4.out.1.ks.2.2;exact iKS;exact one2 _ _ rfl rfl;rw[show (#[Value.slice (some ⟨r,0,none⟩) 8 8,.slice (some ⟨g,0,none⟩) 20 20]:Array Value).toList=[.slice (some ⟨r,0,none⟩) 8 8,.slice (some ⟨g,0,none⟩) 20 20] from rfl,hw5.out])
   refine bodyPost_ret (results_cY 4 5 35 rfl K5.out.1 rfl rfl uKS iKS) rfl ?_
   exact ⟨_,rfl,K5.out.2⟩
theorem SetF_c (sq:Option Addr) (n sc nb:Nat) (hn:n≠32) (w:World):Calls Tryz.prog 8 #[.slice sq n sc,.int .u32 nb] w (Ret fun e w'=>Below w.heap.size w w'∧e=.tuple #[.agg #[.slice none 0 0,.slice none 0 0],.int .i64 2]):=by
 obtain ⟨w1,hw1⟩:∃ w1,Hid (w.alloc (.cells #[.slice none 0 0,.slice none 0 0] 35)=w1):=⟨_,rfl⟩
 have hS:=isSeedY_c sq n sc w1
 rw[decide_eq_false hn] at hS
 have zk:=zKS
 have K1:Hid (Row w1 w.heap.size [.slice none 0 0,.slice none 0 0]∧Below w.heap.size w w1):=by rw[← hw1.out];exact ⟨row_new w _ _,below1 w _⟩
 clear hn
 go_enter Tryz.func8,Tryz.ntmps8
 go_wp2_with fail
 rw[hw1.out]
 refine hS.mono ?_
 rintro e w' ⟨rfl,rfl⟩
 clear hS hw1
 obtain ⟨w5,hw5⟩:∃ w5,Hid (w'.setCells w.heap.size 0 [.slice none 0 0,.slice none 0 0]=w5):=⟨_,rfl⟩
 have K5:Hid (Row w5 w.heap.size [.slice none 0 0,.slice none 0 0]∧Below w.heap.size w w5):=by rw[← hw5.out];exact ⟨K1.out.1.put rfl,RG.below_setCells (Nat.le_refl _) _ _ _ K1.out.2⟩
 go_wp2_with (refine wpList_store_mid rfl 35 _ _ rfl w.heap.size 0 #[.slice none 0 0,.slice none 0 0] ?_ ?_ ?_ ?_ ?_ ?_;rfl;rfl;exact K1.out.1.2.2;exact iKS;exact one2 _ _ rfl rfl;rw[show (#[Value.slice none 0 0,.slice none 0 0]:Array Value).toList=[.slice none 0 0,.slice none 0 0] from rfl,hw5.out])
 refine bodyPost_ret (results_cY 4 5 35 rfl K5.out.1 rfl rfl uKS iKS) rfl ?_
 exact ⟨_,rfl,K5.out.2,rfl⟩
theorem framesT (l x y:List UInt8):(SP.framesL l [x,y]).length=l.length+x.length+y.length+12:=by
 unfold SP.framesL
 simp[SP.frameL_length]
 omega
def ksB (N:Nat) (S:Nat→Nat) (k:Bs) (n:Nat) (l:List UInt8):Bs:=if k.size=32∧n≤16 then bx (kSc N (derH S k n l)) else #[]
theorem rfour_c (n:Nat) (hn:n<4294967296) (w:World):Calls Tryz.prog 54 #[.int .u32 n] w (Ret fun e w'=>Below w.heap.size w w'∧e=.string ⟨num4 n⟩):=by
 have b00:(n:Int)/16777216%256=SP.ub (SP.lenB n 16777216):=SP.lenB_int n 16777216
 have b0:(n:Int)/16777216=SP.ub (SP.lenB n 16777216):=by omega
 clear b00
 have b1:(n:Int)/65536%256=SP.ub (SP.lenB n 65536):=SP.lenB_int n 65536
 have b2:(n:Int)/256%256=SP.ub (SP.lenB n 256):=SP.lenB_int n 256
 have b3:(n:Int)%256=SP.ub (SP.lenB n 1):=SP.lenB_one n
 have h4:=SP.holds_four w (SP.lenB n 16777216) (SP.lenB n 65536) (SP.lenB n 256) (SP.lenB n 1)
 have hcv:=SP.conv_str Tryz.prog 24 9 5 slice22 int5 str9 _ _ 0 4 4 _ h4 rfl
 have HN:Hid (num4 n=#[SP.lenB n 16777216,SP.lenB n 65536,SP.lenB n 256,SP.lenB n 1]):=rfl
 rw[HN.out]
 generalize SP.lenB n 16777216=x0 at *
 generalize SP.lenB n 65536=x1 at *
 generalize SP.lenB n 256=x2 at *
 generalize SP.lenB n 1=x3 at *
 have hb0:Below w.heap.size w (w.alloc (.cells #[.int .u8 (SP.ub x0),.int .u8 (SP.ub x1),.int .u8 (SP.ub x2),.int .u8 (SP.ub x3)] 5)):=(Below.refl _ _).alloc (Nat.le_refl _) _
 clear h4 HN
 go_enter Tryz.func54,Tryz.ntmps54
 go_wp2
 go_ret
 exact ⟨_,rfl,hb0,rfl⟩
theorem rtag2 (lab s t:ByteArray) (hlab:lab.size≤16) (hs:s.size≤65536) (ht:t.size≤65536) (w:World) :
 Calls Tryz.prog 25 #[.string lab,.slice (some ⟨w.heap.size,0,none⟩) 2 2] (w.alloc (.cells #[.string s,.string t] 9)) fun e w'=>e=.returned (.string ⟨SP.tagL lab.data.toList [s.data.toList,t.data.toList]⟩)∧Below w.heap.size w w':=by
 have hM':=RG.Made.alloc w [.string s,.string t] 9
 have hl:s.data.toList.length=s.size:=by rw[Array.length_toList];rfl
 have hl2:t.data.toList.length=t.size:=by rw[Array.length_toList];rfl
 have hl3:lab.data.toList.length=lab.size:=by rw[Array.length_toList];rfl
 refine (SP.refTag_any lab (some ⟨w.heap.size,0,none⟩) 2 [s,t] _ (by omega) (Nat.le_of_ble_eq_true rfl) (Or.inr ⟨_,_,rfl,fun j hj=>?_⟩) (fun j hj=>?_) ?_).mono ?_
 ·have hj2:j=0∨j=1:=by simp at hj;omega
  rcases hj2 with rfl|rfl
  ·exact hM'.range 0 _ rfl
  ·exact hM'.range 1 _ rfl
 ·have hj2:j=0∨j=1:=by simp at hj;omega
  rcases hj2 with rfl|rfl
  ·show s.size≤_;omega
  ·show t.size≤_;omega
 ·show (SP.framesL lab.data.toList [s.data.toList,t.data.toList]).length≤_
  rw[framesT,hl,hl2,hl3]
  omega
 ·rintro e w2 ⟨rfl,hb⟩
  exact ⟨rfl,hM'.bel.trans (hb.mono hM'.bel.size)⟩
theorem num4_le (n:Nat):(num4 n).size≤65536:=Nat.le_of_ble_eq_true rfl
theorem down_le (S:Nat→Nat) (k:Bs) (h:k.size≤65536):∀ j,(downH S k j).size≤65536
 | 0=>h
 | j+1=>by rw[downH];unfold childH;rw[SP.tagL_size];decide
theorem rDerive_c (s lab:ByteArray) (hlab:lab.size≤65536) (q:Option Addr) (n c:Nat) (S:Nat→Nat) (w:World) (hn:n≤1048576) (hN:NumsK w q n S) :
 Calls Tryz.prog 29 #[.string s,.string lab,.slice q n c] w (Ret fun e w'=>Below w.heap.size w w'∧e=.tuple #[.string ⟨kdB S s.data n lab.data.toList⟩,.int .i64 (kdE s.data n:Int)]):=by
 by_cases h1:s.data.size=32
 ·have g1:(s.size:Int)=32:=by show ((s.data.size:Nat):Int)=32;omega
  by_cases h2:n≤16
  ·have g2:¬ (16:Int)<(n:Int):=by omega
   have hE:kdE s.data n=0:=by unfold kdE;rw[if_pos h1,if_pos h2]
   have hB:kdB S s.data n lab.data.toList=derH S s.data n lab.data.toList:=by unfold kdB;rw[if_pos h1,if_pos h2]
   rw[hE,hB]
   have HN:Hid (NumsK w q n S∧s.data.size=32):=⟨hN,h1⟩
   clear hN hE hB h1
   go_enter Tryz.func29,Tryz.ntmps29
   go_wp2
   go_loopg [8,9] n (fun g s8 s9 W=>∃ (i:Nat) (k:Bs),i+g=n∧s8=.string ⟨k⟩∧s9=.int .i64 i∧Hid (Below w.heap.size w W∧k=downH S s.data i))
   case atStart=>exact ⟨0,s.data,by omega,rfl,rfl,Below.refl _ _,rfl⟩
   case round =>
    obtain ⟨i,k,him,rfl,rfl,HB⟩:=hrel
    have hk:k.size≤65536:=by rw[HB.out.2];exact down_le S s.data (by have:=HN.out.2;omega) i
    by_cases hi:i<n
    ·have hi':(i:Int)<(n:Int):=by omega
     obtain ⟨gg,oo,rfl,hgg,hc⟩:=HN.out.1.2 (by omega)
     have hv:wr.cell? ⟨gg,oo+i,none⟩=some (.int .u32 (S i:Int)):=by rw[HB.out.1.cell (p:=⟨gg,oo+i,none⟩) hgg];exact hc i hi
     have hix:∀ w:World,(Instr.indexAt 68 (.slice (some ⟨gg,oo,none⟩) n c) (.int .i64 i)).run Tryz.prog w=.ok (.pointer (some ⟨gg,oo+i,none⟩)) w:=fun w=>by
      have h1:¬ (i:Int)<0:=by omega
      have h2:(i:Int)<(n:Int):=by omega
      go_simp
     have hnu:=rfour_c (S i) (HN.out.1.1 i hi) wr
     have HD:Hid (SP.tagL [99,104,105,108,100] [k.toList,(num4 (S i)).toList]=downH S s.data (i+1)):=by show _=_;rw[HB.out.2];rfl
     have HT:=Hid.mk2 (fun w=>rtag2 ⟨#[99,104,105,108,100]⟩ ⟨k⟩ ⟨num4 (S i)⟩ (by decide) hk (num4_le _) w)
     clear hc hgg hk
     generalize S i=x at hv hnu HD HT
     go_wp2_with fail
     refine hnu.mono ?_
     rintro e w2 ⟨v2,rfl,hb2,rfl⟩
     have K2:Hid (Below w.heap.size w w2):=HB.out.1.trans (hb2.mono HB.out.1.size)
     have hT:=HT.out w2
     clear hb2 hnu HB HT
     generalize num4 x=y at hT HD ⊢
     go_wp2_with fail
     refine hT.mono ?_
     rintro e w3 ⟨rfl,hb3⟩
     have K3:Hid (Below w.heap.size w w3):=K2.out.trans (hb3.mono K2.out.size)
     clear hb3 hT K2
     go_wp2
     go_roundg (gk-1)
     case measure=>omega
     case rel=>exact ⟨i+1,SP.tagL [99,104,105,108,100] [k.toList,y.toList],by omega,rfl,rfl,K3.out,HD.out⟩
    ·have hi':¬ (i:Int)<(n:Int):=by omega
     obtain rfl:i=n:=by omega
     have HT:=Hid.mk2 (rtag2 ⟨#[107,101,121]⟩ ⟨k⟩ lab (by decide) hk hlab wr)
     have HR:Hid (SP.tagL [107,101,121] [k.toList,lab.data.toList]=derH S s.data i lab.data.toList):=by show _=_;rw[HB.out.2];rfl
     have K1:=Hid.mk2 HB.out.1
     clear hk HB
     go_wp2_with fail
     refine HT.out.mono ?_
     rintro e w3 ⟨rfl,hb3⟩
     have K3:Hid (Below w.heap.size w w3):=K1.out.trans (hb3.mono K1.out.size)
     clear hb3 HT K1
     go_wp2
     go_ret2
     exact ⟨_,rfl,K3.out,by rw[← HR.out];rfl⟩
  ·have g2:(16:Int)<(n:Int):=by omega
   have hE:kdE s.data n=1:=by unfold kdE;rw[if_pos h1,if_neg h2]
   have hB:kdB S s.data n lab.data.toList=#[]:=by unfold kdB;rw[if_pos h1,if_neg h2]
   rw[hE,hB]
   clear hN h1
   go_enter Tryz.func29,Tryz.ntmps29
   go_wp2
   go_ret2
   exact ⟨_,rfl,Below.refl _ _,rfl⟩
 ·have g1:¬ (s.size:Int)=32:=by show ¬ ((s.data.size:Nat):Int)=32;omega
  have g0:((s.size:Int) == 32)=false:=by simpa using g1
  have hE:kdE s.data n=2:=by unfold kdE;rw[if_neg h1]
  have hB:kdB S s.data n lab.data.toList=#[]:=by unfold kdB;rw[if_neg h1]
  rw[hE,hB]
  clear hN h1
  go_enter Tryz.func29,Tryz.ntmps29
  go_wp2
  go_ret2
  exact ⟨_,rfl,Below.refl _ _,rfl⟩
theorem i33k:(Tryz.prog.info? 58).map (·.size)=some 4:=by kernel_rfl
theorem u33k:(Tryz.prog.underlying 58).map (·.isRow)=some true:=by kernel_rfl
theorem i64k:(Tryz.prog.info? 23).map (·.size)=some 1:=by kernel_rfl
theorem kMod_c (O:Ord N) (s:Bs) (hs:s.size≤1048576):Gives 31 #[rv1,.string ⟨s⟩] (nv (redu N s)):=fun w =>
 (rMod_any _ _ _ _ _ _ _ _ N ⟨s⟩ O.ref hs w).mono (by rintro e w' ⟨v,rfl,hb,hF⟩;exact ⟨_,rfl,hb,hF.nv⟩)
theorem kZero_c (O:Ord N) {m:Nat} (hm:m<N):Gives 33 #[nv m] (.bool (decide (m=0))):=fun w=>rZero_any (nv m) m (O.four hm) w
def FKs_0:List RG.It:=[.x 6 [] (.string ⟨#[]⟩),.x 7 [] (.int .i64 0)]
def FKs_1 (s lab:ByteArray) (v:Value) (T:Bs) (e:Int):List RG.It:=[.x 13 [] (.string s),.x 14 [] (.string lab),.x 15 [] v,.c 16 [(13,0),(14,1),(15,2)] (.tuple #[.string ⟨T⟩,.int .i64 e]),.x 12 [(16,3)] (.tuple #[.string ⟨T⟩,.int .i64 e]),.x 17 [(12,4)] (.string ⟨T⟩),.x 18 [(12,4)] (.int .i64 e),.x 8 [(17,5)] (.string ⟨T⟩),.x 9 [(18,6)] (.int .i64 e)]
def FKs_4 (T S:Bs) (n:Nat):List RG.It:=[.c 22 [] rv1,.x 23 [] (.string ⟨T⟩),.c 24 [(23,1)] (.string ⟨S⟩),.c 25 [(22,0),(24,2)] (nv n),.m 10 [] 0,.u [(10,4),(25,3)] 0]
theorem rScalar_n1 (s lab:ByteArray) (v:Value) (w:World)
 (hD:∀ w',RG.BelX w.heap.size [] w w'→Calls Tryz.prog 29 #[.string s,.string lab,v] w' (Ret fun e w''=>Below w'.heap.size w' w''∧e=.tuple #[.string ⟨#[]⟩,.int .i64 1])) :
 Calls Tryz.prog 14 #[.string s,.string lab,v] w (Ret fun e w'=>Below w.heap.size w w'∧e=.tuple #[.string ⟨#[]⟩,.int .i64 1]):=by
 go_enter Tryz.func14,Tryz.ntmps14
 refine RG.M.enter [(0,.v (.string s)),(1,.v (.string lab)),(2,.v v)] 32 (by kernel_rfl) ?_
 intro a0 M0
 repeat refine wp_seq ?_
 refine M0.u FKs_0 [(0,.v (.string s)),(1,.v (.string lab)),(2,.v v)] ⟨RG.st,RG.st,trivial⟩ ?_
 intro a1 w1 M1
 repeat refine wp_seq ?_
 refine M1.u (FKs_1 s lab v #[] 1) [(9,.v (.int .i64 1))] ⟨RG.st,RG.st,RG.st,RG.clB (fun _ _=>by kernel_rfl) hD,RG.st,RG.st,RG.st,RG.st,RG.st,trivial⟩ ?_
 intro a2 w2 M2
 repeat refine wp_seq ?_
 refine M2.u [.x 19 [] (.int .i64 1),.x 20 [(19,0)] (.bool true)] [(9,.v (.int .i64 1)),(20,.v (.bool true))] ⟨RG.st,RG.st,trivial⟩ ?_
 intro a3 w3 M3
 repeat refine wp_seq ?_
 refine wp_cond_true (M3.ev (v:=.bool true) (by kernel_rfl)) ?_
 repeat refine wp_seq ?_
 refine M3.u [.x 21 [] (.int .i64 1),.x 6 [] (.string ⟨#[]⟩),.x 7 [(21,0)] (.int .i64 1)] [(6,.v (.string ⟨#[]⟩)),(7,.v (.int .i64 1))] ⟨RG.st,RG.st,RG.st,trivial⟩ ?_
 intro a4 w4 M4
 refine wp_ret ?_
 refine bodyPost_ret (v:=.tuple #[.string ⟨#[]⟩,.int .i64 1]) (RG.results_tt 6 7 rfl _ _ M4.av M4.av) M4.sl.defers ?_
 exact ⟨_,rfl,M4.st.bel.below,rfl⟩
theorem rScalar_n2 (s lab:ByteArray) (v:Value) (w:World)
 (hD:∀ w',RG.BelX w.heap.size [] w w'→Calls Tryz.prog 29 #[.string s,.string lab,v] w' (Ret fun e w''=>Below w'.heap.size w' w''∧e=.tuple #[.string ⟨#[]⟩,.int .i64 2])) :
 Calls Tryz.prog 14 #[.string s,.string lab,v] w (Ret fun e w'=>Below w.heap.size w w'∧e=.tuple #[.string ⟨#[]⟩,.int .i64 2]):=by
 go_enter Tryz.func14,Tryz.ntmps14
 refine RG.M.enter [(0,.v (.string s)),(1,.v (.string lab)),(2,.v v)] 32 (by kernel_rfl) ?_
 intro a0 M0
 repeat refine wp_seq ?_
 refine M0.u FKs_0 [(0,.v (.string s)),(1,.v (.string lab)),(2,.v v)] ⟨RG.st,RG.st,trivial⟩ ?_
 intro a1 w1 M1
 repeat refine wp_seq ?_
 refine M1.u (FKs_1 s lab v #[] 2) [(9,.v (.int .i64 2))] ⟨RG.st,RG.st,RG.st,RG.clB (fun _ _=>by kernel_rfl) hD,RG.st,RG.st,RG.st,RG.st,RG.st,trivial⟩ ?_
 intro a2 w2 M2
 repeat refine wp_seq ?_
 refine M2.u [.x 19 [] (.int .i64 2),.x 20 [(19,0)] (.bool true)] [(9,.v (.int .i64 2)),(20,.v (.bool true))] ⟨RG.st,RG.st,trivial⟩ ?_
 intro a3 w3 M3
 repeat refine wp_seq ?_
 refine wp_cond_true (M3.ev (v:=.bool true) (by kernel_rfl)) ?_
 repeat refine wp_seq ?_
 refine M3.u [.x 21 [] (.int .i64 2),.x 6 [] (.string ⟨#[]⟩),.x 7 [(21,0)] (.int .i64 2)] [(6,.v (.string ⟨#[]⟩)),(7,.v (.int .i64 2))] ⟨RG.st,RG.st,RG.st,trivial⟩ ?_
 intro a4 w4 M4
 refine wp_ret ?_
 refine bodyPost_ret (v:=.tuple #[.string ⟨#[]⟩,.int .i64 2]) (RG.results_tt 6 7 rfl _ _ M4.av M4.av) M4.sl.defers ?_
 exact ⟨_,rfl,M4.st.bel.below,rfl⟩
theorem rScalar_y (O:Ord N) (s lab:ByteArray) (v:Value) (T:Bs) (hTs:T.size=32) (w:World)
 (hD:∀ w',RG.BelX w.heap.size [] w w'→Calls Tryz.prog 29 #[.string s,.string lab,v] w' (Ret fun e w''=>Below w'.heap.size w' w''∧e=.tuple #[.string ⟨T⟩,.int .i64 0])) :
 Calls Tryz.prog 14 #[.string s,.string lab,v] w (Ret fun e w'=>Below w.heap.size w w'∧e=.tuple #[.string ⟨bx (kSc N T)⟩,.int .i64 0]):=by
 have hS0:Gives 32 #[.string ⟨T⟩,.int .i64 64] (.string ⟨SP.strmL T.toList 64⟩):=fun w'=>by
  refine (SP.refStream_any ⟨T⟩ 64 w' (by show T.size≤_;omega) (by decide)).mono ?_
  rintro e w'' ⟨rfl,hb⟩
  exact ⟨_,rfl,hb,rfl⟩
 have hM:=kMod_c O (SP.strmL T.toList 64) (by rw[SP.strm_size];decide)
 have hlt:=redu_lt O (SP.strmL T.toList 64)
 have hZ:=kZero_c O hlt
 have hB:=qBytes_c O (orOne_lt O hlt)
 unfold kSc
 generalize SP.strmL T.toList 64=S at hS0 hM hlt hZ hB ⊢
 generalize redu N S=n at hM hlt hZ hB ⊢
 obtain ⟨d,hd⟩:∃ d,Hid (decide (n=0)=d):=⟨_,rfl⟩
 rw[hd.out] at hZ
 go_enter Tryz.func14,Tryz.ntmps14
 refine RG.M.enter [(0,.v (.string s)),(1,.v (.string lab)),(2,.v v)] 32 (by kernel_rfl) ?_
 intro a0 M0
 repeat refine wp_seq ?_
 refine M0.u FKs_0 [(0,.v (.string s)),(1,.v (.string lab)),(2,.v v)] ⟨RG.st,RG.st,trivial⟩ ?_
 intro a1 w1 M1
 repeat refine wp_seq ?_
 refine M1.u (FKs_1 s lab v T 0) [(8,.v (.string ⟨T⟩)),(9,.v (.int .i64 0))] ⟨RG.st,RG.st,RG.st,RG.clB (fun _ _=>by kernel_rfl) hD,RG.st,RG.st,RG.st,RG.st,RG.st,trivial⟩ ?_
 intro a2 w2 M2
 repeat refine wp_seq ?_
 refine M2.u [.x 19 [] (.int .i64 0),.x 20 [(19,0)] (.bool false)] [(8,.v (.string ⟨T⟩)),(20,.v (.bool false))] ⟨RG.st,RG.st,trivial⟩ ?_
 intro a3 w3 M3
 repeat refine wp_seq ?_
 refine wp_cond_false (M3.ev (v:=.bool false) (by kernel_rfl)) ?_
 refine wp_skip ?_
 repeat refine wp_seq ?_
 refine M3.t (FKs_4 T S n) [(4,RG.z 4)] [(0,5,wn n)] [wn n] [(10,.p 0 0)] ⟨RG.cl Q3_c,RG.st,RG.cl hS0,RG.cl hM,RG.mk 0 58,RG.pt i33k,trivial⟩ ?_
 intro j4 a4 w4 M4
 repeat refine wp_seq ?_
 refine M4.u [.x 26 [] (nv n),.c 27 [(26,0)] (.bool d),.x 11 [(27,1)] (.bool d)] [(10,.p 0 0),(11,.v (.bool d))] ⟨RG.ld u33k i33k,RG.cl hZ,RG.st,trivial⟩ ?_
 intro a5 w5 M5
 repeat refine wp_seq ?_
 refine M5.u [.x 28 [] (.bool d)] [(10,.p 0 0),(28,.v (.bool d))] ⟨RG.st,trivial⟩ ?_
 intro a6 w6 M6
 repeat refine wp_seq ?_
 cases d with
 | true =>
  obtain rfl:n=0:=of_decide_eq_true hd.out
  refine wp_cond_true (M6.ev (v:=.bool true) (by kernel_rfl)) ?_
  repeat refine wp_seq ?_
  refine M6.t [.s 29 [] (.p 0 0),.u [(29,0)] 0] [] [(0,1,wn 1)] [wn 1] [(10,.p 0 0)] ⟨RG.st,RG.cert_put1 0 0 rfl _ rfl 23 (.tmp 29) (.const (.int .u64 1)) (.int .u64 1) rfl rfl RG.sx (fun _ _ _=>rfl) (Nat.le_of_ble_eq_true rfl) rfl i64k rfl rfl,trivial⟩ ?_
  intro a7 w7 M7
  repeat refine wp_seq ?_
  refine M7.u [.x 30 [] (nv 1),.c 31 [(30,0)] (.string ⟨bx (orOne 0)⟩),.x 6 [(31,1)] (.string ⟨bx (orOne 0)⟩),.x 7 [] (.int .i64 0)] [(6,.v (.string ⟨bx (orOne 0)⟩)),(7,.v (.int .i64 0))] ⟨RG.ld u33k i33k,RG.cl hB,RG.st,RG.st,trivial⟩ ?_
  intro a8 w8 M8
  refine wp_ret ?_
  refine bodyPost_ret (v:=.tuple #[.string ⟨bx (orOne 0)⟩,.int .i64 0]) (RG.results_tt 6 7 rfl _ _ M8.av M8.av) M8.sl.defers ?_
  exact ⟨_,rfl,M8.st.bel.below,rfl⟩
 | false =>
  have h0:¬ n=0:=of_decide_eq_false hd.out
  have hr:orOne n=n:=by unfold orOne;rw[if_neg h0]
  rw[hr] at hB ⊢
  refine wp_cond_false (M6.ev (v:=.bool false) (by kernel_rfl)) ?_
  refine wp_skip ?_
  repeat refine wp_seq ?_
  refine M6.u [.x 30 [] (nv n),.c 31 [(30,0)] (.string ⟨bx n⟩),.x 6 [(31,1)] (.string ⟨bx n⟩),.x 7 [] (.int .i64 0)] [(6,.v (.string ⟨bx n⟩)),(7,.v (.int .i64 0))] ⟨RG.ld u33k i33k,RG.cl hB,RG.st,RG.st,trivial⟩ ?_
  intro a8 w8 M8
  refine wp_ret ?_
  refine bodyPost_ret (v:=.tuple #[.string ⟨bx n⟩,.int .i64 0]) (RG.results_tt 6 7 rfl _ _ M8.av M8.av) M8.sl.defers ?_
  exact ⟨_,rfl,M8.st.bel.below,rfl⟩
theorem rScalar_c (O:Ord N) (s lab:ByteArray) (hlab:lab.size≤65536) (q:Option Addr) (n c:Nat) (S:Nat→Nat) (w:World) (hn:n≤1048576) (hN:NumsK w q n S) :
 Calls Tryz.prog 14 #[.string s,.string lab,.slice q n c] w (Ret fun e w'=>Below w.heap.size w w'∧e=.tuple #[.string ⟨ksB N S s.data n lab.data.toList⟩,.int .i64 (kdE s.data n:Int)]):=by
 have hD:∀ w',RG.BelX w.heap.size [] w w'→Calls Tryz.prog 29 #[.string s,.string lab,.slice q n c] w' (Ret fun e w''=>Below w'.heap.size w' w''∧e=.tuple #[.string ⟨kdB S s.data n lab.data.toList⟩,.int .i64 (kdE s.data n:Int)]):=fun w' hb=>rDerive_c s lab hlab q n c S w' hn (hN.below hb.below)
 by_cases hin:s.data.size=32∧n≤16
 ·have h1:kdB S s.data n lab.data.toList=derH S s.data n lab.data.toList:=by unfold kdB;rw[if_pos hin.1,if_pos hin.2]
  have h2:kdE s.data n=0:=by unfold kdE;rw[if_pos hin.1,if_pos hin.2]
  have h3:ksB N S s.data n lab.data.toList=bx (kSc N (derH S s.data n lab.data.toList)):=by unfold ksB;rw[if_pos hin]
  rw[h2,h3]
  rw[h1,h2] at hD
  exact rScalar_y O s lab _ _ (derH_size _ _ _ _) w hD
 ·have h1:kdB S s.data n lab.data.toList=#[]:=by
   unfold kdB
   by_cases h:s.data.size=32
   ·rw[if_pos h,if_neg (fun g=>hin ⟨h,g⟩)]
   ·rw[if_neg h]
  have h2:(kdE s.data n:Int)=1∨(kdE s.data n:Int)=2:=by
   unfold kdE
   by_cases h:s.data.size=32
   ·rw[if_pos h,if_neg (fun g=>hin ⟨h,g⟩)];exact Or.inl rfl
   ·rw[if_neg h];exact Or.inr rfl
  have h3:ksB N S s.data n lab.data.toList=#[]:=by unfold ksB;rw[if_neg hin]
  rw[h3]
  rw[h1] at hD
  rcases h2 with h2|h2
  ·rw[h2] at hD ⊢;exact rScalar_n1 s lab _ w hD
  ·rw[h2] at hD ⊢;exact rScalar_n2 s lab _ w hD
theorem shl1 (j:Nat) (hj:j<20):IntKind.u64.wrap ((2:Int)^j)=((2^j:Nat):Int):=by
 have:j=0∨j=1∨j=2∨j=3∨j=4∨j=5∨j=6∨j=7∨j=8∨j=9∨j=10∨j=11∨j=12∨j=13∨j=14∨j=15∨j=16∨j=17∨j=18∨j=19:=by omega
 rcases this with rfl|rfl|rfl|rfl|rfl|rfl|rfl|rfl|rfl|rfl|rfl|rfl|rfl|rfl|rfl|rfl|rfl|rfl|rfl|rfl<;>rfl
theorem rplace_y (k x:Nat) (hk:k<20) (hx:x=2^k) (w:World):Calls Tryz.prog 7 #[.int .u64 x] w fun e w'=>e=.returned (.int .i64 k)∧w'=w:=by
 have HX:Hid (∀ i,i<20→IntKind.u64.wrap ((2:Int)^i)=((2^i:Nat):Int)∧(2^i=x↔i=k)):=fun i hi=>⟨shl1 i hi,by rw[hx];exact Nat.pow_right_inj (by decide)⟩
 clear hx
 go_enter Tryz.func7,Tryz.ntmps7
 go_wp2
 go_loopg [3] (k+1) (fun gk s3 wr=>∃ i:Nat,i+gk=k+1∧i≤k∧s3=.int .i64 i∧wr=w)
 case atStart=>exact ⟨0,by omega,by omega,rfl,rfl⟩
 case round =>
  obtain ⟨i,hi,hik,rfl,rfl⟩:=hrel
  have h20:(i:Int)<20:=by omega
  obtain ⟨hsh,hiff⟩:=HX.out i (by omega)
  generalize 2^i=y at hsh hiff
  by_cases he:i=k
  ·obtain rfl:=hiff.2 he
   subst he
   clear hiff
   go_wp2
   go_ret
   exact ⟨rfl,rfl⟩
  ·have hne:¬ (x:Int)=(y:Int):=fun h=>he (hiff.1 (by omega))
   have hne2:((x:Int) == (y:Int))=false:=by simpa using hne
   clear hiff
   go_wp2
   go_roundg (gk-1)
   case measure=>omega
   case rel=>exact ⟨i+1,by omega,by omega,rfl,rfl⟩
theorem rplace_n (x:Nat) (hn:NoP x) (w:World):Calls Tryz.prog 7 #[.int .u64 x] w fun e w'=>e=.returned (.int .i64 (-1))∧w'=w:=by
 have HX:Hid (∀ i,i<20→IntKind.u64.wrap ((2:Int)^i)=((2^i:Nat):Int)∧x≠2^i):=fun i hi=>⟨shl1 i hi,hn i hi⟩
 clear hn
 go_enter Tryz.func7,Tryz.ntmps7
 go_wp2
 go_loopg [3] 20 (fun gk s3 wr=>∃ i:Nat,i+gk=20∧s3=.int .i64 i∧wr=w)
 case atStart=>exact ⟨0,by omega,rfl,rfl⟩
 case round =>
  obtain ⟨i,hi,rfl,rfl⟩:=hrel
  by_cases hi2:i<20
  ·have h20:(i:Int)<20:=by omega
   obtain ⟨hsh,hne0⟩:=HX.out i hi2
   generalize 2^i=y at hsh hne0
   have hne:¬ (x:Int)=(y:Int):=by omega
   have hne2:((x:Int) == (y:Int))=false:=by simpa using hne
   clear hne0
   go_wp2
   go_roundg (gk-1)
   case measure=>omega
   case rel=>exact ⟨i+1,by omega,rfl,rfl⟩
  ·have h20:¬ (i:Int)<20:=by omega
   go_wp2
   go_ret
   exact ⟨rfl,rfl⟩
theorem rKeyF_c (s:ByteArray) (hn:¬ s.data.size=32) (nb x:Nat) (w:World):Calls Tryz.prog 5 #[.string s,.int .u32 nb,.int .u64 x] w fun e w'=>e=.returned (.tuple #[.string ⟨#[]⟩,.int .i64 2])∧w'=w:=by
 have g1:¬ (s.size:Int)=32:=by show ¬ ((s.data.size:Nat):Int)=32;omega
 have g0:((s.size:Int) == 32)=false:=by simpa using g1
 clear hn
 go_enter Tryz.func5,Tryz.ntmps5
 go_wp2
 go_ret2
 exact ⟨rfl,rfl⟩
theorem rKeyN_c (s:ByteArray) (hs:s.data.size=32) (nb x:Nat) (hn:NoP x) (w:World):Calls Tryz.prog 5 #[.string s,.int .u32 nb,.int .u64 x] w fun e w'=>e=.returned (.tuple #[.string ⟨#[]⟩,.int .i64 7])∧w'=w:=by
 have g1:(s.size:Int)=32:=by show ((s.data.size:Nat):Int)=32;omega
 have hP:=rplace_n x hn w
 clear hn hs
 go_enter Tryz.func5,Tryz.ntmps5
 go_wp2_with fail
 refine hP.mono ?_
 rintro e w' ⟨rfl,rfl⟩
 clear hP
 go_wp2
 go_ret2
 exact ⟨rfl,rfl⟩
theorem ks_mk (k:Bs) (hk:k.size=32) (nb i:Nat):ksB N (S2 nb i) k 2 [109,105,110,116]=bx (mkN N k nb i):=by unfold ksB;rw[if_pos ⟨hk,by omega⟩];rfl
theorem rKeyY_c (O:Ord N) (s:ByteArray) (hs:s.data.size=32) (nb i x:Nat) (hnb:nb<4294967296) (hi:i<20) (hx:x=2^i) (w:World):Calls Tryz.prog 5 #[.string s,.int .u32 nb,.int .u64 x] w (Ret fun e w'=>Below w.heap.size w w'∧e=.tuple #[.string ⟨bx (mkN N s.data nb i)⟩,.int .i64 0]):=by
 have g1:(s.size:Int)=32:=by show ((s.data.size:Nat):Int)=32;omega
 have hP:=rplace_y i x hi hx w
 obtain ⟨w2,hw2⟩:∃ w2,Hid (w.alloc (.cells #[.int .u32 nb,.int .u32 i] 22)=w2):=⟨_,rfl⟩
 have K2:Hid (Below w.heap.size w w2):=by rw[← hw2.out];exact below1 w _
 have hN:NumsK w2 (some ⟨w.heap.size,0,none⟩) 2 (S2 nb i):=by
  refine ⟨fun j hj=>?_,fun _=>⟨w.heap.size,0,rfl,?_,fun j hj=>?_⟩⟩
  ·unfold S2
   by_cases h:j=0
   ·rw[if_pos h];exact hnb
   ·rw[if_neg h];omega
  ·rw[← hw2.out,World.size_alloc];omega
  ·have hr:=(row_new w [.int .u32 nb,.int .u32 i] 22).2.1
   rw[← hw2.out,Nat.zero_add]
   have hj2:j=0∨j=1:=by omega
   rcases hj2 with rfl|rfl
   ·exact hr 0 _ rfl
   ·exact hr 1 _ rfl
 have hS:=rScalar_c O s ⟨#[109,105,110,116]⟩ (by decide) (some ⟨w.heap.size,0,none⟩) 2 2 (S2 nb i) w2 (by decide) hN
 have e2:kdE s.data 2=0:=by unfold kdE;rw[if_pos hs,if_pos (by decide)]
 rw[ks_mk s.data hs nb i,e2] at hS
 generalize bx (mkN N s.data nb i)=X at hS ⊢
 have wp:IntKind.u32.wrap (i:Int)=(i:Int):=by rw[IntKind.wrap_u32];omega
 have i0:¬ (i:Int)<0:=by omega
 clear hs hN hx e2 hnb hi
 go_enter Tryz.func5,Tryz.ntmps5
 go_wp2_with fail
 refine hP.mono ?_
 rintro e w' ⟨rfl,rfl⟩
 clear hP
 go_wp2_with fail
 rw[hw2.out]
 clear hw2
 refine hS.mono ?_
 rintro e w3 ⟨v3,rfl,hb3,rfl⟩
 have K3:Hid (Below w'.heap.size w' w3):=K2.out.trans (hb3.mono K2.out.size)
 clear hS hb3 K2
 go_wp2
 go_ret2
 exact ⟨_,rfl,K3.out,rfl⟩
theorem rKeyA_c (O:Ord N) (s:ByteArray) (nb x:Nat) (hnb:nb<4294967296) (w:World):Calls Tryz.prog 5 #[.string s,.int .u32 nb,.int .u64 x] w (Ret fun e w'=>Below w.heap.size w w'∧e=.tuple #[.string ⟨kyB N s.data nb x⟩,.int .i64 (kyE s.data x:Int)]):=by
 by_cases h32:s.data.size=32
 ·rcases pow_cases x with ⟨i,hi,hxi⟩|hn
  ·have e1:kyE s.data x=0:=by unfold kyE;rw[if_pos h32,if_pos (pow_mem hi hxi)]
   have e2:kyB N s.data nb x=bx (mkN N s.data nb i):=by unfold kyB;rw[if_pos ⟨h32,pow_mem hi hxi⟩,log_pow hxi]
   rw[e1,e2]
   exact rKeyY_c O s h32 nb i x hnb hi hxi w
  ·have e1:kyE s.data x=7:=by unfold kyE;rw[if_pos h32,if_neg (nop_mem hn)]
   have e2:kyB N s.data nb x=#[]:=by unfold kyB;rw[if_neg (fun h=>nop_mem hn h.2)]
   rw[e1,e2]
   refine (rKeyN_c s h32 nb x hn w).mono ?_
   rintro e w' ⟨rfl,rfl⟩
   exact ⟨_,rfl,Below.refl _ _,rfl⟩
 ·have e1:kyE s.data x=2:=by unfold kyE;rw[if_neg h32]
  have e2:kyB N s.data nb x=#[]:=by unfold kyB;rw[if_neg (fun h=>h32 h.1)]
  rw[e1,e2]
  refine (rKeyF_c s h32 nb x w).mono ?_
  rintro e w' ⟨rfl,rfl⟩
  exact ⟨_,rfl,Below.refl _ _,rfl⟩
theorem tm_fracZ (C:Fl3 P) {n:Nat} (hn:n<top):FracT (tmF n (gT P) 256) (EC.mul n (gG P)):=by
 have h:=tmF_F C (n:=n) (by unfold top at hn;omega) (gT_frac C.toFld) 256 (Nat.le_refl _)
 rwa[Nat.sub_self,Nat.pow_zero,Nat.div_one] at h
theorem rround (C:Fl3 P) (O:Ord N) (s:ByteArray) (hs:s.data.size=32) (nb:Nat) (hnb:nb<4294967296) (j:Nat) (hj:j<20):∃ (B:ByteArray) (m y:Nat) (ob:Bool) (t:Value),IntKind.u64.wrap ((2:Int)^j)=(y:Int) ∧
 (∀ W:World,Calls Tryz.prog 5 #[.string s,.int .u32 nb,.int .u64 y] W (Ret fun e w'=>Below W.heap.size W w'∧e=.tuple #[.string B,.int .i64 0])) ∧
 Gives 22 #[.string B] (.tuple #[nv m,.bool ob])∧Gives 23 #[nv m] t∧Gives 24 #[t] (.string ⟨pkB P N s.data nb j⟩):=by
 have hlt:=mkN_lt O s.data nb j
 have hle:mkN N s.data nb j<top:=Nat.lt_of_lt_of_le hlt O.le
 have hv:nuV (bx (mkN N s.data nb j))=mkN N s.data nb j:=by unfold nuV;rw[if_pos (bx_size _)];exact bx_val hle
 have hq:=qscal_c O ⟨bx (mkN N s.data nb j)⟩
 simp only[hv] at hq
 exact ⟨_,mkN N s.data nb j,2^j,_,_,shl1 j hj,fun W=>rKeyY_c O s hs nb j _ hnb hj rfl W,hq,qBase_c C _ hle,rWritten_c C (tm_fracZ C hle)⟩
theorem cut8 (T:Bs) (hT:T.size=32) (w:World):(Instr.sliceAt 9 (.string ⟨T⟩) none (some (.int .i64 8)) none).run Tryz.prog w=.ok (.string ⟨T.extract 0 8⟩) w:=by
 have h:(⟨T⟩:ByteArray).size=32:=hT
 have h2:(⟨T⟩:ByteArray).extract 0 8=⟨T.extract 0 8⟩:=by
  apply ByteArray.ext
  rw[ByteArray.data_extract]
 rw[← h2]
 generalize (⟨T⟩:ByteArray)=D at h
 go_simp
def strs (S:Nat→Bs) (m:Nat):List Value:=(List.range m).map fun i=>.string ⟨S i⟩
theorem flat_le (a:Nat):∀ ps:List (List UInt8),(∀ p∈ps,p.length≤a)→(ps.flatMap SP.frameL).length≤ps.length*(a+4)
 | [],_=>Nat.zero_le _
 | p :: r,h=>by
  have h1:=flat_le a r (fun x hx=>h x (List.mem_cons_of_mem _ hx))
  have h2:=h p List.mem_cons_self
  rw[List.flatMap_cons,List.length_append,SP.frameL_length,List.length_cons,Nat.add_mul]
  omega
theorem rTag_keys (k:Bs) (nb:Nat) (g c:Nat) (w:World) (h:w.ownsRow 0 9 1 (.slice (some ⟨g,0,none⟩) 20 c) 20 (strs (pkB P N k nb) 20)) :
 Calls Tryz.prog 25 #[.string ⟨#[107,101,121,115,101,116]⟩,.slice (some ⟨g,0,none⟩) 20 c] w fun e w'=>e=.returned (.string ⟨SP.tagL [107,101,121,115,101,116] (pkL P N k nb)⟩)∧Below w.heap.size w w':=by
 have hl:((List.range 20).map fun i=>(⟨pkB P N k nb i⟩:ByteArray)).length=20:=by rw[List.length_map,List.length_range]
 have hg:∀ j,j<20→((List.range 20).map fun i=>(⟨pkB P N k nb i⟩:ByteArray))[j]! = ⟨pkB P N k nb j⟩:=fun j hj=>by
  rw[getElem!_pos _ j (by rw[hl];exact hj),List.getElem_map,List.getElem_range]
 have hm:((List.range 20).map fun i=>(⟨pkB P N k nb i⟩:ByteArray)).map (fun s=>s.data.toList)=pkL P N k nb:=by
  unfold pkL
  rw[List.map_map]
  rfl
 have hT:=SP.refTag_any ⟨#[107,101,121,115,101,116]⟩ (some ⟨g,0,none⟩) c ((List.range 20).map fun i=>(⟨pkB P N k nb i⟩:ByteArray)) w (by decide) (by rw[hl];decide)
  (Or.inr ⟨g,0,rfl,fun j hj=>by
   rw[hl] at hj
   rw[hg j hj]
   have:=h.cells (g:=g) rfl j (.string ⟨pkB P N k nb j⟩) (by unfold strs;rw[List.getElem?_map,List.getElem?_range hj];rfl)
   rw[addP0] at this
   exact this⟩)
  (fun j hj=>by
   rw[hl] at hj
   rw[hg j hj]
   show (pkB P N k nb j).size≤_
   rw[pkB_size]
   decide)
  (by
   rw[hm]
   have h1:((pkL P N k nb).flatMap SP.frameL).length≤(pkL P N k nb).length*(33+4):=flat_le 33 _ fun p hp=>by
    unfold pkL at hp
    obtain ⟨i,-,rfl⟩:=List.mem_map.1 hp
    rw[Array.length_toList,pkB_size]
    exact Nat.le_refl _
   have h2:(pkL P N k nb).length=20:=by unfold pkL;rw[List.length_map,List.length_range]
   unfold SP.framesL
   rw[List.length_append,SP.frameL_length]
   rw[h2] at h1
   show 6+4+_≤_
   omega)
 rw[hm,hl] at hT
 exact hT
def RsR (w:World) (B:Bs) (S:Nat→Bs) (m er:Nat) (e:Value) (w':World):Prop:=Below w.heap.size w w'∧∃ q c,e=.tuple #[.string ⟨B⟩,.slice q m c,.int .i64 er]∧w'.ownsRow w.heap.size 9 1 (.slice q m c) m (strs S m)
theorem results_ttt {P:Program} {fn:Func} {tmps:Array Value} {W:World} {v0 v1 v2:Value} (t0 t1 t2:Tmp) (hr:fn.results=#[.tmp t0,.tmp t1,.tmp t2]) (h0:tmps[t0]? = some v0) (h1:tmps[t1]? = some v1) (h2:tmps[t2]? = some v2):(results fn tmps).run P W=.ok (.tuple #[v0,v1,v2]) W:=by
 have g0:tmps.getD t0 undef=v0:=by rw[Array.getD_eq_getD_getElem?,h0];rfl
 have g1:tmps.getD t1 undef=v1:=by rw[Array.getD_eq_getD_getElem?,h1];rfl
 have g2:tmps.getD t2 undef=v2:=by rw[Array.getD_eq_getD_getElem?,h2];rfl
 unfold results
 rw[hr]
 simp only[Array.mapM_eq_mapM_toList,List.mapM_cons,List.mapM_nil,g0,g1,g2]
 simp[Sem.run_bind]
theorem rSetY_c (C:Fl3 P) (O:Ord N) (s:ByteArray) (hs:s.data.size=32) (nb:Nat) (hnb:nb<4294967296) (w:World):Calls Tryz.prog 9 #[.string s,.int .u32 nb] w (Ret (RsR w (nmB P N s.data nb) (pkB P N s.data nb) 20 0)):=by
 have g1:(s.size:Int)=32:=by show ((s.data.size:Nat):Int)=32;omega
 have HR:=Hid.mk2 (rround C O s hs nb hnb)
 have HTg:=Hid.mk2 (fun g c w h=>rTag_keys (P:=P) (N:=N) s.data nb g c w h)
 have HNm:Hid (∀ W:World,(Instr.sliceAt 9 (.string ⟨SP.tagL [107,101,121,115,101,116] (pkL P N s.data nb)⟩) none (some (.int .i64 8)) none).run Tryz.prog W=.ok (.string ⟨nmB P N s.data nb⟩) W):=fun W=>cut8 _ (SP.tagL_size _ _) W
 generalize SP.tagL [107,101,121,115,101,116] (pkL P N s.data nb)=T at HTg HNm
 generalize nmB P N s.data nb=NB at HNm ⊢
 generalize pkB P N s.data nb=S at HR HTg ⊢
 have K0:Hid (Below w.heap.size w w∧w.ownsRow w.heap.size 9 1 (.slice none 0 0) 0 (strs S 0)):=⟨Below.refl _ _,rfl,Or.inl ⟨rfl,rfl⟩⟩
 clear hs C O
 go_enter Tryz.func9,Tryz.ntmps9
 go_wp2
 go_loopg [7,8] 20 (fun gk s7 s8 wr=>∃ (j:Nat) (sv:Value),j+gk=20∧sv=s7∧s8=.int .i64 j∧Hid (Below w.heap.size w wr∧wr.ownsRow w.heap.size 9 1 sv j (strs S j)))
 case atStart=>exact ⟨0,_,by omega,rfl,rfl,K0⟩
 case round =>
  clear K0
  obtain ⟨j,sv,hj,rfl,rfl,KM⟩:=hrel
  by_cases hj20:j<20
  ·have hj':(j:Int)<20:=by omega
   obtain ⟨B,m,y,ob,t,hsh,f1,f2,f3,f4⟩:=HR.out j hj20
   have HK:=Hid.mk2 f1
   have HS:=Hid.mk2 f2
   have HB:=Hid.mk2 f3
   have HW:=Hid.mk2 f4
   obtain ⟨vm,hvm⟩:∃ vm,Hid (nv m=vm):=⟨_,rfl⟩
   rw[hvm.out] at HS HB
   clear f1 f2 f3 f4
   go_wp2_with fail
   refine (HK.out wr).mono ?_
   rintro e w3 ⟨v3,rfl,hb3,rfl⟩
   have K3:=Hid.mk2 hb3
   clear hb3 HK hsh
   go_wp2_with fail
   refine (HS.out w3).mono ?_
   rintro e w4 ⟨v4,rfl,hb4,rfl⟩
   have K4:Hid (Below wr.heap.size wr w4):=K3.out.trans (hb4.mono K3.out.size)
   clear hb4 HS K3
   obtain ⟨k5,hk5⟩:∃ k5,Hid (w4.heap.size=k5):=⟨_,rfl⟩
   obtain ⟨w5,hw5⟩:∃ w5,Hid (w4.alloc (.cells #[.int .u64 0,.int .u64 0,.int .u64 0,.int .u64 0] 58)=w5):=⟨_,rfl⟩
   obtain ⟨w6,hw6⟩:∃ w6,Hid (w5.setCells k5 0 (wn m)=w6):=⟨_,rfl⟩
   obtain ⟨d,hd1,hd2⟩:=Option.map_eq_some_iff.1 u33k
   have HD:Hid (Tryz.prog.underlying 58=some d∧d.isRow=true):=⟨hd1,hd2⟩
   have r5:Row w5 k5 [.int .u64 0,.int .u64 0,.int .u64 0,.int .u64 0]:=by rw[← hw5.out,← hk5.out];exact row_new w4 _ _
   have K6:Hid (w5.there k5 0 4∧Row w6 k5 (wn m)∧Below wr.heap.size wr w6):=by
    refine ⟨r5.2.2,by rw[← hw6.out];exact r5.put rfl,?_⟩
    have b5:Below w4.heap.size w4 w5:=by rw[← hw5.out];exact below1 w4 _
    rw[← hw6.out]
    exact K4.out.trans ((RG.below_setCells (by rw[hk5.out];exact Nat.le_refl _) _ _ _ b5).mono K4.out.size)
   clear hd1 hd2 r5 K4
   go_wp2_with (first|(refine wpList_op (v:=.pointer (some ⟨k5,0,none⟩)) (w':=w5) rfl (.alloc 58) rfl ?_ ?_;(rw[← hw5.out,← hk5.out];kernel_rfl))|(refine wpList_store_mid rfl 58 _ _ rfl k5 0 (wn m).toArray ?_ ?_ ?_ ?_ ?_ ?_;rfl;exact hvm.out.symm;exact K6.out.1;exact i33k;exact wn_one m;rw[show (wn m).toArray.toList=wn m from rfl,hw6.out])|(refine wpList_load_mid rfl 58 _ rfl k5 0 ?_ (wn m) d ?_ ?_ ?_ ?_ ?_;rfl;exact K6.out.2.1.2.1;exact HD.out.1;exact HD.out.2;exact i33k;rw[show Value.agg (wn m).toArray=vm from hvm.out])|fail)
   refine (HB.out w6).mono ?_
   rintro e w7 ⟨v7,rfl,hb7,rfl⟩
   have K7:Hid (Below wr.heap.size wr w7):=K6.out.2.2.trans (hb7.mono K6.out.2.2.size)
   clear hb7 HB K6 hw5 hw6 HD
   go_wp2_with fail
   refine (HW.out w7).mono ?_
   rintro e w8 ⟨v8,rfl,hb8,rfl⟩
   have K8:Below wr.heap.size wr w8:=K7.out.trans (hb8.mono K7.out.size)
   obtain ⟨h1,h2⟩:=KM.out
   have ho:=own_keep h2 (W':=w8) (fun g hg=>K8.block g (own_lt h2 hg).2.1)
   obtain ⟨v',W',r1,r2,r3⟩:=own_app1 undST infoST (by omega) ho (x:=.string ⟨S j⟩) rfl (by omega) (Nat.le_trans h1.size K8.size)
   have hb':Below w.heap.size w W':=by
    have hb8':=h1.trans (K8.mono h1.size)
    refine ⟨by rw[r3.os,hb8'.os],by rw[r3.tape,hb8'.tape],by rw[r3.output,hb8'.output],Nat.le_trans hb8'.size r3.size,fun g hg=>?_⟩
    rw[r3.keep g (Nat.lt_of_lt_of_le hg hb8'.size) (fun e=>by have:=(own_lt ho e).1;omega),hb8'.block g hg]
   have KN:Hid (Below w.heap.size w W'∧W'.ownsRow w.heap.size 9 1 v' (j+1) (strs S (j+1))):=⟨hb',by unfold strs at r2 ⊢;rw[List.range_succ,List.map_append];exact r2⟩
   clear hb8 K8 h1 h2 ho r2 r3 hb' KM K7 HW
   generalize S j=X at r1
   go_wp2_with (at_builtin;refine Lib.wpList_append_run _ rfl _ _ 38 38 rfl _ _ rfl rfl _ _ r1 ?_)
   go_roundg (gk-1)
   case measure=>omega
   case rel=>exact ⟨j+1,_,by omega,rfl,rfl,KN⟩
  ·have hj':¬ (j:Int)<20:=by omega
   obtain rfl:j=20:=by omega
   obtain ⟨g,c,rfl⟩:=own_shape KM.out.2 (by omega)
   have hT:=HTg.out g c wr (by
    rcases KM.out.2 with ⟨h0,h1|⟨g',cap,cur,h1,h2,h3⟩⟩
    ·exact ⟨h0,Or.inl h1⟩
    ·exact ⟨h0,Or.inr ⟨g',cap,cur,h1,Nat.zero_le _,h3⟩⟩)
   have hnm:=HNm.out
   have K3:=KM
   clear HR HTg HNm KM
   go_wp2_with fail
   refine hT.mono ?_
   rintro e w4 ⟨rfl,hb4⟩
   have K4:Hid (RsR w NB S 20 0 (.tuple #[.string ⟨NB⟩,.slice (some ⟨g,0,none⟩) 20 c,.int .i64 0]) w4):=⟨K3.out.1.trans (hb4.mono K3.out.1.size),_,_,rfl,own_keep K3.out.2 (fun y hy=>hb4.block y (own_lt K3.out.2 hy).2.1)⟩
   clear hT hb4 K3
   go_wp2
   refine bodyPost_ret (results_ttt 4 5 6 rfl rfl rfl rfl) rfl ?_
   exact ⟨_,rfl,K4.out⟩
theorem rSetF_c (s:ByteArray) (hs:¬ s.data.size=32) (nb:Nat) (S:Nat→Bs) (w:World):Calls Tryz.prog 9 #[.string s,.int .u32 nb] w (Ret (RsR w #[] S 0 2)):=by
 have g1:¬ (s.size:Int)=32:=by show ¬ ((s.data.size:Nat):Int)=32;omega
 have g0:((s.size:Int) == 32)=false:=by simpa using g1
 have K4:Hid (RsR w #[] S 0 2 (.tuple #[.string ⟨#[]⟩,.slice none 0 0,.int .i64 2]) w):=⟨Below.refl _ _,_,_,rfl,rfl,Or.inl ⟨rfl,rfl⟩⟩
 clear hs
 go_enter Tryz.func9,Tryz.ntmps9
 go_wp2
 refine bodyPost_ret (results_ttt 4 5 6 rfl rfl rfl rfl) rfl ?_
 exact ⟨_,rfl,K4.out⟩
theorem OwQ.up {W:World} {L L' B:Nat} {v:Value} {b:SP.Bs} (h:OwQ W L B v b) (hL:L≤L'):OwQ W L' B v b:=by
 rcases h with h|⟨g,h1,h2,h3,h4⟩
 ·exact Or.inl h
 ·exact Or.inr ⟨g,h1,h2,by omega,h4⟩
theorem owq_nil (W:World) (L B:Nat):OwQ W L B (.slice none 0 0) #[]:=Or.inl ⟨rfl,Or.inl ⟨rfl,rfl⟩⟩
structure SG (w W:World) (L:Nat) (nm:Value) (q:Option Addr) (m:Nat) (B:Bs) (S:Nat→Bs) (V:Nat→Value):Prop where
 bl:Below w.heap.size w W
 sz:L≤W.heap.size
 no:OwQ W L w.heap.size nm B
 nl:∀ y,nm.ownBlock=some y→w.heap.size≤y∧y<L
 qn:q=none→m=0
 pq:0<m→∃ g,q=some ⟨g,0,none⟩∧g<L∧∀ i,i<m→W.cell? ⟨g,i,none⟩=some (V i)
 ow:∀ i,i<m→OwQ W L w.heap.size (V i) (S i)
 vl:∀ i,i<m→∀ y,(V i).ownBlock=some y→w.heap.size≤y∧y<L
 ni:∀ i,i<m→∀ y,(V i).ownBlock=some y→nm.ownBlock≠some y
 vi:∀ i i',i<m→i'<m→i≠i'→∀ y,(V i).ownBlock=some y→(V i').ownBlock≠some y
theorem SG.keep {w W W':World} {L m:Nat} {nm:Value} {q:Option Addr} {B:Bs} {S:Nat→Bs} {V:Nat→Value} (h:SG w W L nm q m B S V) (hb:Below L W W') (hb2:Below w.heap.size w W') (hs:W.heap.size≤W'.heap.size):SG w W' L nm q m B S V:=
 ⟨hb2,Nat.le_trans h.sz hs,h.no.keep hs (fun g hg=>hb.block g (h.nl g hg).2),h.nl,h.qn,fun hm=>by
  obtain ⟨g,h1,h2,h3⟩:=h.pq hm
  exact ⟨g,h1,h2,fun i hi=>by rw[World.cell?_of_block (a:=⟨g,i,none⟩) (hb.block g h2)];exact h3 i hi⟩,
  fun i hi=>(h.ow i hi).keep hs (fun g hg=>hb.block g (h.vl i hi g hg).2),h.vl,h.ni,h.vi⟩
theorem SG.below {w W W':World} {L m:Nat} {nm:Value} {q:Option Addr} {B:Bs} {S:Nat→Bs} {V:Nat→Value} (h:SG w W L nm q m B S V) (hb:Below W.heap.size W W'):SG w W' L nm q m B S V:=
 h.keep (hb.mono h.sz) (h.bl.trans (hb.mono h.bl.size)) hb.size
theorem SG.drewN {w W:World} {L m:Nat} {nm:Value} {q:Option Addr} {B:Bs} {S:Nat→Bs} {V:Nat→Value} (h:SG w W L nm q m B S V) (k:Nat):SG w (W.drewN k) L nm q m B S V:=
 h.below ⟨rfl,rfl,rfl,Nat.le_refl _,fun _ _=>rfl⟩
theorem SG.pt {w W:World} {L m:Nat} {nm:Value} {q:Option Addr} {B:Bs} {S:Nat→Bs} {V:Nat→Value} (h:SG w W L nm q m B S V):Pt W nm B:=(RV.of h.no).pt
theorem SG.pv {w W:World} {L m:Nat} {nm:Value} {q:Option Addr} {B:Bs} {S:Nat→Bs} {V:Nat→Value} (h:SG w W L nm q m B S V) {i:Nat} (hi:i<m):Pt W (V i) (S i):=(RV.of (h.ow i hi)).pt
theorem SG.sl {w W:World} {L m:Nat} {nm:Value} {q:Option Addr} {B:Bs} {S:Nat→Bs} {V:Nat→Value} (h:SG w W L nm q m B S V) {i:Nat} (hi:i<m):∃ a n c,V i=.slice a n c:=by
 obtain ⟨a,c,e⟩:=(RV.of (h.ow i hi)).slice
 exact ⟨_,_,_,e⟩
def setM (k:Bs):Nat:=if k.size=32 then 20 else 0
def setE (k:Bs):Nat:=if k.size=32 then 0 else 2
def setB (P N:Nat) [NeZero P] (k:Bs) (nb:Nat):Bs:=if k.size=32 then nmB P N k nb else #[]
theorem SetA_c (C:Fld P) (O:Ord N) (sq:Option Addr) (sc:Nat) (k:Bs) (nb:Nat) (hnb:nb<4294967296) (w:World) (hk:SP.PartOk w (.slice sq k.size sc) k.toList) :
 Calls Tryz.prog 8 #[.slice sq k.size sc,.int .u32 nb] w (Ret fun e w'=>∃ nm q V,e=.tuple #[.agg #[nm,.slice q (setM k) (setM k)],.int .i64 (setE k:Int)]∧SG w w' w'.heap.size nm q (setM k) (setB P N k nb) (pkB P N k nb) V):=by
 by_cases h32:k.size=32
 ·have e1:setM k=20:=if_pos h32
  have e2:setE k=0:=if_pos h32
  have e3:setB P N k nb=nmB P N k nb:=if_pos h32
  rw[e1,e2,e3]
  rw[h32] at hk ⊢
  refine (Set_c C O sq sc k nb hnb w hk).mono ?_
  rintro e w' ⟨v,rfl,hb,r,g,L,K,rfl,hR,hlen,hwg,hgr,hrw,hn8,hH,hel,hup⟩
  have hK:∀ i,i<20→g<K i∧K i<r:=fun i hi=>⟨(hel i hi).2.1,(hel i hi).2.2.1⟩
  have hb1:∀ {a n c y:Nat},(Value.slice (some ⟨a,0,none⟩) n c).ownBlock=some y→a=y:=fun h=>Option.some.inj h
  refine ⟨_,rfl,_,_,fun i=>.slice (some ⟨K i,0,none⟩) 33 33,rfl,hb,Nat.le_refl _,Or.inr ⟨r,by rw[hn8],by omega,hrw,hrw,hH⟩,fun y hy=>?_,fun e=>(by cases e),fun _=>⟨g,rfl,hR.1,fun i hi=>?_⟩,fun i hi=>Or.inr ⟨K i,by rw[pkB_size],?_,?_,?_,(hel i hi).2.2.2⟩,fun i hi y hy=>?_,fun i hi y hy e=>?_,fun i i' hi hi' hne y hy e=>?_⟩
  ·have:=hb1 hy;omega
  ·have:=hR.2.1 i _ (hel i hi).1
   rw[Nat.zero_add] at this
   exact this
  ·have:=hK i hi;omega
  ·have:=hK i hi;omega
  ·have:=hK i hi;omega
  ·have:=hb1 hy;have:=hK i hi;omega
  ·have:=hb1 hy;have:=hb1 e;have:=hK i hi;omega
  ·have h1:=hb1 hy
   have h2:=hb1 e
   by_cases hlt:i<i'
   ·have:=hup i i' hlt hi';omega
   ·have:=hup i' i (by omega) hi;omega
 ·have e1:setM k=0:=if_neg h32
  have e2:setE k=2:=if_neg h32
  have e3:setB P N k nb=#[]:=if_neg h32
  rw[e1,e2,e3]
  refine (SetF_c sq k.size sc nb h32 w).mono ?_
  rintro e w' ⟨v,rfl,hb,rfl⟩
  exact ⟨_,rfl,_,_,fun _=>undef,rfl,hb,Nat.le_refl _,owq_nil _ _ _,fun y hy=>(by cases hy),fun _=>rfl,fun h=>absurd h (Nat.lt_irrefl _),fun i hi=>absurd hi (Nat.not_lt_zero _),fun i hi=>absurd hi (Nat.not_lt_zero _),fun i hi=>absurd hi (Nat.not_lt_zero _),fun i _ hi=>absurd hi (Nat.not_lt_zero _)⟩
theorem rSetA_c (C:Fl3 P) (O:Ord N) (s:ByteArray) (nb:Nat) (hnb:nb<4294967296) (w:World):Calls Tryz.prog 9 #[.string s,.int .u32 nb] w (Ret (RsR w (setB P N s.data nb) (pkB P N s.data nb) (setM s.data) (setE s.data))):=by
 by_cases h32:s.data.size=32
 ·have e1:setM s.data=20:=if_pos h32
  have e2:setE s.data=0:=if_pos h32
  have e3:setB P N s.data nb=nmB P N s.data nb:=if_pos h32
  rw[e1,e2,e3]
  exact rSetY_c C O s h32 nb hnb w
 ·have e1:setM s.data=0:=if_neg h32
  have e2:setE s.data=2:=if_neg h32
  have e3:setB P N s.data nb=#[]:=if_neg h32
  rw[e1,e2,e3]
  exact rSetF_c s h32 nb _ w
theorem apart_set {w W:World} {L m:Nat} {a:Option Addr} {n c:Nat} {q:Option Addr} {B:Bs} {S:Nat→Bs} {V:Nat→Value} (h:SG w W L (.slice a n c) q m B S V) (hm:m≤20) (hB:B.size≤100) (hS:∀ i,i<m→(S i).size≤100) :
 ∃ kl cc W',(Builtin.append_ #[33,33] 33 #[.slice (some ⟨W.heap.size,0,none⟩) 1 1,.slice q m m]).run Tryz.prog (W.alloc (.cells #[.slice a n c] 24))=.ok (.slice (some ⟨kl,0,none⟩) (1+m) cc) W'∧Below W.heap.size W W' ∧
  Calls Tryz.prog 10 #[.slice (some ⟨kl,0,none⟩) (1+m) cc] W' (fun e w'=>e=.returned (.bool true)∧Below w.heap.size w w'):=by
 obtain ⟨i,hi,he⟩:=Option.map_eq_some_iff.1 infoBB
 simp only[Prod.mk.injEq] at he
 obtain ⟨i1,i2,i3⟩:=he
 obtain ⟨z,hz,hz2⟩:=Option.map_eq_some_iff.1 i3
 have ba:=alloc_below W (.cells #[.slice a n c] 24)
 have hz1:(W.alloc (.cells #[.slice a n c] 24)).heap.size=W.heap.size+1:=World.size_alloc _ _
 have ho:(W.alloc (.cells #[.slice a n c] 24)).ownsRow W.heap.size 24 1 (.slice (some ⟨W.heap.size,0,none⟩) 1 1) 1 [.slice a n c]:=⟨rfl,Or.inr ⟨W.heap.size,1,_,rfl,Nat.le_refl _,Array.getElem?_push_size,Nat.le_refl _,by unfold maxLen;omega,rfl,rfl⟩⟩
 have hap:∃ v' W',(Builtin.append_ #[33,33] 33 #[.slice (some ⟨W.heap.size,0,none⟩) 1 1,.slice q m m]).run Tryz.prog (W.alloc (.cells #[.slice a n c] 24))=.ok v' W'∧W'.ownsRow W.heap.size 24 1 v' (1+m) ([.slice a n c]++(List.range m).map V)∧(W.alloc (.cells #[.slice a n c] 24)).grownBy W' (some W.heap.size):=by
  cases q with
  | none =>
   obtain rfl:=h.qn rfl
   have:=run_append_room_src (P:=Tryz.prog) (W.alloc (.cells #[.slice a n c] 24)) 33 33 33 24 i undBB hi W.heap.size 0 1 1 (.slice none 0 0) 0 [] (Src.ofNil (e':=24) _ undBB 0) (by omega) (fun j hj=>by cases hj) (fun j hj=>by cases hj)
   exact ⟨_,_,this,ho,⟨rfl,rfl,rfl,Nat.le_refl _,fun _ _ _=>rfl⟩⟩
  | some p =>
   have hpc:∃ g,(p=⟨g,0,none⟩∨m=0)∧∀ j u,((List.range m).map V)[j]? = some u→(W.alloc (.cells #[.slice a n c] 24)).cell? (p.add j)=some u:=by
    by_cases hm0:m=0
    ·subst hm0
     exact ⟨0,Or.inr rfl,fun j u hj=>by cases hj⟩
    ·obtain ⟨g,e,h2,h3⟩:=h.pq (by omega)
     obtain rfl:=Option.some.inj e
     refine ⟨g,Or.inl rfl,fun j u hj=>?_⟩
     have hjm:j<m:=by have:=(List.getElem?_eq_some_iff.1 hj).1;simpa using this
     rw[List.getElem?_map,List.getElem?_range hjm] at hj
     obtain rfl:=Option.some.inj hj
     rw[addP0,Nat.zero_add,World.cell?_of_block (a:=⟨g,j,none⟩) (ba.block g (by have:=h.sz;omega))]
     exact h3 j hjm
   obtain ⟨g,-,hc⟩:=hpc
   obtain ⟨v',W',r1,r2,r3,-⟩:=run_append_own (P:=Tryz.prog) (W.alloc (.cells #[.slice a n c] 24)) W.heap.size 33 33 24 i z 1 24 undBB hi hz i1 i2 hz2 (by decide) _ 1 _ ho p m m ((List.range m).map V) (by simp) hc (fun u hu=>by
    obtain ⟨j,hj,rfl⟩:=List.mem_map.1 hu
    obtain ⟨x,y,t,e⟩:=h.sl (List.mem_range.1 hj)
    rw[e]
    rfl) (by unfold maxLen;omega) (by omega) (by omega)
   exact ⟨v',W',r1,r2,r3⟩
 obtain ⟨v',W',r1,r2,r3⟩:=hap
 have hbW:Below W.heap.size W W':=by
  refine ⟨by rw[r3.os];rfl,by rw[r3.tape];rfl,by rw[r3.output];rfl,by have:=r3.size;omega,fun y hy=>?_⟩
  rw[r3.block y (by omega) (fun e=>by have:=Option.some.inj e;omega),ba.block y hy]
 obtain ⟨kl,cc,rfl⟩:=own_shape r2 (by omega)
 have hkl:=own_lt r2 (g:=kl) rfl
 have hsz:=h.sz
 have h':=h.below hbW
 refine ⟨kl,cc,W',r1,hbW,?_⟩
 refine (ApartQ kl (1+m) cc w.heap.size (some ⟨kl,0,none⟩) (fun j=>if j=0 then .slice a n c else V (j-1)) (fun j=>if j=0 then B else S (j-1)) W' (by omega) (fun _=>rfl) ⟨fun j hj=>?_,fun _=>hkl.2.1,fun j hj e=>?_,fun j j' hj hj' hne g' e e'=>?_,fun j hj g' e=>?_⟩ (fun j hj=>?_) (fun j hj=>?_) (Nat.le_trans h.bl.size hbW.size)).mono ?_
 ·have hcell:=own_cellS r2 (j:=j) (u:=if j=0 then .slice a n c else V (j-1)) (by
   by_cases h0:j=0
   ·subst h0;rfl
   ·rw[if_neg h0,List.getElem?_append_right (by simp;omega),List.length_singleton,List.getElem?_map,List.getElem?_range (by omega)]
    rfl)
  exact hcell
 ·by_cases h0:j=0
  ·simp only[if_pos h0] at e
   have:=(h.nl kl e).2
   omega
  ·simp only[if_neg h0] at e
   have:=(h.vl (j-1) (by omega) kl e).2
   omega
 ·by_cases h0:j=0
  ·simp only[if_pos h0] at e
   simp only[if_neg (show ¬ j'=0 by omega)] at e'
   exact h.ni (j'-1) (by omega) g' e' e
  ·simp only[if_neg h0] at e
   by_cases h1:j'=0
   ·simp only[if_pos h1] at e'
    exact h.ni (j-1) (by omega) g' e e'
   ·simp only[if_neg h1] at e'
    exact h.vi (j-1) (j'-1) (by omega) (by omega) (by omega) g' e e'
 ·have hs2:=hbW.size
  by_cases h0:j=0
  ·simp only[if_pos h0] at e
   have:=h.nl g' e
   omega
  ·simp only[if_neg h0] at e
   have:=h.vl (j-1) (by omega) g' e
   omega
 ·by_cases h0:j=0
  ·simp only[if_pos h0]
   exact h'.no.up h'.sz
  ·simp only[if_neg h0]
   exact (h'.ow (j-1) (by omega)).up h'.sz
 ·by_cases h0:j=0
  ·simp only[if_pos h0]
   omega
  ·simp only[if_neg h0]
   have:=hS (j-1) (by omega)
   omega
 ·rintro e w' ⟨rfl,hb⟩
  exact ⟨rfl,h'.bl.trans hb⟩
structure LS (w W:World) (k6 L:Nat) (nm:Value) (q:Option Addr) (m:Nat) (B:Bs) (S:Nat→Bs) (V:Nat→Value) (lv:Value) (bl:Nat):Prop where
 sg:SG w W L nm q m B S V
 ks:Row W k6 [nm,.slice q m m]
 l:W.ownsRow bl 9 1 lv m (strs S m)
theorem LS.drewN {w W:World} {k6 L m bl:Nat} {nm lv:Value} {q:Option Addr} {B:Bs} {S:Nat→Bs} {V:Nat→Value} (h:LS w W k6 L nm q m B S V lv bl) (k:Nat):LS w (W.drewN k) k6 L nm q m B S V lv bl:=⟨h.sg.drewN k,h.ks,h.l⟩
theorem idxPk (g n m c:Nat) (hn:n<m) (w:World):(Instr.indexAt 33 (.slice (some ⟨g,0,none⟩) m c) (.int .i64 n)).run Tryz.prog w=.ok (.pointer (some ⟨g,n,none⟩)) w:=by
 have h3:¬ (n:Int)<0:=by omega
 have h4:(n:Int)<(m:Int):=by omega
 go_simp
theorem idxTk (g n m c:Nat) (hn:n<m) (w:World):(Instr.indexAt 38 (.slice (some ⟨g,0,none⟩) m c) (.int .i64 n)).run Tryz.prog w=.ok (.pointer (some ⟨g,n,none⟩)) w:=by
 have h3:¬ (n:Int)<0:=by omega
 have h4:(n:Int)<(m:Int):=by omega
 go_simp
theorem sets_core (s:ByteArray) (hs:s.size≤4096) (nb x kE m er:Nat) (kB B:Bs) (S:Nat→Bs) (pR pI pE:Int) (w:World) (hT:TabX w)
 (HKey:∀ (W:World) (g c:Nat),s.size≤c→Holds encB W g 0 s.data→TabX W→Calls Tryz.prog 4 #[.slice (some ⟨g,0,none⟩) s.size c,.int .u32 nb,.int .u64 x] W (Ret fun e w'=>Below W.heap.size W w'∧∃ v,e=.tuple #[v,.int .i64 kE]∧Pt w' v kB))
 (HrKey:∀ W:World,Calls Tryz.prog 5 #[.string s,.int .u32 nb,.int .u64 x] W (Ret fun e w'=>Below W.heap.size W w'∧e=.tuple #[.string ⟨kB⟩,.int .i64 kE]))
 (HPl:∀ W:World,TabX W→Calls Tryz.prog 6 #[.int .u64 x] W fun e w'=>e=.returned (.tuple #[.int .i64 pI,.int .i64 pE])∧w'=W)
 (HrPl:∀ W:World,Calls Tryz.prog 7 #[.int .u64 x] W fun e w'=>e=.returned (.int .i64 pR)∧w'=W)
 (hp:(pR<0∧¬ 0≤pR∧pI=0∧pE=7)∨(¬ pR<0∧0≤pR∧pI=pR∧pE=0))
 (HSet:∀ (W:World) (g c:Nat),s.size≤c→Holds encB W g 0 s.data→Calls Tryz.prog 8 #[.slice (some ⟨g,0,none⟩) s.size c,.int .u32 nb] W (Ret fun e w'=>∃ nm q V,e=.tuple #[.agg #[nm,.slice q m m],.int .i64 er]∧SG W w' w'.heap.size nm q m B S V))
 (HrSet:∀ W:World,Calls Tryz.prog 9 #[.string s,.int .u32 nb] W (Ret (RsR W B S m er)))
 (hm:m≤20) (hB:B.size≤100) (hS:∀ i,i<m→(S i).size≤100) :
 Calls Tryz.prog 3 #[.string s,.int .u32 nb,.int .u64 x] w fun e w'=>e=.returned (.bool true)∧Below w.heap.size w w':=by
 have g0:¬ (4096:Int)<(s.size:Int):=by omega
 obtain ⟨c1,w1,hcv,hc1,hb1,hH1,hlt1⟩:=conv_of s w
 have HK:=Hid.mk2 (HKey w1 w.heap.size c1 hc1 hH1 (hT.below hb1))
 have HRK:=Hid.mk2 HrKey
 have HP:=Hid.mk2 HPl
 have HRP:=Hid.mk2 HrPl
 have HSt:=Hid.mk2 HSet
 have HRS:=Hid.mk2 HrSet
 have HM:=Hid.mk2 (And.intro hm (And.intro hB hS))
 have K1:Hid (Below w.heap.size w w1∧TabX w1):=⟨hb1,hT.below hb1⟩
 clear HKey HrKey HPl HrPl HSet HrSet hm hB hS hc1 hH1 hlt1 hb1 hT
 go_enter Tryz.func3,Tryz.ntmps3
 go_wp2_with fail
 refine HK.out.mono ?_
 rintro e w2 ⟨v2,rfl,hb2,vk,rfl,hpt⟩
 have K2:Hid (Below w.heap.size w w2∧TabX w2∧Pt w2 vk kB):=⟨K1.out.1.trans (hb2.mono K1.out.1.size),K1.out.2.below hb2,hpt⟩
 clear hb2 hpt HK K1 hcv
 go_wp2_with fail
 refine (HRK.out w2).mono ?_
 rintro e w3 ⟨v3,rfl,hb3,rfl⟩
 have K3:Hid (Below w.heap.size w w3∧TabX w3):=⟨K2.out.1.trans (hb3.mono K2.out.1.size),K2.out.2.1.below hb3⟩
 have hcv:=(K2.out.2.2.below hb3).conv
 have hsv:∃ a n c,vk=.slice a n c:=by
  obtain ⟨q,c,e,-⟩:=K2.out.2.2
  exact ⟨_,_,_,e⟩
 obtain ⟨a0,n0,c0,rfl⟩:=hsv
 clear hb3 K2 HRK
 go_wp2_with fail
 refine (HP.out w3 K3.out.2).mono ?_
 rintro e w3' ⟨rfl,rfl⟩
 clear HP hcv
 go_wp2_with fail
 refine (HRP.out w3').mono ?_
 rintro e w3 ⟨rfl,rfl⟩
 clear HRP
 obtain ⟨c4,w4,hcv4,hc4,hb4,hH4,hlt4⟩:=conv_of s w3
 have K4:Hid (Below w.heap.size w w4):=K3.out.1.trans (hb4.mono K3.out.1.size)
 have HSt4:=Hid.mk2 (HSt.out w4 w3.heap.size c4 hc4 hH4)
 clear HSt hc4 hb4 hH4 hlt4
 rcases hp with ⟨p1,p2,rfl,rfl⟩|⟨p1,p2,rfl,rfl⟩<;>(
  go_wp2_with fail
  refine HSt4.out.mono ?_
  rintro e w5 ⟨v5,rfl,nm,q,V,rfl,hSG⟩
  obtain ⟨an,cn,hnm⟩:=(RV.of hSG.no).slice
  generalize hnn:Array.size B=nn at hnm
  subst hnm
  obtain ⟨k6,hk6⟩:∃ k6,Hid (w5.heap.size=k6):=⟨_,rfl⟩
  obtain ⟨w6,hw6⟩:∃ w6,Hid (w5.alloc (.cells #[.slice none 0 0,.slice none 0 0] 35)=w6):=⟨_,rfl⟩
  obtain ⟨w7,hw7⟩:∃ w7,Hid (w6.setCells k6 0 [.slice an nn cn,.slice q m m]=w7):=⟨_,rfl⟩
  have r6:Row w6 k6 [.slice none 0 0,.slice none 0 0]:=by rw[← hw6.out,← hk6.out];exact row_new w5 _ _
  have hth:Hid (w6.there k6 0 2):=r6.2.2
  have b57:Below w5.heap.size w5 w7:=by rw[← hw7.out,← hw6.out];exact RG.below_setCells (by rw[hk6.out];exact Nat.le_refl _) _ _ _ (below1 w5 _)
  have r7:Row w7 k6 [.slice an nn cn,.slice q m m]:=by rw[← hw7.out];exact r6.put rfl
  have hSG0:SG w w5 w5.heap.size (.slice an nn cn) q m B S V:=by
   have hs4:=K4.out.size
   have lw:∀ {v:Value} {b:SP.Bs},OwQ w5 w5.heap.size w4.heap.size v b→OwQ w5 w5.heap.size w.heap.size v b:=fun h=>by
    rcases h with ⟨h0,h1|⟨y,cap,cur,h1,h2,h3⟩⟩|⟨y,h1,h2,h3⟩
    ·exact Or.inl ⟨h0,Or.inl h1⟩
    ·exact Or.inl ⟨h0,Or.inr ⟨y,cap,cur,h1,by omega,h3⟩⟩
    ·exact Or.inr ⟨y,h1,by omega,h3⟩
   exact ⟨K4.out.trans (hSG.bl.mono hs4),hSG.sz,lw hSG.no,fun y hy=>⟨by have:=(hSG.nl y hy).1;omega,(hSG.nl y hy).2⟩,hSG.qn,hSG.pq,fun i hi=>lw (hSG.ow i hi),fun i hi y hy=>⟨by have:=(hSG.vl i hi y hy).1;omega,(hSG.vl i hi y hy).2⟩,hSG.ni,hSG.vi⟩
  have K7:Hid (SG w w7 k6 (.slice an nn cn) q m B S V∧Row w7 k6 [.slice an nn cn,.slice q m m]):=by
   rw[hk6.out] at hSG0
   exact ⟨hSG0.below b57,r7⟩
  clear hSG hSG0 hnn r6 r7 b57 K4 HSt4 hcv4
  go_wp2_with (first|(refine wpList_op (v:=.pointer (some ⟨k6,0,none⟩)) (w':=w6) rfl (.alloc 35) rfl ?_ ?_;(rw[← hw6.out,← hk6.out];kernel_rfl))|(refine wpList_store_mid rfl 35 _ _ rfl k6 0 #[.slice an nn cn,.slice q m m] ?_ ?_ ?_ ?_ ?_ ?_;rfl;rfl;exact hth.out;exact iKS;exact one2 _ _ rfl rfl;rw[show (#[.slice an nn cn,.slice q m m]:Array Value).toList=[.slice an nn cn,.slice q m m] from rfl,hw7.out])|fail)
  refine (HRS.out w7).mono ?_
  rintro e w8 ⟨v8,rfl,hb8,q2,c2,rfl,hown⟩
  have K8:Hid (LS w w8 k6 k6 (.slice an nn cn) q m B S V (.slice q2 m c2) w7.heap.size):=⟨K7.out.1.below hb8,K7.out.2.below hb8,hown⟩
  have c0:=K8.out.ks.2.1 0 _ rfl
  have c1:=K8.out.ks.2.1 1 _ rfl
  rw[Nat.zero_add] at c0 c1
  have hcv:=K8.out.sg.pt.conv
  clear hb8 hown K7 HRS hw6 hw7 hth
  go_wp2_with fail
  clear c0 c1 hcv
  go_loopg [16] m (fun gk s16 wr=>∃ n:Nat,n+gk=m∧s16=.int .i64 n∧Hid (LS w wr k6 k6 (.slice an nn cn) q m B S V (.slice q2 m c2) w7.heap.size))
  case atStart=>exact ⟨0,Nat.zero_add _,rfl,K8⟩
  case round =>
   clear K8
   obtain ⟨n,hn,rfl,KM⟩:=hrel
   have c0:=KM.out.ks.2.1 0 _ rfl
   have c1:=KM.out.ks.2.1 1 _ rfl
   rw[Nat.zero_add] at c0 c1
   by_cases hlt:n<m
   ·have hlt':(n:Int)<(m:Int):=by omega
    obtain ⟨g,rfl,-,hcs⟩:=KM.out.sg.pq (by omega)
    have hcn:=hcs n hlt
    obtain ⟨av,nv',cv,hV⟩:=KM.out.sg.sl hlt
    have hptn:=KM.out.sg.pv hlt
    rw[hV] at hcn hptn
    have hcv:=fun k=>Pt.conv (W:=wr.drewN k) hptn
    obtain ⟨g2,c2',e2⟩:=own_shape KM.out.l (by omega)
    injection e2 with e2 _ e3
    subst e2 e3
    have hcl:wr.cell? ⟨g2,n,none⟩=some (.string ⟨S n⟩):=own_cellS KM.out.l (by unfold strs;rw[List.getElem?_map,List.getElem?_range hlt];rfl)
    have hix1:=idxPk g n m m hlt
    have hix2:=idxTk g2 n m c2 hlt
    have hm20:m≤20:=HM.out.1
    generalize S n=X at hcv hcl
    clear hptn hcs hV
    go_wp2_with fail
    go_quiet (fail)
    have KM1:=Hid.mk2 (KM.out.drewN nq)
    clear KM c0 c1 hcn hcv hcl hix1 hix2
    generalize wr.drewN nq=w9 at KM1 ⊢
    go_wp2
    go_roundg (gk-1)
    case measure=>omega
    case rel=>exact ⟨n+1,by omega,rfl,KM1⟩
   ·have hlt':¬ (n:Int)<(m:Int):=by omega
    obtain ⟨kl,cc,W',r1,hbW,hA⟩:=apart_set KM.out.sg HM.out.1 HM.out.2.1 HM.out.2.2
    have c1':(wr.alloc (.cells #[.slice an nn cn] 24)).cell? ⟨k6,1,none⟩=some (.slice q m m):=by
     rw[World.cell?_of_block (a:=⟨k6,1,none⟩) ((below1 wr _).block k6 KM.out.ks.1)]
     exact c1
    clear KM hbW
    go_wp2_with (first|(at_builtin;refine Lib.wpList_append_run _ rfl _ _ 33 33 rfl _ _ rfl rfl _ _ r1 ?_)|fail)
    refine hA.mono ?_
    rintro e w10 ⟨rfl,hb10⟩
    clear hA r1
    go_wp2
    go_ret
    exact ⟨rfl,hb10⟩)
theorem fl3:∃ (P:Nat) (_:NeZero P),Fl3 P:=by
 obtain ⟨P,hz,hP,hc⟩:=EC.cur
 have h0:P=Go.Proofs.YtmepmoalhgehhaaGreatDoor.p0:=by rw[hP];decide +kernel
 have hg:=gap0
 have hr:=refP0
 have h2:2≤Go.Proofs.YtmepmoalhgehhaaGreatDoor.p0%18446744073709551616:=by decide +kernel
 have h4:Go.Proofs.YtmepmoalhgehhaaGreatDoor.p0/4%18446744073709551616<18446744073709551615:=by decide +kernel
 have h3:Go.Proofs.YtmepmoalhgehhaaGreatDoor.p0%4=3:=by decide +kernel
 have h7:7<Go.Proofs.YtmepmoalhgehhaaGreatDoor.p0:=by decide +kernel
 rw[← h0] at hg hr h2 h4 h3 h7
 exact ⟨P,hz,⟨⟨hg,hc,h2,h4,h3,h7⟩,hr⟩⟩
end
/-
  THE ROW OF 'KeysSets' round its walk: a text, two numbers; a table that the program lays; and the tied card.
-/
namespace keysSets
open Go.ChangeShapes Go.WideShapes Go.ChangeAt Go.RowKit Go.Sort Go.Deep
open Go.ChangeMaps (open_string shut_string)
theorem own:ownKnob Tryz.prog.godebug=none:=by kernel_rfl
theorem gTab : Tryz.prog.globalNamed "math/bits.deBruijn64tab" = some 0 := by kernel_rfl
theorem tTab:(Tryz.prog.globals[0]?).map (·.type)=some 76:=by kernel_rfl
theorem uTab:Tryz.prog.underlying 76=some (.array 64 5):=by kernel_rfl
theorem u5:Tryz.prog.underlying 5=some (.int .u8):=by kernel_rfl
theorem c5:Tryz.prog.cellsOf 5=1:=by kernel_rfl
theorem cTab:Tryz.prog.cellsOf 76=64:=by kernel_rfl
theorem door_met (os:Os) (args:Array Value):laidMetH Tryz.prog Rows.keysSetsRow.laid ((World.doorLaid Tryz.prog 14 os).forCall (fun _ _=>0) ⟨#[],args,[]⟩).memory:=
 laidMetH_of_parts3 (fuel:=8) (laidMet_of_run' 8 (by kernel_rfl) (by kernel_rfl)) (by kernel_rfl) (by kernel_rfl)
def zs:List Int:=Lib.deBruijn64tab.map fun n:Nat=>(n:Int)
theorem laid_is : (Rows.keysSetsRow.laid : List (String × DataW Unit)) = [("math/bits.deBruijn64tab", Lib.tabData .u8 zs)] := by kernel_rfl
theorem of_laid {W:World} (h:laidMetH Tryz.prog Rows.keysSetsRow.laid W):TabX W:=by
 rw[MakeChecks.laidMetH_plain _ _ _ (by kernel_rfl),laid_is] at h
 have hT:=Lib.tabIs_of_head gTab tTab uTab u5 c5 cTab h
 intro i hi
 have hl:i<zs.length:=by show i<(Lib.deBruijn64tab.map _).length;rw[List.length_map];exact hi
 rw[hT.cell gTab i hl]
 congr 2
 unfold zs
 rw[List.getD_eq_getElem?_getD,List.getElem?_map,List.getD_eq_getElem?_getD]
 cases Lib.deBruijn64tab[i]? <;> rfl
theorem ordT:Ord Go.Proofs.YtmepmoalhgehhaaGreatDoor.p1:=⟨gap1,refP1,by decide +kernel,by decide +kernel⟩
theorem sets_long (s:ByteArray) (hs:¬ s.size≤4096) (nb x:Nat) (w:World):Calls Tryz.prog 3 #[.string s,.int .u32 nb,.int .u64 x] w fun e w'=>e=.returned (.bool true)∧Below w.heap.size w w':=by
 have g0:(4096:Int)<(s.size:Int):=by omega
 clear hs
 go_enter Tryz.func3,Tryz.ntmps3
 go_wp2
 go_ret
 exact ⟨rfl,Below.refl _ _⟩
theorem setsL (s:ByteArray) (nb:Nat) (hnb:nb<4294967296) (x:Nat) (hx:x<18446744073709551616) (w:World) (hT:TabX w) :
 Calls Tryz.prog 3 #[.string s,.int .u32 nb,.int .u64 x] w fun e w'=>e=.returned (.bool true)∧Below w.heap.size w w':=by
 by_cases hs:s.size≤4096
 ·obtain ⟨P,hz,C⟩:=fl3
  have part:∀ (W:World) (g c:Nat),s.size≤c→Holds encB W g 0 s.data→SP.PartOk W (.slice (some ⟨g,0,none⟩) s.data.size c) s.data.toList:=fun W g c h1 h2=>⟨_,g,0,c,s.data,rfl,rfl,h1,by show s.size≤_;omega,Or.inr ⟨rfl,h2⟩⟩
  have hB:(setB P Go.Proofs.YtmepmoalhgehhaaGreatDoor.p1 s.data nb).size≤100:=by
   unfold setB
   split
   ·unfold nmB
    rw[Array.size_extract]
    omega
   ·exact Nat.zero_le _
  have hM:setM s.data≤20:=by unfold setM;split<;>omega
  have HKey:=fun (W:World) (g c:Nat) h1 h2 h3=>KeyA_c ordT (some ⟨g,0,none⟩) c s.data nb x hnb hx W (part W g c h1 h2) h3
  have HSet:=fun (W:World) (g c:Nat) h1 h2=>SetA_c C.toFld ordT (some ⟨g,0,none⟩) c s.data nb hnb W (part W g c h1 h2)
  rcases pow_cases x with ⟨i,hi,hxi⟩|hn
  ·exact sets_core s hs nb x _ _ _ _ _ _ (i:Int) (i:Int) 0 w hT HKey (fun W=>rKeyA_c ordT s nb x hnb W) (fun W h=>placex_c i hi x hxi W h) (fun W=>rplace_y i x hi hxi W) (Or.inr ⟨by omega,by omega,rfl,rfl⟩) HSet (fun W=>rSetA_c C ordT s nb hnb W) hM hB (fun j _=>by rw[pkB_size];decide)
  ·exact sets_core s hs nb x _ _ _ _ _ _ (-1) 0 7 w hT HKey (fun W=>rKeyA_c ordT s nb x hnb W) (fun W _=>placen_c x hx hn W) (fun W=>rplace_n x hn W) (Or.inl ⟨by omega,by omega,rfl,rfl⟩) HSet (fun W=>rSetA_c C ordT s nb hnb W) hM hB (fun j _=>by rw[pkB_size];decide)
 ·exact sets_long s hs nb x w
theorem lifted (os:Os) (started:os.Started) (H:Type) (enc:TypeId × Value→H) :
 ReturnsInHanded {} Tryz.checked os 3 .any (fun w args=>(Rows.keysSetsSpec.pre enc Tryz.prog Tryz.f3 [] false w args∧laidMetH Tryz.prog Rows.keysSetsRow.laid w)∧sizedMet enc Tryz.prog Tryz.f3 (OpenSpec.ofChange Rows.keysSetsSpec) false w args)
  (Rows.keysSetsSpec.post enc Tryz.prog Tryz.f3 false true false false):=by
 refine returnsInHanded_of_change_and (C:=Tryz.checked) (X:=fun w _=>laidMetH Tryz.prog Rows.keysSetsRow.laid w) (fun _ _ _ hh h=>h.of_heap hh) own started (by kernel_rfl) Tryz.func3
  (ChangeSpec.witness_shaped (enc:=enc) (C:=Tryz.checked) (os:=os) (X:=fun w _=>laidMetH Tryz.prog Rows.keysSetsRow.laid w) false (World.doorLaid Tryz.prog 14 os) #[.string ByteArray.empty,.int .u32 0,.int .u64 0] 8 rfl (World.shaped_of_RefB (by kernel_rfl) (by kernel_rfl)) (by kernel_rfl) (by kernel_rfl) (by kernel_rfl) (door_met os _)) ?_
 intro W base args ds gs before hval0 hW _ _ hL _
 have hval:∀ (j:Nat) t v,Tryz.f3.params[j]? = some t→args[j]? = some v→Value.okWide Tryz.prog W .any base t v:=hval0
 have hW':=hW
 obtain ⟨p,q,hA0,hV,rfl,hfz,hnd⟩:=hW
 have hA:DataW.TrodAll enc Tryz.prog W 0 (fun _=>true) true Tryz.f3.params.toList args.toList ds p:=hA0
 rw[Tryz.params3] at hA hval
 obtain ⟨v0,vs0,d0,ds0,p0,q0,hargs,rfl,rfl,h0,r0⟩:=trodAll_cons hA
 obtain ⟨v1,vs1,d1,ds1,p1',q1,rfl,rfl,rfl,h1,r1⟩:=trodAll_cons r0
 obtain ⟨v2,vs2,d2,ds2,p2,q2,rfl,rfl,rfl,h2,r2⟩:=trodAll_cons r1
 obtain ⟨rfl,rfl,rfl⟩:=trodAll_nil r2
 obtain rfl:args=#[v0,v1,v2]:=by cases args;simp_all
 obtain ⟨rfl,rfl⟩:=trodVars_none hV
 obtain ⟨a0,rfl,rfl,rfl,w0⟩:=open_string Tryz.underlying9 (hval 0 9 v0 rfl rfl) h0
 obtain ⟨a1,rfl,rfl,rfl,w1⟩:=open_int Tryz.underlying22 (hval 1 22 v1 rfl rfl) h1
 obtain ⟨a2,rfl,rfl,rfl,w2⟩:=open_int Tryz.underlying23 (hval 2 23 v2 rfl rfl) h2
 have hr1:0≤a1∧a1≤4294967295:=by
  simp only[Lit.wf,Bool.and_eq_true,decide_eq_true_eq] at w1
  exact w1
 have hr2:0≤a2∧a2≤18446744073709551615:=by
  simp only[Lit.wf,Bool.and_eq_true,decide_eq_true_eq] at w2
  exact w2
 obtain ⟨nb,rfl⟩:∃ nb:Nat,a1=(nb:Int):=⟨a1.toNat,by omega⟩
 obtain ⟨x,rfl⟩:∃ x:Nat,a2=(x:Int):=⟨a2.toNat,by omega⟩
 refine (setsL a0 nb (by omega) x (by omega) W (of_laid hL)).mono fun e W' ⟨he,bel⟩=>?_
 subst he
 exact ⟨_,rfl,_,_,_,[],_,[],hW',trodAll_mk1 (shut_bool Tryz.underlying4 _),(trodAll_cons_mk (shut_string Tryz.underlying9 w0) (trodAll_cons_mk (shut_int Tryz.underlying22 w1) (trodAll_cons_mk (shut_int Tryz.underlying23 w2) trodAll_mk0))),rfl,bel.frame _,fun h=>by cases h⟩
theorem over:Rows.KeysSetsSaid:=
 OpenClaim.holds_of_wide 3 Tryz.f3 rfl rfl rfl rfl rfl rfl rfl ⟨rfl,rfl,rfl,rfl,rfl⟩ rfl rfl rfl rfl rfl (by kernel_rfl) Tryz.func3 (by kernel_rfl)
  (of_decide_eq_true (by kernel_rfl)) (by unfold Func.isWrapper;first|(rw[if_pos (by decide +kernel)];kernel_rfl)|(rw[if_neg (by decide +kernel)];exact ⟨rfl,rfl⟩))
  (fun os started H enc _=>lifted os started H enc)
theorem card_holds : Rows.KeysSetsCardSaid:=
  Claim7.holds_tied_plain_at .later [] [.data] true Rows.keysSetsCard.stood.harness false
    over (fun _ h => by cases h) (by kernel_rfl) (fun _ h => by cases h) keysSets_row_tie rfl ⟨rfl, rfl⟩ (by kernel_rfl) rfl
    (fun f fn hf hfn => by
      obtain rfl : f = 3 := Option.some.inj ((show Tryz.prog.funcNamed "mintvault/mintvaultlaw9.KeysSets" = some 3 by kernel_rfl).symm.trans hf) |>.symm
      obtain rfl : fn=Tryz.f3:=(Option.some.inj (Tryz.func3.symm.trans hfn)).symm
      exact ⟨by kernel_rfl, fun j t ht => by
        rw[Tryz.params3] at ht
        have hm : t ∈ [9, 22, 23]:=by simpa using Array.mem_of_getElem? ht
        have hall : ([9, 22, 23].all fun u => !Tryz.prog.wantsStandIn u)=true:=by kernel_rfl
        exact (show Tryz.prog.wantsStandIn t=false by simpa using List.all_eq_true.1 hall t hm)⟩)
    (by kernel_rfl)
end keysSets
section
theorem keysSets_holds:Rows.KeysSetsCardSaid:=keysSets.card_holds
#print axioms keysSets_holds
end
end Go.Proofs.YtmepmoalhgehhaaGreatDoor
