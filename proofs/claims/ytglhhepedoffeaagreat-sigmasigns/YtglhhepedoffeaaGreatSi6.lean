import Derived.Deep.RegionHeld3
import Derived.Deep.LoopGhost
import Derived.Great.BuildSlice
import Derived.Lib.LazyBuf
import Derived.Laws.AppendOwn
import Derived.Laws.IdiomCopy
import Derived.Test.YtglhhepedoffeaaGreatSi5
set_option linter.unusedVariables false
set_option linter.unusedSimpArgs false
set_option maxRecDepth 1000000
set_option maxHeartbeats 4000000
namespace Go.Proofs.YtglhhepedoffeaaGreat
namespace SP
open Go.RowKit Go.Sort Go.Deep
theorem Holds.prefix {α:Type} [Inhabited α] {f:α→Value} {w:World} {b o:Nat} {d e:Array α} (h:Holds f w b o d) (hs:e.size≤d.size) (he:∀ j,j<e.size→e[j]! = d[j]!):Holds f w b o e:=by
 intro j hj
 rw[he j hj]
 exact h j (by omega)
theorem lentTo_front (s:ByteArray) (k j:Nat) (hj:j<s.data.size):(lentTo s k)[j]! = s.data[j]!:=by
 induction k with
 | zero=>rw[lent_front s j hj,getElem!_pos s.data j hj]
 | succ k ih =>
  show ((lentTo s k).setIfInBounds (s.size+k) (fill (s.size+k)))[j]! = _
  have:s.data.size=s.size:=rfl
  rw[getElem!_set_other _ _ _ _ (by omega),ih]
theorem holds_text {w:World} {b:Nat} (s:ByteArray) (h:Holds encB w b 0 (lent s)):Holds encB w b 0 s.data:=by
 have:s.data.size=s.size:=rfl
 exact Holds.prefix h (by rw[lent_size];omega) (fun j hj=>(lentTo_front s 160 j hj).symm)
end SP
namespace SP
open Go.RowKit Go.Sort Go.Deep
theorem refHash_any (s:ByteArray) (w:World) (hs:s.size≤1048576) :
 Calls Tryz.prog 153 #[.string s] w fun r w'=>r=.returned (.string ⟨hashL s.data.toList⟩)∧Below w.heap.size w w':=by
 go_enter Tryz.func153,Tryz.ntmps153
 go_wp2_with fail
 refine (refSponge_any s 6 32 _ hs (by decide)).mono ?_
 rintro r w1 ⟨rfl,hb⟩
 rw[← hash_stream]
 go_wp2
 go_ret
 exact ⟨rfl,hb⟩
theorem refStream_any (s:ByteArray) (n:Nat) (w:World) (hs:s.size≤1048576) (hn:n≤16384) :
 Calls Tryz.prog 99 #[.string s,.int .i64 n] w fun r w'=>r=.returned (.string ⟨strmL s.data.toList n⟩)∧Below w.heap.size w w':=by
 go_enter Tryz.func99,Tryz.ntmps99
 go_wp2_with fail
 refine (refSponge_any s 31 n _ hs hn).mono ?_
 rintro r w1 ⟨rfl,hb⟩
 go_wp2
 go_ret
 exact ⟨rfl,hb⟩
end SP
namespace SP
open Go.RowKit Go.Sort Go.Deep
theorem refTag_any (label:ByteArray) (pa:Option Addr) (pcap:Nat) (ps:List ByteArray) (w:World) (hlab:label.size≤1048576) (hpl:ps.length≤1048576)
 (hP:ps.length=0∨∃ pb po,pa=some ⟨pb,po,none⟩∧∀ j,j<ps.length→w.cell? ⟨pb,po+j,none⟩=some (.string ps[j]!)) (hsz:∀ j,j<ps.length→(ps[j]!).size≤1048576)
 (htot:(framesL label.data.toList (ps.map fun s=>s.data.toList)).length≤1048576) :
 Calls Tryz.prog 100 #[.string label,.slice pa ps.length pcap] w fun e w'=>e=.returned (.string ⟨tagL label.data.toList (ps.map fun s=>s.data.toList)⟩)∧Below w.heap.size w w':=by
 obtain ⟨n,hn⟩:∃ n,ps.length=n:=⟨_,rfl⟩
 rw[hn]
 have Hn:Hid (ps.length=n):=hn
 have hn20:n≤1048576:=by omega
 clear hn
 go_enter Tryz.func100,Tryz.ntmps100
 go_wp2_with fail
 refine (Frame_any label _ hlab).mono ?_
 rintro e w1 ⟨o1,rfl,ho1,hb1⟩
 go_wp2
 go_loopg [5,6] n (fun g s5 s6 wr=>∃ (k:Nat) (o:ByteArray),k+g=n∧s6=.int .i64 k∧s5=.string o∧Below w.heap.size w wr∧Hid (o.data.toList=framesL label.data.toList ((ps.map fun s=>s.data.toList).take k)))
 case atStart =>
  refine ⟨0,o1,by omega,rfl,rfl,hb1,?_⟩
  rw[List.take_zero]
  unfold framesL
  rw[List.flatMap_nil,List.append_nil]
  exact ho1
 case round =>
  clear ho1 hb1
  obtain ⟨k,o,hk,rfl,rfl,hb,HE⟩:=hrel
  by_cases hlt:k<n
  ·obtain ⟨pb,po,rfl,hPj⟩:∃ pb po,pa=some ⟨pb,po,none⟩∧∀ j,j<ps.length→w.cell? ⟨pb,po+j,none⟩=some (.string ps[j]!):=by
    rcases hP with h|h
    ·have:=Hn.out;omega
    ·exact h
   have hvc:=hPj k (by have:=Hn.out;omega)
   have hszk:=hsz k (by have:=Hn.out;omega)
   obtain ⟨s,hs⟩:∃ s,ps[k]! = s:=⟨_,rfl⟩
   rw[hs] at hvc hszk
   have HS:Hid (s=ps[k]!):=hs.symm
   have hvc':wr.cell? ⟨pb,po+k,none⟩=some (.string s):=by rw[hb.cell (p:=⟨pb,po+k,none⟩) (World.block_lt_of_cell? _ _ hvc)];exact hvc
   have l1:(k:Int)<(n:Int):=by omega
   clear hs hvc hPj
   go_wp2_with fail
   refine (Frame_any s _ hszk).mono ?_
   rintro e w2 ⟨o2,rfl,ho2,hb2⟩
   have HO2:Hid (o2.data.toList=frameL s.data.toList):=ho2
   have hos:o.size≤1048576:=by
    have h1:o.data.toList.length=o.size:=Array.length_toList
    rw[HE.out] at h1
    have:=framesL_take label.data.toList (ps.map fun s=>s.data.toList) k
    omega
   have ho2s:o2.size≤1048580:=by
    have h1:o2.data.toList.length=o2.size:=Array.length_toList
    have h2:s.data.toList.length=s.size:=Array.length_toList
    rw[ho2,frameL_length] at h1
    omega
   clear ho2
   go_wp2
   go_roundg (gk-1)
   case measure=>omega
   case rel =>
    refine ⟨k+1,o++o2,by omega,by go_num,rfl,hb.trans (hb2.mono hb.size),?_⟩
    have hkl:k<(ps.map fun s=>s.data.toList).length:=by rw[List.length_map];have:=Hn.out;omega
    have hkl2:k<ps.length:=by have:=Hn.out;omega
    rw[take_snoc_getD _ k hkl,framesL_snoc,ByteArray.data_append,Array.toList_append,HE.out,HO2.out,getElem!_pos (ps.map fun s=>s.data.toList) k hkl,List.getElem_map,HS.out,getElem!_pos ps k hkl2]
    rfl
  ·have l1:(n:Int)≤(k:Int):=by omega
   have HE2:Hid (o.data.toList=framesL label.data.toList (ps.map fun s=>s.data.toList)):=by
    have e1:(ps.map fun s=>s.data.toList).take k=ps.map fun s=>s.data.toList:=List.take_of_length_le (by rw[List.length_map];have:=Hn.out;omega)
    rw[e1] at HE
    exact HE
   have hos:o.size≤1048576:=by
    have h1:o.data.toList.length=o.size:=Array.length_toList
    rw[HE2.out] at h1
    omega
   clear HE
   go_wp2_with fail
   refine (refHash_any o _ hos).mono ?_
   rintro e w3 ⟨rfl,hb3⟩
   rw[HE2.out]
   go_wp2
   go_ret
   exact ⟨rfl,hb.trans (hb3.mono hb.size)⟩
end SP
namespace SP
open Go.RowKit Go.Sort Go.Deep
def RLog (w:World) (y:Nat) (L:Bs):Prop:=w.cell? ⟨y,0,none⟩=some (.string ⟨L⟩)∧w.frozen? ⟨y,0,none⟩=false
theorem strs_new (W:World) (vs:Array Value) (ps:List ByteArray) (t:TypeId) (hl:vs.size=ps.length) (h:∀ j,j<ps.length→vs[j]! = .string ps[j]!) :
 ∀ j,j<ps.length→(W.alloc (.cells vs t)).cell? ⟨W.heap.size,0+j,none⟩=some (.string ps[j]!):=by
 intro j hj
 have e0:vs.map encV=vs:=by
  have:encV=id:=rfl
  rw[this,Array.map_id]
 have:=(Holds.new (enc:=encV) W t vs j (by omega)).1
 rw[e0,h j hj] at this
 exact this
theorem frames_small (label:List UInt8) (ps:List (List UInt8)) (M:Nat) (hl:label.length≤M) (hp:∀ p∈ps,p.length≤M):(framesL label ps).length≤(ps.length+1)*(M+4):=by
 unfold framesL
 rw[List.length_append,frameL_length]
 have:(ps.flatMap frameL).length≤ps.length*(M+4):=by
  induction ps with
  | nil=>simp
  | cons p ps ih =>
   rw[List.flatMap_cons,List.length_append,frameL_length,List.length_cons,Nat.succ_mul]
   have h1:=hp p (List.mem_cons_self ..)
   have h2:=ih (fun q hq=>hp q (List.mem_cons_of_mem _ hq))
   omega
 rw[Nat.succ_mul]
 omega
theorem refTag_new (lab:ByteArray) (vs:Array Value) (ps:List ByteArray) (n:Nat) (W:World) (hn:ps.length=n) (hv:vs.size=ps.length) (h:∀ j,j<ps.length→vs[j]! = .string ps[j]!) (hlab:lab.size≤16384) (h64:n≤8) (hs:∀ p∈ps,p.size≤16384) :
 Calls Tryz.prog 100 #[.string lab,.slice (some ⟨W.heap.size,0,none⟩) n n] (W.alloc (.cells vs 9)) fun e w'=>e=.returned (.string ⟨tagL lab.data.toList (ps.map fun s=>s.data.toList)⟩)∧Below (W.alloc (.cells vs 9)).heap.size (W.alloc (.cells vs 9)) w':=by
 subst hn
 refine refTag_any lab (some ⟨W.heap.size,0,none⟩) ps.length ps (W.alloc (.cells vs 9)) (by omega) (by omega) (Or.inr ⟨W.heap.size,0,rfl,strs_new W vs ps 9 hv h⟩) (fun j hj=>?_) ?_
 ·rw[getElem!_pos ps j hj]
  have:=hs _ (List.getElem_mem hj)
  omega
 ·have:=frames_small lab.data.toList (ps.map fun s=>s.data.toList) 16384 (by rw[Array.length_toList];exact hlab) (fun p hp=>by
   obtain ⟨s,h1,rfl⟩:=List.mem_map.1 hp
   rw[Array.length_toList]
   exact hs s h1)
  rw[List.length_map] at this
  have h2:(ps.length+1)*(16384+4)≤9*(16384+4):=Nat.mul_le_mul_right _ (by omega)
  omega
theorem rlog_new (w:World) (t:TypeId) (N:Bs):RLog (w.alloc (.cells #[.string ⟨N⟩] t)) w.heap.size N:=by
 have:=Holds.new (enc:=encV) w t #[.string ⟨N⟩] 0 (by simp)
 have e0:(#[Value.string ⟨N⟩]).map encV=#[Value.string ⟨N⟩]:=by
  have:encV=id:=rfl
  rw[this,Array.map_id]
 rw[e0] at this
 exact ⟨this.1,this.2⟩
theorem refNew_any (label:ByteArray) (w:World) (hlab:label.size≤16384) :
 Calls Tryz.prog 105 #[.string label] w fun e w'=>∃ y,e=.returned (.pointer (some ⟨y,0,none⟩))∧w.heap.size≤y∧Below w.heap.size w w'∧RLog w' y (newL label.data.toList):=by
 have hT:=refTag_new ⟨#[108,111,103]⟩ #[.string label] [label] 1 w rfl rfl (fun j hj=>by
  have hj0:j=0:=by simpa using hj
  subst hj0
  rfl) (by decide) (by decide) (fun p hp=>by
  have:p=label:=by simpa using hp
  rw[this];exact hlab)
 go_enter Tryz.func105,Tryz.ntmps105
 go_wp2_with fail
 refine hT.mono ?_
 rintro e w2 ⟨rfl,hb2⟩
 have hN:tagL (⟨#[108,111,103]⟩:ByteArray).data.toList ([label].map fun s=>s.data.toList)=newL label.data.toList:=rfl
 rw[hN]
 obtain ⟨N,hNe⟩:∃ N,newL label.data.toList=N:=⟨_,rfl⟩
 rw[hNe]
 have HN:Hid (N=newL label.data.toList):=hNe.symm
 clear hNe hN hT
 have hb2':Below w.heap.size w w2:=((Below.refl _ _).alloc (Nat.le_refl _) _).trans (hb2.mono (by simp))
 have hs2:=hb2'.size
 go_wp2
 go_ret
 rw[← HN.out]
 exact ⟨w2.heap.size,rfl,by omega,hb2'.alloc (by omega) _,rlog_new _ _ _⟩
theorem RLog.lt {w:World} {y:Nat} {L:Bs} (h:RLog w y L):y<w.heap.size:=World.block_lt_of_cell? _ _ h.1
theorem RLog.below {w w1:World} {y:Nat} {L:Bs} (h:RLog w y L) (k:Below w.heap.size w w1):RLog w1 y L:=by
 have h2:=(Only.of_below (b:=w.heap.size) (off:=0) (n:=0) (B:=w.heap.size) k rfl)
 have hy:=h.lt
 have e:=k.block y hy
 unfold RLog World.cell? World.frozen? at *
 simp only at *
 rw[e]
 exact h
theorem RLog.set {w:World} {y:Nat} {L:Bs} (h:RLog w y L) (M:Bs):RLog (w.setCell ⟨y,0,none⟩ (.string ⟨M⟩)) y M:=by
 have h1:Holds encV w y 0 #[.string ⟨L⟩]:=by
  intro j hj
  have hj0:j=0:=by simpa using hj
  subst hj0
  exact ⟨h.1,h.2⟩
 have:=Holds.set h1 (i:=0) (by simp) (.string ⟨M⟩)
 have h2:=this 0 (by simp)
 simp only[Nat.add_zero] at h2
 exact ⟨by simpa[encV] using h2.1,h2.2⟩
theorem refSay_any (y:Nat) (L:Bs) (label text:ByteArray) (w:World) (hlab:label.size≤16384) (ht:text.size≤16384) (hl:L.size=32) (hL:RLog w y L) :
 Calls Tryz.prog 106 #[.pointer (some ⟨y,0,none⟩),.string label,.string text] w fun e w'=>e=.returned (.tuple #[])∧Only y 0 1 w w'∧RLog w' y (sayL L label.data.toList text.data.toList):=by
 have hy:=hL.lt
 have hT:=refTag_new ⟨#[115,97,121]⟩ #[.string ⟨L⟩,.string label,.string text] [⟨L⟩,label,text] 3 w rfl rfl (fun j hj=>by
  have hj3:j<3:=hj
  match j,hj3 with
  | 0,_=>rfl
  | 1,_=>rfl
  | 2,_=>rfl) (by decide) (by decide) (fun p hp=>by
  simp only[List.mem_cons,List.not_mem_nil,or_false] at hp
  rcases hp with rfl|rfl|rfl
  ·show L.size≤16384;omega
  ·exact hlab
  ·exact ht)
 obtain ⟨N,hNe⟩:∃ N,sayL L label.data.toList text.data.toList=N:=⟨_,rfl⟩
 have hT':Calls Tryz.prog 100 #[.string ⟨#[115,97,121]⟩,.slice (some ⟨w.heap.size,0,none⟩) 3 3] (w.alloc (.cells #[.string ⟨L⟩,.string label,.string text] 9)) fun e w'=>e=.returned (.string ⟨N⟩)∧Below (w.alloc (.cells #[.string ⟨L⟩,.string label,.string text] 9)).heap.size (w.alloc (.cells #[.string ⟨L⟩,.string label,.string text] 9)) w':=by
  rw[← hNe];exact hT
 rw[hNe]
 have HT:Hid (Calls Tryz.prog 100 #[.string ⟨#[115,97,121]⟩,.slice (some ⟨w.heap.size,0,none⟩) 3 3] (w.alloc (.cells #[.string ⟨L⟩,.string label,.string text] 9)) fun e w'=>e=.returned (.string ⟨N⟩)∧Below (w.alloc (.cells #[.string ⟨L⟩,.string label,.string text] 9)).heap.size (w.alloc (.cells #[.string ⟨L⟩,.string label,.string text] 9)) w'):=hT'
 have hb1:Below w.heap.size w (w.alloc (.cells #[.string ⟨L⟩,.string label,.string text] 9)):=(Below.refl _ _).alloc (Nat.le_refl _) _
 obtain ⟨c0,f0⟩:=hL
 clear hT hT' hNe
 go_enter Tryz.func106,Tryz.ntmps106
 go_wp2_with fail
 refine (HT.out).mono ?_
 rintro e w2 ⟨rfl,hb2⟩
 have hb2':Below w.heap.size w w2:=hb1.trans (hb2.mono hb1.size)
 have hL2:=RLog.below ⟨c0,f0⟩ hb2'
 have hO2:Only y 0 1 w w2:=Only.of_below hb2' rfl hy
 obtain ⟨c2,f2⟩:=hL2
 clear HT hb1 hb2 c0 f0
 go_wp2
 go_end0
 exact ⟨rfl,hO2.setCell (by omega) (by omega) _,RLog.set ⟨c2,f2⟩ N⟩
theorem refTag2 (lab:ByteArray) (hlab:lab.size≤16384) (L:Bs) (hl:L.size=32) (label:ByteArray) (hs:label.size≤16384) (w:World) :
 Calls Tryz.prog 100 #[.string lab,.slice (some ⟨w.heap.size,0,none⟩) 2 2] (w.alloc (.cells #[.string ⟨L⟩,.string label] 9)) fun e w'=>e=.returned (.string ⟨tagL lab.data.toList [L.toList,label.data.toList]⟩)∧Below (w.alloc (.cells #[.string ⟨L⟩,.string label] 9)).heap.size (w.alloc (.cells #[.string ⟨L⟩,.string label] 9)) w':=
 refTag_new lab #[.string ⟨L⟩,.string label] [⟨L⟩,label] 2 w rfl rfl (fun j hj=>by
  have hj3:j<2:=hj
  match j,hj3 with
  | 0,_=>rfl
  | 1,_=>rfl) hlab (by decide) (fun p hp=>by
  simp only[List.mem_cons,List.not_mem_nil,or_false] at hp
  rcases hp with rfl|rfl
  ·show L.size≤16384;omega
  ·exact hs)
theorem refAsk_any (y:Nat) (L:Bs) (label:ByteArray) (n:Nat) (w:World) (hlab:label.size≤16384) (hn:n≤1024) (hl:L.size=32) (hL:RLog w y L) :
 Calls Tryz.prog 156 #[.pointer (some ⟨y,0,none⟩),.string label,.int .i64 n] w fun e w'=>e=.returned (.string ⟨askL L label.data.toList n⟩)∧Only y 0 1 w w'∧RLog w' y (askedL L label.data.toList):=by
 have hy:=hL.lt
 have hT:=refTag2 ⟨#[97,115,107]⟩ (by decide) L hl label hlab w
 obtain ⟨T,hTe⟩:∃ T,tagL [97,115,107] [L.toList,label.data.toList]=T:=⟨_,rfl⟩
 have hTs:T.size=32:=by rw[← hTe,tagL_size]
 obtain ⟨N,hNe⟩:∃ N,askedL L label.data.toList=N:=⟨_,rfl⟩
 obtain ⟨A,hAe⟩:∃ A,askL L label.data.toList n=A:=⟨_,rfl⟩
 have HA:Hid (strmL T.toList n=A):=by
  show _=_
  rw[← hAe,← hTe]
  rfl
 have HN:Hid (tagL [97,115,107,101,100] [L.toList,label.data.toList]=N):=hNe
 have HT:Hid (Calls Tryz.prog 100 #[.string ⟨#[97,115,107]⟩,.slice (some ⟨w.heap.size,0,none⟩) 2 2] (w.alloc (.cells #[.string ⟨L⟩,.string label] 9)) fun e w'=>e=.returned (.string ⟨T⟩)∧Below (w.alloc (.cells #[.string ⟨L⟩,.string label] 9)).heap.size (w.alloc (.cells #[.string ⟨L⟩,.string label] 9)) w'):=by
  show Calls _ _ _ _ _
  rw[← hTe];exact hT
 rw[hNe,hAe]
 have hb1:Below w.heap.size w (w.alloc (.cells #[.string ⟨L⟩,.string label] 9)):=(Below.refl _ _).alloc (Nat.le_refl _) _
 obtain ⟨c0,f0⟩:=hL
 clear hT hNe hAe hTe
 go_enter Tryz.func156,Tryz.ntmps156
 go_wp2_with fail
 refine (HT.out).mono ?_
 rintro e w2 ⟨rfl,hb2⟩
 have hb2':Below w.heap.size w w2:=hb1.trans (hb2.mono hb1.size)
 clear HT hb1 hb2
 go_wp2_with fail
 refine (refStream_any ⟨T⟩ n _ (by show T.size≤1048576;omega) (by omega)).mono ?_
 rintro e w3 ⟨rfl,hb3⟩
 have hAA:strmL (⟨T⟩:ByteArray).data.toList n=A:=HA.out
 rw[hAA]
 have hb3':Below w.heap.size w w3:=hb2'.trans (hb3.mono hb2'.size)
 have hL3:=RLog.below ⟨c0,f0⟩ hb3'
 have hO3:Only y 0 1 w w3:=Only.of_below hb3' rfl hy
 have hy3:=hL3.lt
 obtain ⟨c3,f3⟩:=hL3
 have hT4:=refTag2 ⟨#[97,115,107,101,100]⟩ (by decide) L hl label hlab w3
 have HT4:Hid (Calls Tryz.prog 100 #[.string ⟨#[97,115,107,101,100]⟩,.slice (some ⟨w3.heap.size,0,none⟩) 2 2] (w3.alloc (.cells #[.string ⟨L⟩,.string label] 9)) fun e w'=>e=.returned (.string ⟨N⟩)∧Below (w3.alloc (.cells #[.string ⟨L⟩,.string label] 9)).heap.size (w3.alloc (.cells #[.string ⟨L⟩,.string label] 9)) w'):=by
  show Calls _ _ _ _ _
  rw[← HN.out];exact hT4
 have hb4:Below w3.heap.size w3 (w3.alloc (.cells #[.string ⟨L⟩,.string label] 9)):=(Below.refl _ _).alloc (Nat.le_refl _) _
 clear c0 f0 hT4 hb2' hb3 hb3' hAA HA HN
 go_wp2_with fail
 refine (HT4.out).mono ?_
 rintro e w5 ⟨rfl,hb5⟩
 have hb5':Below w3.heap.size w3 w5:=hb4.trans (hb5.mono hb4.size)
 have hL5:=RLog.below ⟨c3,f3⟩ hb5'
 have hO5:Only y 0 1 w w5:=hO3.trans (Only.of_below hb5' rfl hy3)
 obtain ⟨c5,f5⟩:=hL5
 clear c3 f3 HT4 hb4 hb5 hb5' hO3
 go_wp2
 go_ret
 exact ⟨rfl,hO5.setCell (by omega) (by omega) _,RLog.set ⟨c5,f5⟩ N⟩
end SP
section
open Go.RowKit Go.Sort Go.Deep
variable {P:Nat} [NeZero P] {N:Nat}
theorem modS_of {w W:World} {k0 k1 k7 p0 p1 p2 p3 c0 c1 c2 c3 x0 x1 x2 x3 x4 x5 x6 x7:Nat} (h:Kept w k0 [⟨k0,0,p0,p1,p2,p3⟩,⟨k0,4,c0,c1,c2,c3⟩,⟨k7,0,x0,x1,x2,x3⟩,⟨k7,4,x4,x5,x6,x7⟩,⟨k1,0,0,0,0,0⟩] W):W.cell? ⟨k0,0,none⟩=some (.int .u64 p0)∧W.cell? ⟨k0,1,none⟩=some (.int .u64 p1)∧W.cell? ⟨k0,2,none⟩=some (.int .u64 p2)∧W.cell? ⟨k0,3,none⟩=some (.int .u64 p3)∧W.cell? ⟨k0,4,none⟩=some (.int .u64 c0)∧W.cell? ⟨k0,5,none⟩=some (.int .u64 c1)∧W.cell? ⟨k0,6,none⟩=some (.int .u64 c2)∧W.cell? ⟨k0,7,none⟩=some (.int .u64 c3)∧W.cell? ⟨k7,0,none⟩=some (.int .u64 x0)∧W.cell? ⟨k7,1,none⟩=some (.int .u64 x1)∧W.cell? ⟨k7,2,none⟩=some (.int .u64 x2)∧W.cell? ⟨k7,3,none⟩=some (.int .u64 x3)∧W.cell? ⟨k7,4,none⟩=some (.int .u64 x4)∧W.cell? ⟨k7,5,none⟩=some (.int .u64 x5)∧W.cell? ⟨k7,6,none⟩=some (.int .u64 x6)∧W.cell? ⟨k7,7,none⟩=some (.int .u64 x7)∧Kept w k0 [⟨k0,0,p0,p1,p2,p3⟩,⟨k0,4,c0,c1,c2,c3⟩,⟨k7,0,x0,x1,x2,x3⟩,⟨k7,4,x4,x5,x6,x7⟩,⟨k1,0,0,0,0,0⟩] W:=
 ⟨h.head.c0,h.head.c1,h.head.c2,h.head.c3,h.tail.head.c0,h.tail.head.c1,h.tail.head.c2,h.tail.head.c3,h.tail.tail.head.c0,h.tail.tail.head.c1,h.tail.tail.head.c2,h.tail.tail.head.c3,h.tail.tail.tail.head.c0,h.tail.tail.tail.head.c1,h.tail.tail.tail.head.c2,h.tail.tail.tail.head.c3,h⟩
theorem mod_bound {v:Value} {n B:Nat} (hF:Four v n) (hB:B<256):n*val 256 0 0 0+(val B 0 0 0+top*val 0 0 0 0)<top*top:=by
 have h1:=hF.lt
 have e1:val 256 0 0 0=256:=rfl
 have e2:val B 0 0 0=B:=by unfold val;omega
 have e3:val 0 0 0 0=0:=rfl
 have h2:n*256≤(top-1)*256:=Nat.mul_le_mul_right _ (by omega)
 have h3:(top-1)*256+256≤top*top:=by unfold top;decide
 rw[e1,e2,e3]
 omega
theorem mod_step (P:Nat) (s:ByteArray) (k:Nat) (hk:k<s.size) :
 (beV (s.data.extract 0 k).toList%P*val 256 0 0 0+(val s[k].toNat 0 0 0+top*val 0 0 0 0))%P=beV (s.data.extract 0 (k+1)).toList%P:=by
 have e:(s.data.extract 0 (k+1)).toList=(s.data.extract 0 k).toList++[s[k]]:=by
  rw[Array.extract_succ_right (by omega) hk,Array.toList_push]
  rfl
 have e1:val 256 0 0 0=256:=rfl
 have e2:val s[k].toNat 0 0 0=s[k].toNat:=by unfold val;omega
 have e3:val 0 0 0 0=0:=rfl
 rw[e,beV_append,e1,e2,e3,Nat.mul_zero,Nat.add_zero,Nat.add_mod,Nat.mul_mod,Nat.mod_mod,← Nat.mul_mod,← Nat.add_mod]
 simp[beV]
theorem rMod_any (p0 p1 p2 p3 c0 c1 c2 c3 P:Nat) (s:ByteArray) (hR:RefP p0 p1 p2 p3 c0 c1 c2 c3 P) (hs:s.size≤1048576) (w:World) :
 Calls Tryz.prog 98 #[.agg #[.int .u64 p0,.int .u64 p1,.int .u64 p2,.int .u64 p3,.int .u64 c0,.int .u64 c1,.int .u64 c2,.int .u64 c3],.string s] w (Ret fun e w'=>Below w.heap.size w w'∧Four e (beV s.data.toList%P)):=by
 have HR:Hid (RefP p0 p1 p2 p3 c0 c1 c2 c3 P):=hR
 clear hR
 go_enter Tryz.func98,Tryz.ntmps98
 go_wp2
 have FR:=((At8.made w 64 p0 p1 p2 p3 c0 c1 c2 c3 rfl).alloc (.cells #[.int .u64 0,.int .u64 0,.int .u64 0,.int .u64 0] 60)).alloc (.cells #[.int .u64 0,.int .u64 0,.int .u64 0,.int .u64 0] 60)
 have RE:=(At4.made (w.alloc (.cells #[.int .u64 p0,.int .u64 p1,.int .u64 p2,.int .u64 p3,.int .u64 c0,.int .u64 c1,.int .u64 c2,.int .u64 c3] 64)) 60 0 0 0 0 (World.size_alloc _ _)).alloc (.cells #[.int .u64 0,.int .u64 0,.int .u64 0,.int .u64 0] 60)
 have NN:=At4.made ((w.alloc (.cells #[.int .u64 p0,.int .u64 p1,.int .u64 p2,.int .u64 p3,.int .u64 c0,.int .u64 c1,.int .u64 c2,.int .u64 c3] 64)).alloc (.cells #[.int .u64 0,.int .u64 0,.int .u64 0,.int .u64 0] 60)) 60 0 0 0 0 (k:=w.heap.size+1+1) (by simp)
 have KP:=((((Kept.mk1 (below3 w (.cells #[.int .u64 p0,.int .u64 p1,.int .u64 p2,.int .u64 p3,.int .u64 c0,.int .u64 c1,.int .u64 c2,.int .u64 c3] 64) (.cells #[.int .u64 0,.int .u64 0,.int .u64 0,.int .u64 0] 60) (.cells #[.int .u64 0,.int .u64 0,.int .u64 0,.int .u64 0] 60)) (below3 w (.cells #[.int .u64 p0,.int .u64 p1,.int .u64 p2,.int .u64 p3,.int .u64 c0,.int .u64 c1,.int .u64 c2,.int .u64 c3] 64) (.cells #[.int .u64 0,.int .u64 0,.int .u64 0,.int .u64 0] 60) (.cells #[.int .u64 0,.int .u64 0,.int .u64 0,.int .u64 0] 60)).size).cons RE.blk).cons NN.blk).cons (x:=⟨w.heap.size,4,c0,c1,c2,c3⟩) ⟨FR.c4,FR.c5,FR.c6,FR.c7,FR.fz⟩).cons (x:=⟨w.heap.size,0,p0,p1,p2,p3⟩) ⟨FR.c0,FR.c1,FR.c2,FR.c3,FR.fz⟩
 clear FR RE NN
 generalize World.alloc _ _=W0 at KP ⊢
 go_loopg [6] s.size (fun gk s6 wr=>∃ (k a b c d:Nat),k+gk=s.size∧s6=.int .i64 k∧Kept w w.heap.size [⟨w.heap.size,0,p0,p1,p2,p3⟩,⟨w.heap.size,4,c0,c1,c2,c3⟩,⟨w.heap.size+1+1,0,a,b,c,d⟩,⟨w.heap.size+1,0,0,0,0,0⟩] wr ∧
  Hid (Four (.agg #[.int .u64 a,.int .u64 b,.int .u64 c,.int .u64 d]) (beV (s.data.extract 0 k).toList%P)))
 case atStart =>
  refine ⟨0,0,0,0,0,Nat.zero_add _,rfl,KP,?_⟩
  have:beV (s.data.extract 0 0).toList=0:=by simp[beV]
  rw[this,Nat.zero_mod]
  exact Four.mk (by decide) (by decide) (by decide) (by decide) rfl
 case round =>
  clear KP
  obtain ⟨k,a,b,c,d,hk,rfl,KP,HF⟩:=hrel
  generalize h2:w.heap.size+1+1=k2 at KP ⊢
  generalize h1:w.heap.size+1=k1 at KP ⊢
  have H:Hid (w.heap.size+1=k1∧w.heap.size+1+1=k2):=⟨h1,h2⟩
  have Q1:Hid (w.heap.size≤k1):=by unfold Hid;omega
  have Q2:Hid (w.heap.size≤k2):=by unfold Hid;omega
  have n12:k2≠k1:=by omega
  have n02:k2≠w.heap.size:=by omega
  generalize h0:w.heap.size=k0 at KP Q1 Q2 n02 ⊢
  have H0:Hid (w.heap.size=k0):=h0
  clear h0 h1 h2
  obtain ⟨nc0,nc1,nc2,nc3,nf⟩:=KP.tail.tail.head.at4
  have z2:=KP.tail.tail.head.lt
  by_cases hlt:k<s.size
  ·have hlt':(k:Int)<(s.size:Int):=by omega
   go_wp2_with fail
   refine (rproduct_any _ _ _ _ HF.out (Four.mk (a:=256) (b:=0) (c:=0) (d:=0) (by decide) (by decide) (by decide) (by decide) rfl) _).mono ?_
   rintro r w1 ⟨v,rfl,hb1,hE1⟩
   obtain ⟨x0,x1,x2,x3,x4,x5,x6,x7,rfl,hx0,hx1,hx2,hx3,hx4,hx5,hx6,hx7,hxe⟩:=id hE1
   clear hxe nc0 nc1 nc2 nc3 nf z2
   replace KP:=KP.call hb1
   clear hb1
   have A7:=At8.made w1 150 x0 x1 x2 x3 x4 x5 x6 x7 rfl
   have T2:=KP.tail.tail.head.at4.alloc (.cells #[.int .u64 x0,.int .u64 x1,.int .u64 x2,.int .u64 x3,.int .u64 x4,.int .u64 x5,.int .u64 x6,.int .u64 x7] 150)
   have KP7:Kept w k0 [⟨k0,0,p0,p1,p2,p3⟩,⟨k0,4,c0,c1,c2,c3⟩,⟨w1.heap.size,0,x0,x1,x2,x3⟩,⟨w1.heap.size,4,x4,x5,x6,x7⟩,⟨k1,0,0,0,0,0⟩] _:=
    ((((KP.alloc _).tail.tail.tail.cons (x:=⟨w1.heap.size,4,x4,x5,x6,x7⟩) ⟨A7.c4,A7.c5,A7.c6,A7.c7,A7.fz⟩).cons (x:=⟨w1.heap.size,0,x0,x1,x2,x3⟩) ⟨A7.c0,A7.c1,A7.c2,A7.c3,A7.fz⟩).cons (x:=⟨k0,4,c0,c1,c2,c3⟩) (KP.alloc _).tail.head).cons (x:=⟨k0,0,p0,p1,p2,p3⟩) (KP.alloc _).head
   have n72:k2≠w1.heap.size:=Nat.ne_of_lt KP.tail.tail.head.lt
   clear A7 KP
   have KP:=KP7
   clear KP7
   have z0:=KP.head.lt
   go_wp2_with fail
   generalize World.alloc _ _=W7 at KP T2 ⊢
   generalize w1.heap.size=k7 at KP n72 ⊢
   have hl2:∀ x∈([⟨k0,0,p0,p1,p2,p3⟩,⟨k0,4,c0,c1,c2,c3⟩,⟨k7,0,x0,x1,x2,x3⟩,⟨k7,4,x4,x5,x6,x7⟩,⟨k1,0,0,0,0,0⟩]:List Blk),k2≠x.k:=by simp only[List.mem_cons,List.not_mem_nil,or_false];rintro x (rfl|rfl|rfl|rfl|rfl);exact n02;exact n02;exact n72;exact n72;exact n12
   have HE1:Hid (Eight _ _):=hE1
   obtain ⟨B,hB⟩:∃ B,s[k].toNat=B:=⟨_,rfl⟩
   have hB256:B<256:=hB ▸ s[k].toNat_lt
   have hsb:IntKind.u64.wrap (s[k].toNat:Int)=(B:Int):=by rw[hB];exact wrapN _ (by omega)
   have HFX:Hid _:=mod_step P s k hlt
   have HB:Hid (s[k].toNat=B):=hB
   clear hE1 hB z0
   obtain ⟨tc0,tc1,tc2,tc3,tf⟩:=id T2
   have zt:=T2.lt
   go_region_held3 (fun w'=>w'.cell? ⟨k0,0,none⟩=some (.int .u64 p0)∧w'.cell? ⟨k0,1,none⟩=some (.int .u64 p1)∧w'.cell? ⟨k0,2,none⟩=some (.int .u64 p2)∧w'.cell? ⟨k0,3,none⟩=some (.int .u64 p3)∧w'.cell? ⟨k0,4,none⟩=some (.int .u64 c0)∧w'.cell? ⟨k0,5,none⟩=some (.int .u64 c1)∧w'.cell? ⟨k0,6,none⟩=some (.int .u64 c2)∧w'.cell? ⟨k0,7,none⟩=some (.int .u64 c3)∧w'.cell? ⟨k7,0,none⟩=some (.int .u64 x0)∧w'.cell? ⟨k7,1,none⟩=some (.int .u64 x1)∧w'.cell? ⟨k7,2,none⟩=some (.int .u64 x2)∧w'.cell? ⟨k7,3,none⟩=some (.int .u64 x3)∧w'.cell? ⟨k7,4,none⟩=some (.int .u64 x4)∧w'.cell? ⟨k7,5,none⟩=some (.int .u64 x5)∧w'.cell? ⟨k7,6,none⟩=some (.int .u64 x6)∧w'.cell? ⟨k7,7,none⟩=some (.int .u64 x7)∧Kept w k0 [⟨k0,0,p0,p1,p2,p3⟩,⟨k0,4,c0,c1,c2,c3⟩,⟨k7,0,x0,x1,x2,x3⟩,⟨k7,4,x4,x5,x6,x7⟩,⟨k1,0,0,0,0,0⟩] w') (first|(with_reducible exact modS_of KP)|(with_reducible exact modS_of KP.drew)|(with_reducible exact modS_of (KP.set4' Q2.out hl2 _ _ _ _))|(with_reducible exact modS_of (KP.set4' Q2.out hl2 _ _ _ _).drew)|fail) (first|(go_at_call 109;refine (rplus_any _ _ _ _ HE1.out ⟨B,0,0,0,0,0,0,0,rfl,by omega,by decide,by decide,by decide,by decide,by decide,by decide,by decide,rfl⟩ (mod_bound HF.out hB256) _).mono ?_;rintro r w2 ⟨v,rfl,hb2,hE2⟩;obtain ⟨y0,y1,y2,y3,y4,y5,y6,y7,rfl,hy0,hy1,hy2,hy3,hy4,hy5,hy6,hy7,hye⟩:=id hE2;clear hye;have HE2:Hid (Eight _ _):=hE2;clear hE2;have KP1:=KP.drew.call hb2;have T1:=T2.drew.call hb2;clear KP T2 hb2;have KP:=KP1;have T2:=T1;clear KP1 T1;obtain ⟨tc0,tc1,tc2,tc3,tf⟩:=id T2;have zt:=T2.lt)|(go_at_call 108;refine (rLess_any p0 p1 p2 p3 c0 c1 c2 c3 P _ _ HR.out.hp0 HR.out.hp1 HR.out.hp2 HR.out.hp3 HR.out.hc0 HR.out.hc1 HR.out.hc2 HR.out.hc3 HR.out.eP HR.out.hP HR.out.hP2 HE2.out _).mono ?_;rintro r w3 ⟨v,rfl,hb3,hF3⟩;obtain ⟨a',b',c',d',rfl,ha',hb',hc',hd',es3⟩:=id hF3;clear es3;have HF3:Hid (Four _ _):=hF3;clear hF3;have KP1:=KP.call hb3;have T1:=T2.call hb3;clear KP T2 hb3;have KP:=KP1;have T2:=T1;clear KP1 T1;obtain ⟨tc0,tc1,tc2,tc3,tf⟩:=id T2;have zt:=T2.lt))
   go_wp2
   obtain ⟨q1,q2⟩:=H.out
   have q0:=H0.out
   subst q1 q2 q0
   go_roundg (gk-1)
   case measure=>omega
   case rel =>
    refine ⟨k+1,a',b',c',d',by omega,rfl,?_,?_⟩
    ·have K3:=KP.set4' Q2.out hl2 (.int .u64 a') (.int .u64 b') (.int .u64 c') (.int .u64 d')
     exact (((K3.tail.tail.tail.tail).cons (T2.self4 a' b' c' d').blk).cons K3.tail.head).cons K3.head
    ·have h1:=HF3.out
     rw[HB.out] at HFX
     unfold Hid
     rw[← HFX.out]
     exact h1
  ·have hk2:k=s.size:=by omega
   have hge:¬ ((k:Int)<(s.size:Int)):=by omega
   obtain ⟨rc0,rc1,rc2,rc3,rf⟩:=KP.tail.tail.tail.head.at4
   have z1:=KP.tail.tail.tail.head.lt
   have HK:Hid (k=s.size):=hk2
   clear hk2
   go_wp2
   have RF:=KP.tail.tail.tail.head.at4.self4 a b c d
   unfold set4 at RF
   refine bodyPost_ret (v:=?v) ?hr rfl ?hR
   case hr=>simp[results,Tryz.results98,go_sem,RF.c0,RF.c1,RF.c2,RF.c3];rfl
   refine ⟨_,rfl,?_,?_⟩
   ·rw[H0.out]
    exact below_set4 KP.bl Q1.out _ _ _ _
   ·have:=HF.out
    rw[HK.out,show s.size=s.data.size from rfl,Array.extract_size] at this
    exact this
end
section
open Go.RowKit Go.Sort
variable {P:Nat} [NeZero P] {N:Nat}
def rl0:List Value:=[.int .u64 18446744069414583343,.int .u64 18446744073709551615,.int .u64 18446744073709551615,.int .u64 18446744073709551615,.int .u64 4294968273,.int .u64 0,.int .u64 0,.int .u64 0]
def rv0:Value:=.agg rl0.toArray
structure Fl3 (P:Nat) [NeZero P]:Prop extends Fld P where
 ref:RefP 18446744069414583343 18446744073709551615 18446744073709551615 18446744073709551615 4294968273 0 0 0 P
theorem rMake_c:Gives 97 #[.int .i64 0] rv0:=fun w=>(rMake0 w).mono (by rintro e w' ⟨v,rfl,hb,rfl⟩;exact ⟨_,rfl,hb,rfl⟩)
theorem rAdd_c (h:Fl3 P) (x y:Fin P):Gives 46 #[rv0,fv x,fv y] (fv (x+y)):=fun w =>
 (rAdd_R h.ref (h.four x) (h.four y) w).mono (by rintro e w' ⟨v,rfl,hb,hF⟩;exact ⟨_,rfl,hb,hF.nv⟩)
theorem rMul_c (h:Fl3 P) (x y:Fin P):Gives 47 #[rv0,fv x,fv y] (fv (x*y)):=fun w =>
 (rMul_R h.ref (h.four x) (h.four y) w).mono (by rintro e w' ⟨v,rfl,hb,hF⟩;exact ⟨_,rfl,hb,hF.nv⟩)
theorem rSub_c (h:Fl3 P) (x y:Fin P):Gives 113 #[rv0,fv x,fv y] (fv (x-y)):=fun w =>
 (rSub_any _ _ _ _ _ _ _ _ P _ _ x.val y.val h.ref (h.four x) (h.four y) y.isLt w).mono (by rintro e w' ⟨v,rfl,hb,hF⟩;rw[sub_fin] at hF;exact ⟨_,rfl,hb,hF.nv⟩)
theorem rInv_c (h:Fl3 P) (x:Fin P):Gives 104 #[rv0,fv x] (fv (EC.inv x)):=fun w =>
 (rInv_any _ _ _ _ _ _ _ _ P _ x.val h.ref (h.four x) w).mono (by rintro e w' ⟨v,rfl,hb,hF⟩;exact ⟨_,rfl,hb,hF.nv⟩)
theorem rZero_t (h:Fl3 P) {x:Fin P} (e:x=0):Gives 96 #[fv x] (.bool true):=fun w =>
 (rZero_any _ _ (h.four x) w).mono (by
  rintro e w' ⟨v,rfl,hb,rfl⟩
  refine ⟨_,rfl,hb,?_⟩
  rw[decide_eq_true (by rw[e,EC.val_zero])])
theorem rZero_f (h:Fl3 P) {x:Fin P} (e:¬ x=0):Gives 96 #[fv x] (.bool false):=fun w =>
 (rZero_any _ _ (h.four x) w).mono (by
  rintro e w' ⟨v,rfl,hb,rfl⟩
  refine ⟨_,rfl,hb,?_⟩
  rw[decide_eq_false (fun h=>e (Fin.ext (by rw[EC.val_zero];exact h)))])
theorem rSmall1_c (h:Fl3 P):Gives 159 #[.int .u64 1] (fv (1:Fin P)):=fun w =>
 (rSmall_any 1 (by decide) w).mono (by rintro e w' ⟨v,rfl,hb,rfl⟩;exact ⟨_,rfl,hb,one_fv h.toFld⟩)
theorem rSmall7_c (h:Fl3 P):Gives 159 #[.int .u64 7] (fv (7:Fin P)):=fun w =>
 (rSmall_any 7 (by decide) w).mono (by rintro e w' ⟨v,rfl,hb,rfl⟩;exact ⟨_,rfl,hb,seven_fv h.toFld⟩)
theorem eqR (h:Fld P) (x y:Fin P) (w:World):(binOp .eql 60 (fv x) (fv y)).run Tryz.prog w=.ok (.bool (decide (x=y))) w:=by
 have h1:(binOp .eql 60 (fv x) (fv y)).run Tryz.prog w=.ok (.bool (decide (x.val%18446744073709551616=y.val%18446744073709551616∧x.val/18446744073709551616%18446744073709551616=y.val/18446744073709551616%18446744073709551616∧x.val/340282366920938463463374607431768211456%18446744073709551616=y.val/340282366920938463463374607431768211456%18446744073709551616∧x.val/6277101735386680763835789423207666416102355444464034512896%18446744073709551616=y.val/6277101735386680763835789423207666416102355444464034512896%18446744073709551616))) w:=by
  show (binOp .eql 60 (.agg _) (.agg _)).run Tryz.prog w=_
  rw[run_eql_struct]
  have h2:=eqR_d 9998 (x.val%18446744073709551616) (x.val/18446744073709551616%18446744073709551616) (x.val/340282366920938463463374607431768211456%18446744073709551616) (x.val/6277101735386680763835789423207666416102355444464034512896%18446744073709551616) (y.val%18446744073709551616) (y.val/18446744073709551616%18446744073709551616) (y.val/340282366920938463463374607431768211456%18446744073709551616) (y.val/6277101735386680763835789423207666416102355444464034512896%18446744073709551616) w
  unfold wn
  rw[h2,Result.andThen_ok]
 rw[h1]
 simp only[wn_inj (h.top x) (h.top y),← Fin.ext_iff]
theorem eqR_t (h:Fld P) {x y:Fin P} (e:x=y) (w:World):(binOp .eql 60 (fv x) (fv y)).run Tryz.prog w=.ok (.bool true) w:=by rw[eqR h,decide_eq_true e]
theorem eqR_f (h:Fld P) {x y:Fin P} (e:¬ x=y) (w:World):(binOp .eql 60 (fv x) (fv y)).run Tryz.prog w=.ok (.bool false) w:=by rw[eqR h,decide_eq_false e]
theorem neR (h:Fld P) (x y:Fin P) (w:World):(binOp .neq 60 (fv x) (fv y)).run Tryz.prog w=.ok (.bool (!decide (x=y))) w:=by
 have h1:(binOp .neq 60 (fv x) (fv y)).run Tryz.prog w=.ok (.bool (!decide (x.val%18446744073709551616=y.val%18446744073709551616∧x.val/18446744073709551616%18446744073709551616=y.val/18446744073709551616%18446744073709551616∧x.val/340282366920938463463374607431768211456%18446744073709551616=y.val/340282366920938463463374607431768211456%18446744073709551616∧x.val/6277101735386680763835789423207666416102355444464034512896%18446744073709551616=y.val/6277101735386680763835789423207666416102355444464034512896%18446744073709551616))) w:=neqR _ _ _ _ _ _ _ _ w
 rw[h1]
 simp only[wn_inj (h.top x) (h.top y),← Fin.ext_iff]
theorem neR_f (h:Fld P) {x y:Fin P} (e:x=y) (w:World):(binOp .neq 60 (fv x) (fv y)).run Tryz.prog w=.ok (.bool false) w:=by rw[neR h,decide_eq_true e];rfl
theorem neR_t (h:Fld P) {x y:Fin P} (e:¬ x=y) (w:World):(binOp .neq 60 (fv x) (fv y)).run Tryz.prog w=.ok (.bool true) w:=by rw[neR h,decide_eq_false e];rfl
theorem ws_none:Value.agg #[.int .u64 0,.int .u64 0,.int .u64 0,.int .u64 0,.int .u64 1,.int .u64 0,.int .u64 0,.int .u64 0,.int .u64 0,.int .u64 0,.int .u64 0,.int .u64 0]=.agg (([.int .u64 0,.int .u64 0,.int .u64 0,.int .u64 0]:List Value)++(([.int .u64 1,.int .u64 0,.int .u64 0,.int .u64 0]:List Value)++([.int .u64 0,.int .u64 0,.int .u64 0,.int .u64 0]:List Value))).toArray:=rfl
theorem build_none (h:Fld P) (w:World):(Instr.build 68 #[(1,fv (1:Fin P))]).run Tryz.prog w=.ok (rv (0:Fin P) 1 0) w:=by
 unfold rv
 rw[← ws_zero,← ws_one h,← one_fv h,← ws_none]
 kernel_rfl
theorem rSqrt_y (h:Fl3 P) {m y:Fin P} (e:rt m=some y):Gives 172 #[rv0,fv m] (.tuple #[fv y,.bool true]):=fun w =>
 (rSqrt_any _ _ _ _ _ _ _ _ P _ m.val h.ref h.p4 (h.four m) w).mono (by rintro e' w' ⟨v,rfl,hb,hF⟩;exact ⟨_,rfl,hb,hF.val.1 y e⟩)
theorem u33:(Tryz.prog.underlying 60).map (·.isRow)=some true:=by kernel_rfl
theorem i33:(Tryz.prog.info? 60).map (·.size)=some 4:=by kernel_rfl
theorem u56:(Tryz.prog.underlying 68).map (·.isRow)=some true:=by kernel_rfl
theorem i56:(Tryz.prog.info? 68).map (·.size)=some 12:=by kernel_rfl
theorem u35:(Tryz.prog.underlying 64).map (·.isRow)=some true:=by kernel_rfl
theorem i35:(Tryz.prog.info? 64).map (·.size)=some 8:=by kernel_rfl
theorem F3_c :Gives 103 #[] rv0:=by
 intro w
 go_enter Tryz.func103,Tryz.ntmps103
 refine RG.M.enter [] 2 (by kernel_rfl) ?_
 intro a0 M0
 repeat refine wp_seq ?_
 refine M0.t [.m 0 [] 0] [(0,(RG.z 8))] [] [(RG.z 8)] [(0,(.p 0 0))] ⟨RG.mk 0 64,trivial⟩ ?_
 intro j1 a1 w1 M1
 repeat refine wp_seq ?_
 refine M1.t [.c 1 [] rv0,.u [(1,0)] 0] [] [(0,1,rl0)] [rl0] [(0,(.p 0 0))] ⟨RG.cl (rMake_c),RG.pt i35,trivial⟩ ?_
 intro a2 w2 M2
 refine wp_ret ?_
 refine bodyPost_ret (v:=rv0) (RG.results_row M2.st 0 64 rfl 0 _ rfl (M2.at (s:=(.p 0 0))) u35 i35) M2.sl.defers ?_
 exact ⟨_,rfl,M2.st.bel.below,rfl⟩
theorem None_c (C:Fl3 P) :Gives 111 #[] (rv (0:Fin P) 1 0):=by
 intro w
 have hfin:((rv (0:Fin P) (1:Fin P) (0:Fin P)):Value)=(rv (0:Fin P) 1 0):=by
  subst_vars;rfl
 rw[← hfin]
 go_enter Tryz.func111,Tryz.ntmps111
 refine RG.M.enter [] 3 (by kernel_rfl) ?_
 intro a0 M0
 repeat refine wp_seq ?_
 refine M0.t [.m 0 [] 0] [(0,(RG.z 12))] [] [(RG.z 12)] [(0,(.p 0 0))] ⟨RG.mk 0 68,trivial⟩ ?_
 intro j1 a1 w1 M1
 repeat refine wp_seq ?_
 refine M1.t [.c 1 [] (fv (1:Fin P)),.x 2 [(1,0)] (rv (0:Fin P) (1:Fin P) (0:Fin P)),.u [(2,1)] 0] [] [(0,2,(ws (0:Fin P)++(ws (1:Fin P)++(ws (0:Fin P)))))] [(ws (0:Fin P)++(ws (1:Fin P)++(ws (0:Fin P))))] [(0,(.p 0 0))] ⟨RG.cl (rSmall1_c C),RG.cert_build1 rfl 68 1 1 rfl (fv (1:Fin P)) (rv (0:Fin P) (1:Fin P) (0:Fin P)) rfl RG.sx (build_none C.toFld),RG.pt i56,trivial⟩ ?_
 intro a2 w2 M2
 refine wp_ret ?_
 refine bodyPost_ret (v:=(rv (0:Fin P) (1:Fin P) (0:Fin P))) (RG.results_row M2.st 0 68 rfl 0 _ rfl (M2.at (s:=(.p 0 0))) u56 i56) M2.sl.defers ?_
 exact ⟨_,rfl,M2.st.bel.below,rfl⟩
theorem Is_t_c (C:Fl3 P) (x y z:Fin P)(hz:z=0) :Gives 102 #[(rv x y z)] (.bool true):=by
 intro w
 go_enter Tryz.func102,Tryz.ntmps102
 refine RG.M.enter [(0,(.v (rv x y z)))] 6 (by kernel_rfl) ?_
 intro a0 M0
 repeat refine wp_seq ?_
 refine M0.t [.m 1 [] 0,.x 2 [] (.bool false)] [(0,(ws x++(ws y++(ws z))))] [] [(ws x++(ws y++(ws z)))] [(1,(.p 0 0)),(2,(.v (.bool false)))] ⟨RG.mk 0 68,RG.st,trivial⟩ ?_
 intro j1 a1 w1 M1
 repeat refine wp_seq ?_
 refine M1.u [.s 3 [] (.p 0 8),.x 4 [(3,0)] (fv z),.c 5 [(4,1)] (.bool true),.x 2 [(5,2)] (.bool true)] [(2,(.v (.bool true)))] ⟨RG.st,RG.ld u33 i33,RG.cl (rZero_t C hz),RG.st,trivial⟩ ?_
 intro a2 w2 M2
 refine wp_ret ?_
 refine bodyPost_ret (v:=(.bool true)) (RG.results_t 2 rfl _ (M2.at (s:=(.v (.bool true))))) M2.sl.defers ?_
 exact ⟨_,rfl,M2.st.bel.below,rfl⟩
theorem Is_f_c (C:Fl3 P) (x y z:Fin P)(hz:¬ z=0) :Gives 102 #[(rv x y z)] (.bool false):=by
 intro w
 go_enter Tryz.func102,Tryz.ntmps102
 refine RG.M.enter [(0,(.v (rv x y z)))] 6 (by kernel_rfl) ?_
 intro a0 M0
 repeat refine wp_seq ?_
 refine M0.t [.m 1 [] 0,.x 2 [] (.bool false)] [(0,(ws x++(ws y++(ws z))))] [] [(ws x++(ws y++(ws z)))] [(1,(.p 0 0)),(2,(.v (.bool false)))] ⟨RG.mk 0 68,RG.st,trivial⟩ ?_
 intro j1 a1 w1 M1
 repeat refine wp_seq ?_
 refine M1.u [.s 3 [] (.p 0 8),.x 4 [(3,0)] (fv z),.c 5 [(4,1)] (.bool false),.x 2 [(5,2)] (.bool false)] [(2,(.v (.bool false)))] ⟨RG.st,RG.ld u33 i33,RG.cl (rZero_f C hz),RG.st,trivial⟩ ?_
 intro a2 w2 M2
 refine wp_ret ?_
 refine bodyPost_ret (v:=(.bool false)) (RG.results_t 2 rfl _ (M2.at (s:=(.v (.bool false))))) M2.sl.defers ?_
 exact ⟨_,rfl,M2.st.bel.below,rfl⟩
theorem rdouble_c (C:Fl3 P) (x y z:Fin P):Gives 112 #[(rv x y z)] (rv ((EC.fdE y z)*(EC.fdT x y z)) ((EC.fdD x)*(x*((EC.fdE y z)*(EC.fdE y z))-(EC.fdT x y z))-y*((EC.fdE y z)*(EC.fdE y z)*(EC.fdE y z))) ((EC.fdE y z)*(EC.fdE y z)*(EC.fdE y z)*z)):=by
 intro w
 obtain ⟨c1,hc1⟩:∃ c,c=x*x:=⟨_,rfl⟩
 obtain ⟨c2,hc2⟩:∃ c,c=c1+c1:=⟨_,rfl⟩
 obtain ⟨c3,hc3⟩:∃ c,c=c2+c1:=⟨_,rfl⟩
 obtain ⟨c4,hc4⟩:∃ c,c=y+y:=⟨_,rfl⟩
 obtain ⟨c5,hc5⟩:∃ c,c=c4*z:=⟨_,rfl⟩
 obtain ⟨c6,hc6⟩:∃ c,c=c5*c5:=⟨_,rfl⟩
 obtain ⟨c7,hc7⟩:∃ c,c=c6*c5:=⟨_,rfl⟩
 obtain ⟨c8,hc8⟩:∃ c,c=c3*c3:=⟨_,rfl⟩
 obtain ⟨c9,hc9⟩:∃ c,c=c8*z:=⟨_,rfl⟩
 obtain ⟨c10,hc10⟩:∃ c,c=x+x:=⟨_,rfl⟩
 obtain ⟨c11,hc11⟩:∃ c,c=c10*c6:=⟨_,rfl⟩
 obtain ⟨c12,hc12⟩:∃ c,c=c9-c11:=⟨_,rfl⟩
 obtain ⟨c13,hc13⟩:∃ c,c=c5*c12:=⟨_,rfl⟩
 obtain ⟨c14,hc14⟩:∃ c,c=x*c6:=⟨_,rfl⟩
 obtain ⟨c15,hc15⟩:∃ c,c=c14-c12:=⟨_,rfl⟩
 obtain ⟨c16,hc16⟩:∃ c,c=c3*c15:=⟨_,rfl⟩
 obtain ⟨c17,hc17⟩:∃ c,c=y*c7:=⟨_,rfl⟩
 obtain ⟨c18,hc18⟩:∃ c,c=c16-c17:=⟨_,rfl⟩
 obtain ⟨c19,hc19⟩:∃ c,c=c7*z:=⟨_,rfl⟩
 have hfin:((rv c13 c18 c19):Value)=(rv ((EC.fdE y z)*(EC.fdT x y z)) ((EC.fdD x)*(x*((EC.fdE y z)*(EC.fdE y z))-(EC.fdT x y z))-y*((EC.fdE y z)*(EC.fdE y z)*(EC.fdE y z))) ((EC.fdE y z)*(EC.fdE y z)*(EC.fdE y z)*z)):=by
  subst_vars;rfl
 rw[← hfin]
 go_enter Tryz.func112,Tryz.ntmps112
 refine RG.M.enter [(0,(.v (rv x y z)))] 91 (by kernel_rfl) ?_
 intro a0 M0
 repeat refine wp_seq ?_
 refine M0.t [.m 1 [] 0,.m 2 [] 1] [(0,(ws x++(ws y++(ws z)))),(1,(RG.z 12))] [] [(ws x++(ws y++(ws z))),(RG.z 12)] [(1,(.p 0 0)),(2,(.p 1 0))] ⟨RG.mk 0 68,RG.mk 1 68,trivial⟩ ?_
 intro j1 i1 a1 w1 M1
 repeat refine wp_seq ?_
 refine M1.d [.c 11 [] rv0,.s 12 [] (.p 0 0),.x 13 [(12,1)] (fv x),.s 14 [] (.p 0 0),.x 15 [(14,3)] (fv x),.c 16 [(11,0),(13,2),(15,4)] (fv c1),.m 3 [] 2,.u [(3,6),(16,5)] 2] [(6,(RG.z 4))] [(2,7,(ws c1))] [(ws x++(ws y++(ws z))),(RG.z 12),(ws c1)] [(1,(.p 0 0)),(2,(.p 1 0)),(3,(.p 2 0))] ⟨RG.cl (F3_c),RG.st,RG.ld u33 i33,RG.st,RG.ld u33 i33,RG.cl ((rMul_c C x x).e hc1),RG.mk 2 60,RG.pt i33,trivial⟩ ?_
 intro j2 a2 w2 M2
 repeat refine wp_seq ?_
 refine M2.d [.c 17 [] rv0,.c 18 [] rv0,.x 19 [] (fv c1),.x 20 [] (fv c1),.c 21 [(18,1),(19,2),(20,3)] (fv c2),.x 22 [] (fv c1),.c 23 [(17,0),(21,4),(22,5)] (fv c3),.m 4 [] 3,.u [(4,7),(23,6)] 3] [(7,(RG.z 4))] [(3,8,(ws c3))] [(ws x++(ws y++(ws z))),(RG.z 12),(ws c1),(ws c3)] [(1,(.p 0 0)),(2,(.p 1 0)),(4,(.p 3 0))] ⟨RG.cl (F3_c),RG.cl (F3_c),RG.ld u33 i33,RG.ld u33 i33,RG.cl ((rAdd_c C c1 c1).e hc2),RG.ld u33 i33,RG.cl ((rAdd_c C c2 c1).e hc3),RG.mk 3 60,RG.pt i33,trivial⟩ ?_
 intro j3 a3 w3 M3
 repeat refine wp_seq ?_
 refine M3.d [.c 24 [] rv0,.c 25 [] rv0,.s 26 [] (.p 0 4),.x 27 [(26,2)] (fv y),.s 28 [] (.p 0 4),.x 29 [(28,4)] (fv y),.c 30 [(25,1),(27,3),(29,5)] (fv c4),.s 31 [] (.p 0 8),.x 32 [(31,7)] (fv z),.c 33 [(24,0),(30,6),(32,8)] (fv c5),.m 5 [] 4,.u [(5,10),(33,9)] 4] [(10,(RG.z 4))] [(4,11,(ws c5))] [(ws x++(ws y++(ws z))),(RG.z 12),(ws c1),(ws c3),(ws c5)] [(1,(.p 0 0)),(2,(.p 1 0)),(4,(.p 3 0)),(5,(.p 4 0))] ⟨RG.cl (F3_c),RG.cl (F3_c),RG.st,RG.ld u33 i33,RG.st,RG.ld u33 i33,RG.cl ((rAdd_c C y y).e hc4),RG.st,RG.ld u33 i33,RG.cl ((rMul_c C c4 z).e hc5),RG.mk 4 60,RG.pt i33,trivial⟩ ?_
 intro j4 a4 w4 M4
 repeat refine wp_seq ?_
 refine M4.d [.c 34 [] rv0,.x 35 [] (fv c5),.x 36 [] (fv c5),.c 37 [(34,0),(35,1),(36,2)] (fv c6),.m 6 [] 5,.u [(6,4),(37,3)] 5] [(4,(RG.z 4))] [(5,5,(ws c6))] [(ws x++(ws y++(ws z))),(RG.z 12),(ws c1),(ws c3),(ws c5),(ws c6)] [(1,(.p 0 0)),(2,(.p 1 0)),(4,(.p 3 0)),(5,(.p 4 0)),(6,(.p 5 0))] ⟨RG.cl (F3_c),RG.ld u33 i33,RG.ld u33 i33,RG.cl ((rMul_c C c5 c5).e hc6),RG.mk 5 60,RG.pt i33,trivial⟩ ?_
 intro j5 a5 w5 M5
 repeat refine wp_seq ?_
 refine M5.d [.c 38 [] rv0,.x 39 [] (fv c6),.x 40 [] (fv c5),.c 41 [(38,0),(39,1),(40,2)] (fv c7),.m 7 [] 6,.u [(7,4),(41,3)] 6] [(4,(RG.z 4))] [(6,5,(ws c7))] [(ws x++(ws y++(ws z))),(RG.z 12),(ws c1),(ws c3),(ws c5),(ws c6),(ws c7)] [(1,(.p 0 0)),(2,(.p 1 0)),(4,(.p 3 0)),(5,(.p 4 0)),(6,(.p 5 0)),(7,(.p 6 0))] ⟨RG.cl (F3_c),RG.ld u33 i33,RG.ld u33 i33,RG.cl ((rMul_c C c6 c5).e hc7),RG.mk 6 60,RG.pt i33,trivial⟩ ?_
 intro j6 a6 w6 M6
 repeat refine wp_seq ?_
 refine M6.d [.c 42 [] rv0,.c 43 [] rv0,.c 44 [] rv0,.x 45 [] (fv c3),.x 46 [] (fv c3),.c 47 [(44,2),(45,3),(46,4)] (fv c8),.s 48 [] (.p 0 8),.x 49 [(48,6)] (fv z),.c 50 [(43,1),(47,5),(49,7)] (fv c9),.c 51 [] rv0,.c 52 [] rv0,.s 53 [] (.p 0 0),.x 54 [(53,11)] (fv x),.s 55 [] (.p 0 0),.x 56 [(55,13)] (fv x),.c 57 [(52,10),(54,12),(56,14)] (fv c10),.x 58 [] (fv c6),.c 59 [(51,9),(57,15),(58,16)] (fv c11),.c 60 [(42,0),(50,8),(59,17)] (fv c12),.m 8 [] 7,.u [(8,19),(60,18)] 7] [(19,(RG.z 4))] [(7,20,(ws c12))] [(ws x++(ws y++(ws z))),(RG.z 12),(ws c1),(ws c3),(ws c5),(ws c6),(ws c7),(ws c12)] [(1,(.p 0 0)),(2,(.p 1 0)),(4,(.p 3 0)),(5,(.p 4 0)),(6,(.p 5 0)),(7,(.p 6 0)),(8,(.p 7 0))] ⟨RG.cl (F3_c),RG.cl (F3_c),RG.cl (F3_c),RG.ld u33 i33,RG.ld u33 i33,RG.cl ((rMul_c C c3 c3).e hc8),RG.st,RG.ld u33 i33,RG.cl ((rMul_c C c8 z).e hc9),RG.cl (F3_c),RG.cl (F3_c),RG.st,RG.ld u33 i33,RG.st,RG.ld u33 i33,RG.cl ((rAdd_c C x x).e hc10),RG.ld u33 i33,RG.cl ((rMul_c C c10 c6).e hc11),RG.cl ((rSub_c C c9 c11).e hc12),RG.mk 7 60,RG.pt i33,trivial⟩ ?_
 intro j7 a7 w7 M7
 repeat refine wp_seq ?_
 refine M7.d [.c 61 [] rv0,.x 62 [] (fv c5),.x 63 [] (fv c12),.c 64 [(61,0),(62,1),(63,2)] (fv c13),.m 9 [] 8,.u [(9,4),(64,3)] 8] [(4,(RG.z 4))] [(8,5,(ws c13))] [(ws x++(ws y++(ws z))),(RG.z 12),(ws c1),(ws c3),(ws c5),(ws c6),(ws c7),(ws c12),(ws c13)] [(1,(.p 0 0)),(2,(.p 1 0)),(4,(.p 3 0)),(6,(.p 5 0)),(7,(.p 6 0)),(8,(.p 7 0)),(9,(.p 8 0))] ⟨RG.cl (F3_c),RG.ld u33 i33,RG.ld u33 i33,RG.cl ((rMul_c C c5 c12).e hc13),RG.mk 8 60,RG.pt i33,trivial⟩ ?_
 intro j8 a8 w8 M8
 repeat refine wp_seq ?_
 refine M8.d [.c 65 [] rv0,.c 66 [] rv0,.x 67 [] (fv c3),.c 68 [] rv0,.c 69 [] rv0,.s 70 [] (.p 0 0),.x 71 [(70,5)] (fv x),.x 72 [] (fv c6),.c 73 [(69,4),(71,6),(72,7)] (fv c14),.x 74 [] (fv c12),.c 75 [(68,3),(73,8),(74,9)] (fv c15),.c 76 [(66,1),(67,2),(75,10)] (fv c16),.c 77 [] rv0,.s 78 [] (.p 0 4),.x 79 [(78,13)] (fv y),.x 80 [] (fv c7),.c 81 [(77,12),(79,14),(80,15)] (fv c17),.c 82 [(65,0),(76,11),(81,16)] (fv c18),.m 10 [] 9,.u [(10,18),(82,17)] 9] [(18,(RG.z 4))] [(9,19,(ws c18))] [(ws x++(ws y++(ws z))),(RG.z 12),(ws c1),(ws c3),(ws c5),(ws c6),(ws c7),(ws c12),(ws c13),(ws c18)] [(1,(.p 0 0)),(2,(.p 1 0)),(7,(.p 6 0)),(9,(.p 8 0)),(10,(.p 9 0))] ⟨RG.cl (F3_c),RG.cl (F3_c),RG.ld u33 i33,RG.cl (F3_c),RG.cl (F3_c),RG.st,RG.ld u33 i33,RG.ld u33 i33,RG.cl ((rMul_c C x c6).e hc14),RG.ld u33 i33,RG.cl ((rSub_c C c14 c12).e hc15),RG.cl ((rMul_c C c3 c15).e hc16),RG.cl (F3_c),RG.st,RG.ld u33 i33,RG.ld u33 i33,RG.cl ((rMul_c C y c7).e hc17),RG.cl ((rSub_c C c16 c17).e hc18),RG.mk 9 60,RG.pt i33,trivial⟩ ?_
 intro j9 a9 w9 M9
 repeat refine wp_seq ?_
 refine M9.d [.x 83 [] (fv c13),.x 84 [] (fv c18),.c 85 [] rv0,.x 86 [] (fv c7),.s 87 [] (.p 0 8),.x 88 [(87,4)] (fv z),.c 89 [(85,2),(86,3),(88,5)] (fv c19),.x 90 [(83,0),(84,1),(89,6)] (rv c13 c18 c19),.u [(90,7)] 1] [] [(1,8,(ws c13++(ws c18++(ws c19))))] [(ws x++(ws y++(ws z))),(ws c13++(ws c18++(ws c19))),(ws c1),(ws c3),(ws c5),(ws c6),(ws c7),(ws c12),(ws c13),(ws c18)] [(2,(.p 1 0))] ⟨RG.ld u33 i33,RG.ld u33 i33,RG.cl (F3_c),RG.ld u33 i33,RG.st,RG.ld u33 i33,RG.cl ((rMul_c C c7 z).e hc19),RG.st,RG.pt i56,trivial⟩ ?_
 intro a10 w10 M10
 refine wp_ret ?_
 refine bodyPost_ret (v:=(rv c13 c18 c19)) (RG.results_row M10.st 2 68 rfl 1 _ rfl (M10.at (s:=(.p 1 0))) u56 i56) M10.sl.defers ?_
 exact ⟨_,rfl,M10.st.bel.below,rfl⟩
theorem rPlusJ_any (C:Fl3 P) (x1 y1 z1 x2 y2 z2:Fin P) (R:Value) (ha:z1=0→R=(rv x2 y2 z2)) (hb:¬ z1=0→z2=0→R=(rv x1 y1 z1)) (hd:¬ z1=0→¬ z2=0→x2*z1=x1*z2→(¬ y2*z1=y1*z2∧R=(rv (0:Fin P) 1 0))∨(y2*z1=y1*z2∧¬ y2*z1=0∧R=(rv ((EC.fdE y1 z1)*(EC.fdT x1 y1 z1)) ((EC.fdD x1)*(x1*((EC.fdE y1 z1)*(EC.fdE y1 z1))-(EC.fdT x1 y1 z1))-y1*((EC.fdE y1 z1)*(EC.fdE y1 z1)*(EC.fdE y1 z1))) ((EC.fdE y1 z1)*(EC.fdE y1 z1)*(EC.fdE y1 z1)*z1)))) (he:¬ z1=0→¬ z2=0→¬ x2*z1=x1*z2→R=(rv ((x2*z1-x1*z2)*EC.frT (y2*z1-y1*z2) (x2*z1-x1*z2) (z1*z2) (x1*z2)) ((y2*z1-y1*z2)*(x1*z2*((x2*z1-x1*z2)*(x2*z1-x1*z2))-EC.frT (y2*z1-y1*z2) (x2*z1-x1*z2) (z1*z2) (x1*z2))-y1*z2*((x2*z1-x1*z2)*(x2*z1-x1*z2)*(x2*z1-x1*z2))) ((x2*z1-x1*z2)*(x2*z1-x1*z2)*(x2*z1-x1*z2)*(z1*z2)))):Gives 54 #[(rv x1 y1 z1),(rv x2 y2 z2)] R:=by
 intro w
 obtain ⟨c1,hc1⟩:∃ c,c=y2*z1:=⟨_,rfl⟩
 obtain ⟨c2,hc2⟩:∃ c,c=x2*z1:=⟨_,rfl⟩
 obtain ⟨c3,hc3⟩:∃ c,c=y1*z2:=⟨_,rfl⟩
 obtain ⟨c4,hc4⟩:∃ c,c=x1*z2:=⟨_,rfl⟩
 go_enter Tryz.func54,Tryz.ntmps54
 refine RG.M.enter [(0,(.v (rv x1 y1 z1))),(1,(.v (rv x2 y2 z2)))] 127 (by kernel_rfl) ?_
 intro a0 M0
 repeat refine wp_seq ?_
 refine M0.t [.m 2 [] 0,.m 3 [] 1,.m 4 [] 2] [(0,(ws x1++(ws y1++(ws z1)))),(1,(ws x2++(ws y2++(ws z2)))),(2,(RG.z 12))] [] [(ws x1++(ws y1++(ws z1))),(ws x2++(ws y2++(ws z2))),(RG.z 12)] [(2,(.p 0 0)),(3,(.p 1 0)),(4,(.p 2 0))] ⟨RG.mk 0 68,RG.mk 1 68,RG.mk 2 68,trivial⟩ ?_
 intro j1 i1 m1 a1 w1 M1
 repeat refine wp_seq ?_
 by_cases hz1:z1=0
 ·obtain rfl:=ha hz1
  refine M1.u [.x 16 [] (rv x1 y1 z1),.c 17 [(16,0)] (.bool true),.x 5 [(17,1)] (.bool true)] [(3,(.p 1 0)),(4,(.p 2 0)),(5,(.v (.bool true)))] ⟨RG.ld u56 i56,RG.cl (Is_t_c C x1 y1 z1 hz1),RG.st,trivial⟩ ?_
  intro a2 w2 M2
  repeat refine wp_seq ?_
  refine M2.u [.x 18 [] (.bool true)] [(3,(.p 1 0)),(4,(.p 2 0)),(18,(.v (.bool true)))] ⟨RG.st,trivial⟩ ?_
  intro a3 w3 M3
  repeat refine wp_seq ?_
  refine wp_cond_true M3.ev ?_
  repeat refine wp_seq ?_
  refine M3.t [.x 19 [] (rv x2 y2 z2),.u [(19,0)] 2] [] [(2,1,(ws x2++(ws y2++(ws z2))))] [(ws x1++(ws y1++(ws z1))),(ws x2++(ws y2++(ws z2))),(ws x2++(ws y2++(ws z2)))] [(4,(.p 2 0))] ⟨RG.ld u56 i56,RG.pt i56,trivial⟩ ?_
  intro a4 w4 M4
  refine wp_ret ?_
  refine bodyPost_ret (v:=(rv x2 y2 z2)) (RG.results_row M4.st 4 68 rfl 2 _ rfl (M4.at (s:=(.p 2 0))) u56 i56) M4.sl.defers ?_
  exact ⟨_,rfl,M4.st.bel.below,rfl⟩
 refine M1.u [.x 16 [] (rv x1 y1 z1),.c 17 [(16,0)] (.bool false),.x 5 [(17,1)] (.bool false)] [(2,(.p 0 0)),(3,(.p 1 0)),(4,(.p 2 0)),(5,(.v (.bool false)))] ⟨RG.ld u56 i56,RG.cl (Is_f_c C x1 y1 z1 hz1),RG.st,trivial⟩ ?_
 intro a2 w2 M2
 repeat refine wp_seq ?_
 refine M2.u [.x 18 [] (.bool false)] [(2,(.p 0 0)),(3,(.p 1 0)),(4,(.p 2 0)),(5,(.v (.bool false))),(18,(.v (.bool false)))] ⟨RG.st,trivial⟩ ?_
 intro a3 w3 M3
 repeat refine wp_seq ?_
 refine wp_cond_false M3.ev ?_
 refine wp_skip ?_
 repeat refine wp_seq ?_
 by_cases hz2:z2=0
 ·obtain rfl:=hb hz1 hz2
  refine M3.u [.x 20 [] (rv x2 y2 z2),.c 21 [(20,0)] (.bool true),.x 5 [(21,1)] (.bool true)] [(2,(.p 0 0)),(4,(.p 2 0)),(5,(.v (.bool true)))] ⟨RG.ld u56 i56,RG.cl (Is_t_c C x2 y2 z2 hz2),RG.st,trivial⟩ ?_
  intro a4 w4 M4
  repeat refine wp_seq ?_
  refine M4.u [.x 22 [] (.bool true)] [(2,(.p 0 0)),(4,(.p 2 0)),(22,(.v (.bool true)))] ⟨RG.st,trivial⟩ ?_
  intro a5 w5 M5
  repeat refine wp_seq ?_
  refine wp_cond_true M5.ev ?_
  repeat refine wp_seq ?_
  refine M5.t [.x 23 [] (rv x1 y1 z1),.u [(23,0)] 2] [] [(2,1,(ws x1++(ws y1++(ws z1))))] [(ws x1++(ws y1++(ws z1))),(ws x2++(ws y2++(ws z2))),(ws x1++(ws y1++(ws z1)))] [(4,(.p 2 0))] ⟨RG.ld u56 i56,RG.pt i56,trivial⟩ ?_
  intro a6 w6 M6
  refine wp_ret ?_
  refine bodyPost_ret (v:=(rv x1 y1 z1)) (RG.results_row M6.st 4 68 rfl 2 _ rfl (M6.at (s:=(.p 2 0))) u56 i56) M6.sl.defers ?_
  exact ⟨_,rfl,M6.st.bel.below,rfl⟩
 refine M3.u [.x 20 [] (rv x2 y2 z2),.c 21 [(20,0)] (.bool false),.x 5 [(21,1)] (.bool false)] [(2,(.p 0 0)),(3,(.p 1 0)),(4,(.p 2 0)),(5,(.v (.bool false)))] ⟨RG.ld u56 i56,RG.cl (Is_f_c C x2 y2 z2 hz2),RG.st,trivial⟩ ?_
 intro a4 w4 M4
 repeat refine wp_seq ?_
 refine M4.u [.x 22 [] (.bool false)] [(2,(.p 0 0)),(3,(.p 1 0)),(4,(.p 2 0)),(22,(.v (.bool false)))] ⟨RG.st,trivial⟩ ?_
 intro a5 w5 M5
 repeat refine wp_seq ?_
 refine wp_cond_false M5.ev ?_
 refine wp_skip ?_
 repeat refine wp_seq ?_
 refine M5.d [.c 24 [] rv0,.s 25 [] (.p 1 4),.x 26 [(25,1)] (fv y2),.s 27 [] (.p 0 8),.x 28 [(27,3)] (fv z1),.c 29 [(24,0),(26,2),(28,4)] (fv c1),.m 6 [] 3,.u [(6,6),(29,5)] 3] [(6,(RG.z 4))] [(3,7,(ws c1))] [(ws x1++(ws y1++(ws z1))),(ws x2++(ws y2++(ws z2))),(RG.z 12),(ws c1)] [(2,(.p 0 0)),(3,(.p 1 0)),(4,(.p 2 0)),(6,(.p 3 0))] ⟨RG.cl (F3_c),RG.st,RG.ld u33 i33,RG.st,RG.ld u33 i33,RG.cl ((rMul_c C y2 z1).e hc1),RG.mk 3 60,RG.pt i33,trivial⟩ ?_
 intro j6 a6 w6 M6
 repeat refine wp_seq ?_
 refine M6.d [.c 30 [] rv0,.s 31 [] (.p 1 0),.x 32 [(31,1)] (fv x2),.s 33 [] (.p 0 8),.x 34 [(33,3)] (fv z1),.c 35 [(30,0),(32,2),(34,4)] (fv c2),.m 7 [] 4,.u [(7,6),(35,5)] 4] [(6,(RG.z 4))] [(4,7,(ws c2))] [(ws x1++(ws y1++(ws z1))),(ws x2++(ws y2++(ws z2))),(RG.z 12),(ws c1),(ws c2)] [(2,(.p 0 0)),(3,(.p 1 0)),(4,(.p 2 0)),(6,(.p 3 0)),(7,(.p 4 0))] ⟨RG.cl (F3_c),RG.st,RG.ld u33 i33,RG.st,RG.ld u33 i33,RG.cl ((rMul_c C x2 z1).e hc2),RG.mk 4 60,RG.pt i33,trivial⟩ ?_
 intro j7 a7 w7 M7
 repeat refine wp_seq ?_
 refine M7.d [.c 36 [] rv0,.s 37 [] (.p 0 4),.x 38 [(37,1)] (fv y1),.s 39 [] (.p 1 8),.x 40 [(39,3)] (fv z2),.c 41 [(36,0),(38,2),(40,4)] (fv c3),.m 8 [] 5,.u [(8,6),(41,5)] 5] [(6,(RG.z 4))] [(5,7,(ws c3))] [(ws x1++(ws y1++(ws z1))),(ws x2++(ws y2++(ws z2))),(RG.z 12),(ws c1),(ws c2),(ws c3)] [(2,(.p 0 0)),(3,(.p 1 0)),(4,(.p 2 0)),(6,(.p 3 0)),(7,(.p 4 0)),(8,(.p 5 0))] ⟨RG.cl (F3_c),RG.st,RG.ld u33 i33,RG.st,RG.ld u33 i33,RG.cl ((rMul_c C y1 z2).e hc3),RG.mk 5 60,RG.pt i33,trivial⟩ ?_
 intro j8 a8 w8 M8
 repeat refine wp_seq ?_
 refine M8.d [.c 42 [] rv0,.s 43 [] (.p 0 0),.x 44 [(43,1)] (fv x1),.s 45 [] (.p 1 8),.x 46 [(45,3)] (fv z2),.c 47 [(42,0),(44,2),(46,4)] (fv c4),.m 9 [] 6,.u [(9,6),(47,5)] 6] [(6,(RG.z 4))] [(6,7,(ws c4))] [(ws x1++(ws y1++(ws z1))),(ws x2++(ws y2++(ws z2))),(RG.z 12),(ws c1),(ws c2),(ws c3),(ws c4)] [(2,(.p 0 0)),(3,(.p 1 0)),(4,(.p 2 0)),(6,(.p 3 0)),(7,(.p 4 0)),(8,(.p 5 0)),(9,(.p 6 0))] ⟨RG.cl (F3_c),RG.st,RG.ld u33 i33,RG.st,RG.ld u33 i33,RG.cl ((rMul_c C x1 z2).e hc4),RG.mk 6 60,RG.pt i33,trivial⟩ ?_
 intro j9 a9 w9 M9
 repeat refine wp_seq ?_
 by_cases hv:x2*z1=x1*z2
 ·have hR:=hd hz1 hz2 hv
  refine M9.u [.x 48 [] (fv c2),.x 49 [] (fv c4),.x 50 [(48,0),(49,1)] (.bool true)] [(2,(.p 0 0)),(4,(.p 2 0)),(6,(.p 3 0)),(8,(.p 5 0)),(50,(.v (.bool true)))] ⟨RG.ld u33 i33,RG.ld u33 i33,RG.cert_bin rfl .eql 60 60 48 49 (fv c2) (fv c4) (.bool true) rfl rfl RG.sx RG.sx (fun w=>by kernel_rfl) (eqR_t C.toFld (by subst_vars;exact hv)),trivial⟩ ?_
  intro a10 w10 M10
  repeat refine wp_seq ?_
  refine wp_cond_true M10.ev ?_
  repeat refine wp_seq ?_
  rcases hR with ⟨hu,rfl⟩|⟨hu,hn,hR⟩
  ·refine M10.u [.x 51 [] (fv c1),.x 52 [] (fv c3),.x 53 [(51,0),(52,1)] (.bool true),.x 54 [(53,2)] (.bool true),⟨some 55,[],(.v undef),.pass⟩,⟨some 56,[],(.v undef),.pass⟩,.x 57 [(54,3),(56,5)] (.bool true)] [(4,(.p 2 0)),(57,(.v (.bool true)))] ⟨RG.ld u33 i33,RG.ld u33 i33,RG.cert_bin rfl .neq 60 60 51 52 (fv c1) (fv c3) (.bool true) rfl rfl RG.sx RG.sx (fun w=>by kernel_rfl) (neR_t C.toFld (by subst_vars;exact hu)),RG.st,RG.cert_pass rfl rfl,RG.cert_pass rfl rfl,RG.st,trivial⟩ ?_
   intro a11 w11 M11
   repeat refine wp_seq ?_
   refine wp_cond_true M11.ev ?_
   repeat refine wp_seq ?_
   refine M11.t [.c 58 [] (rv (0:Fin P) (1:Fin P) (0:Fin P)),.u [(58,0)] 2] [] [(2,1,(ws (0:Fin P)++(ws (1:Fin P)++(ws (0:Fin P)))))] [(ws x1++(ws y1++(ws z1))),(ws x2++(ws y2++(ws z2))),(ws (0:Fin P)++(ws (1:Fin P)++(ws (0:Fin P)))),(ws c1),(ws c2),(ws c3),(ws c4)] [(4,(.p 2 0))] ⟨RG.cl (None_c C),RG.pt i56,trivial⟩ ?_
   intro a12 w12 M12
   refine wp_ret ?_
   refine bodyPost_ret (v:=(rv (0:Fin P) (1:Fin P) (0:Fin P))) (RG.results_row M12.st 4 68 rfl 2 _ rfl (M12.at (s:=(.p 2 0))) u56 i56) M12.sl.defers ?_
   exact ⟨_,rfl,M12.st.bel.below,rfl⟩
  obtain ⟨c5,hc5⟩:∃ c,c=(EC.fdE y1 z1)*(EC.fdT x1 y1 z1):=⟨_,rfl⟩
  obtain ⟨c6,hc6⟩:∃ c,c=(EC.fdD x1)*(x1*((EC.fdE y1 z1)*(EC.fdE y1 z1))-(EC.fdT x1 y1 z1))-y1*((EC.fdE y1 z1)*(EC.fdE y1 z1)*(EC.fdE y1 z1)):=⟨_,rfl⟩
  obtain ⟨c7,hc7⟩:∃ c,c=(EC.fdE y1 z1)*(EC.fdE y1 z1)*(EC.fdE y1 z1)*z1:=⟨_,rfl⟩
  obtain rfl:R=rv c5 c6 c7:=hR.trans (by subst_vars;rfl)
  refine M10.u [.x 51 [] (fv c1),.x 52 [] (fv c3),.x 53 [(51,0),(52,1)] (.bool false),.x 54 [(53,2)] (.bool false),.x 55 [] (fv c1),.c 56 [(55,4)] (.bool false),.x 57 [(54,3),(56,5)] (.bool false)] [(2,(.p 0 0)),(4,(.p 2 0)),(57,(.v (.bool false)))] ⟨RG.ld u33 i33,RG.ld u33 i33,RG.cert_bin rfl .neq 60 60 51 52 (fv c1) (fv c3) (.bool false) rfl rfl RG.sx RG.sx (fun w=>by kernel_rfl) (neR_f C.toFld (by subst_vars;exact hu)),RG.st,RG.ld u33 i33,RG.cl (f:=96) (args:=#[(fv c1)]) (v:=(.bool false)) (rZero_f C (by subst_vars;exact hn)),RG.st,trivial⟩ ?_
  intro a11 w11 M11
  repeat refine wp_seq ?_
  refine wp_cond_false M11.ev ?_
  refine wp_skip ?_
  repeat refine wp_seq ?_
  refine M11.t [.x 59 [] (rv x1 y1 z1),.c 60 [(59,0)] (rv c5 c6 c7),.u [(60,1)] 2] [] [(2,2,(ws c5++(ws c6++(ws c7))))] [(ws x1++(ws y1++(ws z1))),(ws x2++(ws y2++(ws z2))),(ws c5++(ws c6++(ws c7))),(ws c1),(ws c2),(ws c3),(ws c4)] [(4,(.p 2 0))] ⟨RG.ld u56 i56,RG.cl ((rdouble_c C x1 y1 z1).e3 hc5 hc6 hc7),RG.pt i56,trivial⟩ ?_
  intro a12 w12 M12
  refine wp_ret ?_
  refine bodyPost_ret (v:=(rv c5 c6 c7)) (RG.results_row M12.st 4 68 rfl 2 _ rfl (M12.at (s:=(.p 2 0))) u56 i56) M12.sl.defers ?_
  exact ⟨_,rfl,M12.st.bel.below,rfl⟩
 have hR:=he hz1 hz2 hv
 obtain ⟨c5,hc5⟩:∃ c,c=c1-c3:=⟨_,rfl⟩
 obtain ⟨c6,hc6⟩:∃ c,c=c2-c4:=⟨_,rfl⟩
 obtain ⟨c7,hc7⟩:∃ c,c=z1*z2:=⟨_,rfl⟩
 obtain ⟨c8,hc8⟩:∃ c,c=c6*c6:=⟨_,rfl⟩
 obtain ⟨c9,hc9⟩:∃ c,c=c8*c6:=⟨_,rfl⟩
 obtain ⟨c10,hc10⟩:∃ c,c=c5*c5:=⟨_,rfl⟩
 obtain ⟨c11,hc11⟩:∃ c,c=c10*c7:=⟨_,rfl⟩
 obtain ⟨c12,hc12⟩:∃ c,c=c11-c9:=⟨_,rfl⟩
 obtain ⟨c13,hc13⟩:∃ c,c=c4+c4:=⟨_,rfl⟩
 obtain ⟨c14,hc14⟩:∃ c,c=c13*c8:=⟨_,rfl⟩
 obtain ⟨c15,hc15⟩:∃ c,c=c12-c14:=⟨_,rfl⟩
 obtain ⟨c16,hc16⟩:∃ c,c=c6*c15:=⟨_,rfl⟩
 obtain ⟨c17,hc17⟩:∃ c,c=c4*c8:=⟨_,rfl⟩
 obtain ⟨c18,hc18⟩:∃ c,c=c17-c15:=⟨_,rfl⟩
 obtain ⟨c19,hc19⟩:∃ c,c=c5*c18:=⟨_,rfl⟩
 obtain ⟨c20,hc20⟩:∃ c,c=c3*c9:=⟨_,rfl⟩
 obtain ⟨c21,hc21⟩:∃ c,c=c19-c20:=⟨_,rfl⟩
 obtain ⟨c22,hc22⟩:∃ c,c=c9*c7:=⟨_,rfl⟩
 obtain rfl:R=rv c16 c21 c22:=hR.trans (by subst_vars;rfl)
 refine M9.u [.x 48 [] (fv c2),.x 49 [] (fv c4),.x 50 [(48,0),(49,1)] (.bool false)] [(2,(.p 0 0)),(3,(.p 1 0)),(4,(.p 2 0)),(6,(.p 3 0)),(7,(.p 4 0)),(8,(.p 5 0)),(9,(.p 6 0)),(50,(.v (.bool false)))] ⟨RG.ld u33 i33,RG.ld u33 i33,RG.cert_bin rfl .eql 60 60 48 49 (fv c2) (fv c4) (.bool false) rfl rfl RG.sx RG.sx (fun w=>by kernel_rfl) (eqR_f C.toFld (by subst_vars;exact hv)),trivial⟩ ?_
 intro a10 w10 M10
 repeat refine wp_seq ?_
 refine wp_cond_false M10.ev ?_
 refine wp_skip ?_
 repeat refine wp_seq ?_
 refine M10.d [.c 61 [] rv0,.x 62 [] (fv c1),.x 63 [] (fv c3),.c 64 [(61,0),(62,1),(63,2)] (fv c5),.m 10 [] 7,.u [(10,4),(64,3)] 7] [(4,(RG.z 4))] [(7,5,(ws c5))] [(ws x1++(ws y1++(ws z1))),(ws x2++(ws y2++(ws z2))),(RG.z 12),(ws c1),(ws c2),(ws c3),(ws c4),(ws c5)] [(2,(.p 0 0)),(3,(.p 1 0)),(4,(.p 2 0)),(7,(.p 4 0)),(8,(.p 5 0)),(9,(.p 6 0)),(10,(.p 7 0))] ⟨RG.cl (F3_c),RG.ld u33 i33,RG.ld u33 i33,RG.cl ((rSub_c C c1 c3).e hc5),RG.mk 7 60,RG.pt i33,trivial⟩ ?_
 intro j11 a11 w11 M11
 repeat refine wp_seq ?_
 refine M11.d [.c 65 [] rv0,.x 66 [] (fv c2),.x 67 [] (fv c4),.c 68 [(65,0),(66,1),(67,2)] (fv c6),.m 11 [] 8,.u [(11,4),(68,3)] 8] [(4,(RG.z 4))] [(8,5,(ws c6))] [(ws x1++(ws y1++(ws z1))),(ws x2++(ws y2++(ws z2))),(RG.z 12),(ws c1),(ws c2),(ws c3),(ws c4),(ws c5),(ws c6)] [(2,(.p 0 0)),(3,(.p 1 0)),(4,(.p 2 0)),(8,(.p 5 0)),(9,(.p 6 0)),(10,(.p 7 0)),(11,(.p 8 0))] ⟨RG.cl (F3_c),RG.ld u33 i33,RG.ld u33 i33,RG.cl ((rSub_c C c2 c4).e hc6),RG.mk 8 60,RG.pt i33,trivial⟩ ?_
 intro j12 a12 w12 M12
 repeat refine wp_seq ?_
 refine M12.d [.c 69 [] rv0,.s 70 [] (.p 0 8),.x 71 [(70,1)] (fv z1),.s 72 [] (.p 1 8),.x 73 [(72,3)] (fv z2),.c 74 [(69,0),(71,2),(73,4)] (fv c7),.m 12 [] 9,.u [(12,6),(74,5)] 9] [(6,(RG.z 4))] [(9,7,(ws c7))] [(ws x1++(ws y1++(ws z1))),(ws x2++(ws y2++(ws z2))),(RG.z 12),(ws c1),(ws c2),(ws c3),(ws c4),(ws c5),(ws c6),(ws c7)] [(4,(.p 2 0)),(8,(.p 5 0)),(9,(.p 6 0)),(10,(.p 7 0)),(11,(.p 8 0)),(12,(.p 9 0))] ⟨RG.cl (F3_c),RG.st,RG.ld u33 i33,RG.st,RG.ld u33 i33,RG.cl ((rMul_c C z1 z2).e hc7),RG.mk 9 60,RG.pt i33,trivial⟩ ?_
 intro j13 a13 w13 M13
 repeat refine wp_seq ?_
 refine M13.d [.c 75 [] rv0,.x 76 [] (fv c6),.x 77 [] (fv c6),.c 78 [(75,0),(76,1),(77,2)] (fv c8),.m 13 [] 10,.u [(13,4),(78,3)] 10] [(4,(RG.z 4))] [(10,5,(ws c8))] [(ws x1++(ws y1++(ws z1))),(ws x2++(ws y2++(ws z2))),(RG.z 12),(ws c1),(ws c2),(ws c3),(ws c4),(ws c5),(ws c6),(ws c7),(ws c8)] [(4,(.p 2 0)),(8,(.p 5 0)),(9,(.p 6 0)),(10,(.p 7 0)),(11,(.p 8 0)),(12,(.p 9 0)),(13,(.p 10 0))] ⟨RG.cl (F3_c),RG.ld u33 i33,RG.ld u33 i33,RG.cl ((rMul_c C c6 c6).e hc8),RG.mk 10 60,RG.pt i33,trivial⟩ ?_
 intro j14 a14 w14 M14
 repeat refine wp_seq ?_
 refine M14.d [.c 79 [] rv0,.x 80 [] (fv c8),.x 81 [] (fv c6),.c 82 [(79,0),(80,1),(81,2)] (fv c9),.m 14 [] 11,.u [(14,4),(82,3)] 11] [(4,(RG.z 4))] [(11,5,(ws c9))] [(ws x1++(ws y1++(ws z1))),(ws x2++(ws y2++(ws z2))),(RG.z 12),(ws c1),(ws c2),(ws c3),(ws c4),(ws c5),(ws c6),(ws c7),(ws c8),(ws c9)] [(4,(.p 2 0)),(8,(.p 5 0)),(9,(.p 6 0)),(10,(.p 7 0)),(11,(.p 8 0)),(12,(.p 9 0)),(13,(.p 10 0)),(14,(.p 11 0))] ⟨RG.cl (F3_c),RG.ld u33 i33,RG.ld u33 i33,RG.cl ((rMul_c C c8 c6).e hc9),RG.mk 11 60,RG.pt i33,trivial⟩ ?_
 intro j15 a15 w15 M15
 repeat refine wp_seq ?_
 refine M15.d [.c 83 [] rv0,.c 84 [] rv0,.c 85 [] rv0,.c 86 [] rv0,.x 87 [] (fv c5),.x 88 [] (fv c5),.c 89 [(86,3),(87,4),(88,5)] (fv c10),.x 90 [] (fv c7),.c 91 [(85,2),(89,6),(90,7)] (fv c11),.x 92 [] (fv c9),.c 93 [(84,1),(91,8),(92,9)] (fv c12),.c 94 [] rv0,.c 95 [] rv0,.x 96 [] (fv c4),.x 97 [] (fv c4),.c 98 [(95,12),(96,13),(97,14)] (fv c13),.x 99 [] (fv c8),.c 100 [(94,11),(98,15),(99,16)] (fv c14),.c 101 [(83,0),(93,10),(100,17)] (fv c15),.m 15 [] 12,.u [(15,19),(101,18)] 12] [(19,(RG.z 4))] [(12,20,(ws c15))] [(ws x1++(ws y1++(ws z1))),(ws x2++(ws y2++(ws z2))),(RG.z 12),(ws c1),(ws c2),(ws c3),(ws c4),(ws c5),(ws c6),(ws c7),(ws c8),(ws c9),(ws c15)] [(4,(.p 2 0)),(8,(.p 5 0)),(9,(.p 6 0)),(10,(.p 7 0)),(11,(.p 8 0)),(12,(.p 9 0)),(13,(.p 10 0)),(14,(.p 11 0)),(15,(.p 12 0))] ⟨RG.cl (F3_c),RG.cl (F3_c),RG.cl (F3_c),RG.cl (F3_c),RG.ld u33 i33,RG.ld u33 i33,RG.cl ((rMul_c C c5 c5).e hc10),RG.ld u33 i33,RG.cl ((rMul_c C c10 c7).e hc11),RG.ld u33 i33,RG.cl ((rSub_c C c11 c9).e hc12),RG.cl (F3_c),RG.cl (F3_c),RG.ld u33 i33,RG.ld u33 i33,RG.cl ((rAdd_c C c4 c4).e hc13),RG.ld u33 i33,RG.cl ((rMul_c C c13 c8).e hc14),RG.cl ((rSub_c C c12 c14).e hc15),RG.mk 12 60,RG.pt i33,trivial⟩ ?_
 intro j16 a16 w16 M16
 repeat refine wp_seq ?_
 refine M16.d [.c 102 [] rv0,.x 103 [] (fv c6),.x 104 [] (fv c15),.c 105 [(102,0),(103,1),(104,2)] (fv c16),.c 106 [] rv0,.c 107 [] rv0,.x 108 [] (fv c5),.c 109 [] rv0,.c 110 [] rv0,.x 111 [] (fv c4),.x 112 [] (fv c8),.c 113 [(110,8),(111,9),(112,10)] (fv c17),.x 114 [] (fv c15),.c 115 [(109,7),(113,11),(114,12)] (fv c18),.c 116 [(107,5),(108,6),(115,13)] (fv c19),.c 117 [] rv0,.x 118 [] (fv c3),.x 119 [] (fv c9),.c 120 [(117,15),(118,16),(119,17)] (fv c20),.c 121 [(106,4),(116,14),(120,18)] (fv c21),.c 122 [] rv0,.x 123 [] (fv c9),.x 124 [] (fv c7),.c 125 [(122,20),(123,21),(124,22)] (fv c22),.x 126 [(105,3),(121,19),(125,23)] (rv c16 c21 c22),.u [(126,24)] 2] [] [(2,25,(ws c16++(ws c21++(ws c22))))] [(ws x1++(ws y1++(ws z1))),(ws x2++(ws y2++(ws z2))),(ws c16++(ws c21++(ws c22))),(ws c1),(ws c2),(ws c3),(ws c4),(ws c5),(ws c6),(ws c7),(ws c8),(ws c9),(ws c15)] [(4,(.p 2 0))] ⟨RG.cl (F3_c),RG.ld u33 i33,RG.ld u33 i33,RG.cl ((rMul_c C c6 c15).e hc16),RG.cl (F3_c),RG.cl (F3_c),RG.ld u33 i33,RG.cl (F3_c),RG.cl (F3_c),RG.ld u33 i33,RG.ld u33 i33,RG.cl ((rMul_c C c4 c8).e hc17),RG.ld u33 i33,RG.cl ((rSub_c C c17 c15).e hc18),RG.cl ((rMul_c C c5 c18).e hc19),RG.cl (F3_c),RG.ld u33 i33,RG.ld u33 i33,RG.cl ((rMul_c C c3 c9).e hc20),RG.cl ((rSub_c C c19 c20).e hc21),RG.cl (F3_c),RG.ld u33 i33,RG.ld u33 i33,RG.cl ((rMul_c C c9 c7).e hc22),RG.st,RG.pt i56,trivial⟩ ?_
 intro a17 w17 M17
 refine wp_ret ?_
 refine bodyPost_ret (v:=(rv c16 c21 c22)) (RG.results_row M17.st 4 68 rfl 2 _ rfl (M17.at (s:=(.p 2 0))) u56 i56) M17.sl.defers ?_
 exact ⟨_,rfl,M17.st.bel.below,rfl⟩
theorem rat_y_c (C:Fl3 P) (x y:Fin P)(hr:rt (x*x*x+7)=some y) :Gives 125 #[(fv x)] (.tuple #[rv x y 1,.bool true]):=by
 intro w
 obtain ⟨c1,hc1⟩:∃ c,c=x*x:=⟨_,rfl⟩
 obtain ⟨c2,hc2⟩:∃ c,c=c1*x:=⟨_,rfl⟩
 obtain ⟨c3,hc3⟩:∃ c,c=c2+(7:Fin P):=⟨_,rfl⟩
 have hfin:((.tuple #[(rv x y (1:Fin P)),(.bool true)]):Value)=(.tuple #[rv x y 1,.bool true]):=by
  subst_vars;rfl
 rw[← hfin]
 go_enter Tryz.func125,Tryz.ntmps125
 refine RG.M.enter [(0,(.v (fv x)))] 26 (by kernel_rfl) ?_
 intro a0 M0
 repeat refine wp_seq ?_
 refine M0.t [.m 1 [] 0,.m 2 [] 1,.x 3 [] (.bool false)] [(0,(ws x)),(1,(RG.z 12))] [] [(ws x),(RG.z 12)] [(1,(.p 0 0)),(2,(.p 1 0)),(3,(.v (.bool false)))] ⟨RG.mk 0 60,RG.mk 1 68,RG.st,trivial⟩ ?_
 intro j1 i1 a1 w1 M1
 repeat refine wp_seq ?_
 refine M1.d [.c 7 [] rv0,.c 8 [] rv0,.c 9 [] rv0,.c 10 [] rv0,.x 11 [] (fv x),.x 12 [] (fv x),.c 13 [(10,3),(11,4),(12,5)] (fv c1),.x 14 [] (fv x),.c 15 [(9,2),(13,6),(14,7)] (fv c2),.c 16 [] (fv (7:Fin P)),.c 17 [(8,1),(15,8),(16,9)] (fv c3),.c 18 [(7,0),(17,10)] (.tuple #[(fv y),(.bool true)]),.x 6 [(18,11)] (.tuple #[(fv y),(.bool true)]),.x 19 [(6,12)] (fv y),.x 20 [(6,12)] (.bool true),.m 4 [] 2,.u [(4,15),(19,13)] 2,.x 5 [(20,14)] (.bool true)] [(15,(RG.z 4))] [(2,16,(ws y))] [(ws x),(RG.z 12),(ws y)] [(1,(.p 0 0)),(2,(.p 1 0)),(3,(.v (.bool false))),(4,(.p 2 0)),(5,(.v (.bool true)))] ⟨RG.cl (F3_c),RG.cl (F3_c),RG.cl (F3_c),RG.cl (F3_c),RG.ld u33 i33,RG.ld u33 i33,RG.cl ((rMul_c C x x).e hc1),RG.ld u33 i33,RG.cl ((rMul_c C c1 x).e hc2),RG.cl (rSmall7_c C),RG.cl ((rAdd_c C c2 (7:Fin P)).e hc3),RG.cl (f:=172) (args:=#[rv0,(fv c3)]) (v:=(.tuple #[(fv y),(.bool true)])) (rSqrt_y C (by subst_vars;exact hr)),RG.st,RG.st,RG.st,RG.mk 2 60,RG.pt i33,RG.st,trivial⟩ ?_
 intro j2 a2 w2 M2
 repeat refine wp_seq ?_
 refine M2.d [.x 21 [] (fv x),.x 22 [] (fv y),.c 23 [] (fv (1:Fin P)),.x 24 [(21,0),(22,1),(23,2)] (rv x y (1:Fin P)),.x 25 [] (.bool true),.u [(24,3)] 1,.x 3 [(25,4)] (.bool true)] [] [(1,5,(ws x++(ws y++(ws (1:Fin P)))))] [(ws x),(ws x++(ws y++(ws (1:Fin P)))),(ws y)] [(2,(.p 1 0)),(3,(.v (.bool true)))] ⟨RG.ld u33 i33,RG.ld u33 i33,RG.cl (rSmall1_c C),RG.st,RG.st,RG.pt i56,RG.st,trivial⟩ ?_
 intro a3 w3 M3
 refine wp_ret ?_
 refine bodyPost_ret (v:=(.tuple #[(rv x y (1:Fin P)),(.bool true)])) (RG.results_rt M3.st 2 3 68 rfl 1 _ rfl (M3.at (s:=(.p 1 0))) _ (M3.at (s:=(.v (.bool true)))) u56 i56) M3.sl.defers ?_
 exact ⟨_,rfl,M3.st.bel.below,rfl⟩
end
section
open Go.RowKit Go.Sort Go.Deep
variable {P:Nat} [NeZero P] {N:Nat}
theorem qMod_c (O:Ord N) (s:Bs) (hs:s.size≤1048576):Gives 98 #[rv1,.string ⟨s⟩] (nv (redu N s)):=fun w =>
 (rMod_any _ _ _ _ _ _ _ _ N ⟨s⟩ O.ref hs w).mono (by rintro e w' ⟨v,rfl,hb,hF⟩;exact ⟨_,rfl,hb,hF.nv⟩)
theorem qAdd_c (O:Ord N) {a b:Nat} (ha:a<N) (hb:b<N):Gives 46 #[rv1,nv a,nv b] (nv (sPl N a b)):=fun w =>
 (rAdd_R O.ref (O.four ha) (O.four hb) w).mono (by rintro e w' ⟨v,rfl,hb,hF⟩;exact ⟨_,rfl,hb,hF.nv⟩)
theorem qChance_c (O:Ord N) (label:ByteArray) (pa:Option Addr) (cap:Nat) (ps:List ByteArray) (w:World) (hlab:label.size≤1048576) (hpl:ps.length≤1048576)
 (hP:ps.length=0∨∃ pb po,pa=some ⟨pb,po,none⟩∧∀ j,j<ps.length→w.cell? ⟨pb,po+j,none⟩=some (.string ps[j]!)) (hsz:∀ j,j<ps.length→(ps[j]!).size≤1048576)
 (htot:(SP.framesL label.data.toList (ps.map fun s=>s.data.toList)).length≤1048576) :
 Calls Tryz.prog 42 #[.string label,.slice pa ps.length cap] w (Ret fun e w'=>Below w.heap.size w w'∧e=nv (chL N label.data.toList (ps.map fun s=>s.data.toList))):=by
 have hT0:∀ w',RG.BelX w.heap.size [] w w'→Calls Tryz.prog 100 #[.string label,.slice pa ps.length cap] w' (Ret fun e w''=>Below w'.heap.size w' w''∧e=.string ⟨SP.tagL label.data.toList (ps.map fun s=>s.data.toList)⟩):=fun w' hb=>by
  refine (SP.refTag_any label pa cap ps w' hlab hpl ?_ hsz htot).mono ?_
  ·rcases hP with h|⟨pb,po,h1,h2⟩
   ·exact Or.inl h
   ·exact Or.inr ⟨pb,po,h1,fun j hj=>by rw[hb.below.cell (p:=⟨pb,po+j,none⟩) (World.block_lt_of_cell? _ _ (h2 j hj))];exact h2 j hj⟩
  ·rintro e w'' ⟨rfl,hb⟩
   exact ⟨_,rfl,hb,rfl⟩
 unfold chL
 have hTs:=SP.tagL_size label.data.toList (ps.map fun s=>s.data.toList)
 generalize SP.tagL label.data.toList (ps.map fun s=>s.data.toList)=T at hT0 hTs ⊢
 have hS0:Gives 99 #[.string ⟨T⟩,.int .i64 64] (.string ⟨SP.strmL T.toList 64⟩):=fun w'=>by
  refine (SP.refStream_any ⟨T⟩ 64 w' (by show T.size≤_;omega) (by decide)).mono ?_
  rintro e w'' ⟨rfl,hb⟩
  exact ⟨_,rfl,hb,rfl⟩
 have hM:=qMod_c O (SP.strmL T.toList 64) (by rw[SP.strm_size];decide)
 generalize SP.strmL T.toList 64=S at hS0 hM ⊢
 generalize redu N S=n at hM ⊢
 generalize hv:Value.slice pa ps.length cap=v at hT0 ⊢
 clear hTs hP hsz htot hpl hlab hv
 go_enter Tryz.func42,Tryz.ntmps42
 refine RG.M.enter [(0,.v (.string label)),(1,.v v)] 11 (by kernel_rfl) ?_
 intro a0 M0
 repeat refine wp_seq ?_
 refine M0.t [.m 4 [] 0] [(0,RG.z 4)] [] [RG.z 4] [(0,.v (.string label)),(1,.v v),(4,.p 0 0)] ⟨RG.mk 0 60,trivial⟩ ?_
 intro j1 a1 w1 M1
 repeat refine wp_seq ?_
 refine M1.t [.c 5 [] rv1,.x 6 [] (.string label),.x 7 [] v,.c 8 [(6,1),(7,2)] (.string ⟨T⟩),.c 9 [(8,3)] (.string ⟨S⟩),.c 10 [(5,0),(9,4)] (nv n),.u [(10,5)] 0] [] [(0,6,wn n)] [wn n] [(4,.p 0 0)] ⟨RG.cl Q3_c,RG.st,RG.st,RG.clB (fun _ _=>by kernel_rfl) hT0,RG.cl hS0,RG.cl hM,RG.pt i33,trivial⟩ ?_
 intro a2 w2 M2
 refine wp_ret ?_
 refine bodyPost_ret (v:=nv n) (RG.results_row M2.st 4 60 rfl 0 _ rfl (M2.at (s:=(.p 0 0))) u33 i33) M2.sl.defers ?_
 exact ⟨_,rfl,M2.st.bel.below,rfl⟩
theorem qChallenge_c (O:Ord N) (y:Nat) (L:Bs) (w:World) (hl:L.size=32) (hL:SP.RLog w y L):Calls Tryz.prog 107 #[.pointer (some ⟨y,0,none⟩)] w (Ret fun e w'=>SP.Only y 0 1 w w'∧e=nv (cha N L)):=by
 obtain ⟨A,hA⟩:∃ A,Hid (SP.askL L [99,104,97,108,108,101,110,103,101] 64=A):=⟨_,rfl⟩
 have hAs:A.size=64:=by rw[← hA.out];exact SP.askL_size _ _ _
 have hr:cha N L=redu N A:=by unfold cha;rw[hA.out]
 rw[hr]
 clear hr
 have hy:=hL.lt
 obtain ⟨w1,hw1⟩:∃ w1,Hid (w.alloc (.cells #[.int .u64 0,.int .u64 0,.int .u64 0,.int .u64 0] 60)=w1):=⟨_,rfl⟩
 have K1:Hid (Row w1 w.heap.size [.int .u64 0,.int .u64 0,.int .u64 0,.int .u64 0]∧Below w.heap.size w w1):=by rw[← hw1.out];exact ⟨row_new w _ _,below1 w _⟩
 go_enter Tryz.func107,Tryz.ntmps107
 go_wp2_with fail
 rw[hw1.out]
 refine (Q3_c w1).mono ?_
 rintro e w2 ⟨v,rfl,hb2,rfl⟩
 have K2:Hid (Row w2 w.heap.size [.int .u64 0,.int .u64 0,.int .u64 0,.int .u64 0]∧Below w.heap.size w w2∧SP.RLog w2 y L):=⟨K1.out.1.below hb2,K1.out.2.trans (hb2.mono K1.out.2.size),(hL.below K1.out.2).below hb2⟩
 clear hb2 K1 hw1
 go_wp2_with fail
 refine (SP.refAsk_any y L ⟨#[99,104,97,108,108,101,110,103,101]⟩ 64 w2 (by decide) (by decide) hl K2.out.2.2).mono ?_
 rintro e w3 ⟨rfl,hO,-⟩
 rw[show SP.askL L (⟨#[99,104,97,108,108,101,110,103,101]⟩:ByteArray).data.toList 64=A from hA.out]
 have K3:Hid (Row w3 w.heap.size [.int .u64 0,.int .u64 0,.int .u64 0,.int .u64 0]∧SP.Only y 0 1 w w3):=⟨K2.out.1.only hO (by omega),(SP.Only.of_below K2.out.2.1 rfl hy).trans hO⟩
 clear hO K2
 go_wp2_with fail
 refine (qMod_c O A (by omega) w3).mono ?_
 rintro e w4 ⟨v,rfl,hb4,rfl⟩
 have K4:Hid (Row w4 w.heap.size [.int .u64 0,.int .u64 0,.int .u64 0,.int .u64 0]∧SP.Only y 0 1 w w4):=⟨K3.out.1.below hb4,K3.out.2.trans (SP.Only.of_below hb4 rfl (Nat.lt_of_lt_of_le hy K3.out.2.size))⟩
 clear hb4 K3
 obtain ⟨m,hm⟩:∃ m,Hid (redu N A=m):=⟨_,rfl⟩
 rw[hm.out]
 obtain ⟨w5,hw5⟩:∃ w5,Hid (w4.setCells w.heap.size 0 (wn m)=w5):=⟨_,rfl⟩
 have K5:Hid (Row w5 w.heap.size (wn m)∧SP.Only y 0 1 w w5):=by
  rw[← hw5.out]
  exact ⟨K4.out.1.put rfl,only_setCells K4.out.2 hy (Nat.le_refl _) _⟩
 obtain ⟨vm,hvm⟩:∃ vm,Hid (nv m=vm):=⟨_,rfl⟩
 rw[hvm.out]
 go_wp2_with (refine wpList_store_mid rfl 60 _ _ rfl w.heap.size 0 (wn m).toArray ?_ ?_ ?_ ?_ ?_ ?_;rfl;exact hvm.out.symm;exact K4.out.1.2.2;exact i33;exact wn_one m;rw[show (wn m).toArray.toList=wn m from rfl,hw5.out])
 refine bodyPost_ret (results_cell 2 60 rfl K5.out.1 rfl u33 i33) rfl ?_
 exact ⟨_,rfl,K5.out.2,by rw[hm.out];rfl⟩
def logS (a b c:List UInt8):Bs:=SP.sayL (SP.sayL (SP.sayL (SP.newL [115,105,103,110]) [112,117,98,108,105,99] a) [102,105,114,115,116] b) [116,101,120,116] c
def asg (N:Nat) (a b c:List UInt8):Nat:=cha N (logS a b c)
theorem asg_lt (O:Ord N) (a b c:List UInt8):asg N a b c<N:=redu_lt O _
theorem qAsked_c (O:Ord N) (a b c:ByteArray) (ha:a.size≤16384) (hb:b.size≤16384) (hc:c.size≤16384):Gives 45 #[.string a,.string b,.string c] (nv (asg N a.data.toList b.data.toList c.data.toList)):=by
 intro w
 obtain ⟨L0,h0⟩:∃ L,Hid (SP.newL [115,105,103,110]=L):=⟨_,rfl⟩
 obtain ⟨L1,h1⟩:∃ L,Hid (SP.sayL L0 [112,117,98,108,105,99] a.data.toList=L):=⟨_,rfl⟩
 obtain ⟨L2,h2⟩:∃ L,Hid (SP.sayL L1 [102,105,114,115,116] b.data.toList=L):=⟨_,rfl⟩
 obtain ⟨L3,h3⟩:∃ L,Hid (SP.sayL L2 [116,101,120,116] c.data.toList=L):=⟨_,rfl⟩
 have s0:L0.size=32:=by rw[← h0.out];exact SP.newL_size _
 have s1:L1.size=32:=by rw[← h1.out];exact SP.sayL_size _ _ _
 have s2:L2.size=32:=by rw[← h2.out];exact SP.sayL_size _ _ _
 have s3:L3.size=32:=by rw[← h3.out];exact SP.sayL_size _ _ _
 have hr:asg N a.data.toList b.data.toList c.data.toList=cha N L3:=by unfold asg logS;rw[h0.out,h1.out,h2.out,h3.out]
 rw[hr]
 clear hr
 obtain ⟨w1,hw1⟩:∃ w1,Hid (w.alloc (.cells #[.int .u64 0,.int .u64 0,.int .u64 0,.int .u64 0] 60)=w1):=⟨_,rfl⟩
 have K1:Hid (Row w1 w.heap.size [.int .u64 0,.int .u64 0,.int .u64 0,.int .u64 0]∧Below w.heap.size w w1∧w.heap.size<w1.heap.size):=by rw[← hw1.out];exact ⟨row_new w _ _,below1 w _,by rw[World.size_alloc];omega⟩
 go_enter Tryz.func45,Tryz.ntmps45
 go_wp2_with fail
 rw[hw1.out]
 clear hw1
 refine (SP.refNew_any ⟨#[115,105,103,110]⟩ w1 (by decide)).mono ?_
 rintro e w2 ⟨y,rfl,hy,hb2,hL2⟩
 rw[show SP.newL (⟨#[115,105,103,110]⟩:ByteArray).data.toList=L0 from h0.out] at hL2
 have hyw:w.heap.size<y:=by have:=K1.out.2.2;omega
 have K2:Hid (Row w2 w.heap.size [.int .u64 0,.int .u64 0,.int .u64 0,.int .u64 0]∧Below w.heap.size w w2∧SP.RLog w2 y L0):=⟨K1.out.1.below hb2,K1.out.2.1.trans (hb2.mono K1.out.2.1.size),hL2⟩
 clear hb2 hL2 K1 hy
 go_wp2_with fail
 refine (SP.refSay_any y L0 ⟨#[112,117,98,108,105,99]⟩ a w2 (by decide) ha s0 K2.out.2.2).mono ?_
 rintro e w3 ⟨rfl,hO,hL⟩
 rw[show SP.sayL L0 (⟨#[112,117,98,108,105,99]⟩:ByteArray).data.toList a.data.toList=L1 from h1.out] at hL
 have K3:Hid (Row w3 w.heap.size [.int .u64 0,.int .u64 0,.int .u64 0,.int .u64 0]∧Below w.heap.size w w3∧SP.RLog w3 y L1):=⟨K2.out.1.only hO (by omega),K2.out.2.1.trans (hO.below K2.out.2.1.size (by omega)),hL⟩
 clear hO hL K2
 go_wp2_with fail
 refine (SP.refSay_any y L1 ⟨#[102,105,114,115,116]⟩ b w3 (by decide) hb s1 K3.out.2.2).mono ?_
 rintro e w4 ⟨rfl,hO,hL⟩
 rw[show SP.sayL L1 (⟨#[102,105,114,115,116]⟩:ByteArray).data.toList b.data.toList=L2 from h2.out] at hL
 have K4:Hid (Row w4 w.heap.size [.int .u64 0,.int .u64 0,.int .u64 0,.int .u64 0]∧Below w.heap.size w w4∧SP.RLog w4 y L2):=⟨K3.out.1.only hO (by omega),K3.out.2.1.trans (hO.below K3.out.2.1.size (by omega)),hL⟩
 clear hO hL K3
 go_wp2_with fail
 refine (SP.refSay_any y L2 ⟨#[116,101,120,116]⟩ c w4 (by decide) hc s2 K4.out.2.2).mono ?_
 rintro e w5 ⟨rfl,hO,hL⟩
 rw[show SP.sayL L2 (⟨#[116,101,120,116]⟩:ByteArray).data.toList c.data.toList=L3 from h3.out] at hL
 have K5:Hid (Row w5 w.heap.size [.int .u64 0,.int .u64 0,.int .u64 0,.int .u64 0]∧Below w.heap.size w w5∧SP.RLog w5 y L3):=⟨K4.out.1.only hO (by omega),K4.out.2.1.trans (hO.below K4.out.2.1.size (by omega)),hL⟩
 clear hO hL K4
 go_wp2_with fail
 refine (qChallenge_c O y L3 w5 s3 K5.out.2.2).mono ?_
 rintro e w6 ⟨v,rfl,hO,rfl⟩
 have K6:Hid (Row w6 w.heap.size [.int .u64 0,.int .u64 0,.int .u64 0,.int .u64 0]∧Below w.heap.size w w6):=⟨K5.out.1.only hO (by omega),K5.out.2.1.trans (hO.below K5.out.2.1.size (by omega))⟩
 clear hO K5
 obtain ⟨m,hm⟩:∃ m,Hid (cha N L3=m):=⟨_,rfl⟩
 rw[hm.out]
 obtain ⟨w7,hw7⟩:∃ w7,Hid (w6.setCells w.heap.size 0 (wn m)=w7):=⟨_,rfl⟩
 have K7:Hid (Row w7 w.heap.size (wn m)∧Below w.heap.size w w7):=by rw[← hw7.out];exact ⟨K6.out.1.put rfl,RG.below_setCells (Nat.le_refl _) _ _ _ K6.out.2⟩
 obtain ⟨vm,hvm⟩:∃ vm,Hid (nv m=vm):=⟨_,rfl⟩
 rw[hvm.out]
 go_wp2_with (refine wpList_store_mid rfl 60 _ _ rfl w.heap.size 0 (wn m).toArray ?_ ?_ ?_ ?_ ?_ ?_;rfl;exact hvm.out.symm;exact K6.out.1.2.2;exact i33;exact wn_one m;rw[show (wn m).toArray.toList=wn m from rfl,hw7.out])
 refine bodyPost_ret (results_cell 6 60 rfl K7.out.1 rfl u33 i33) rfl ?_
 exact ⟨_,rfl,K7.out.2,by rw[hm.out];rfl⟩
def z12:Array Value:=#[.int .u64 0,.int .u64 0,.int .u64 0,.int .u64 0,.int .u64 0,.int .u64 0,.int .u64 0,.int .u64 0,.int .u64 0,.int .u64 0,.int .u64 0,.int .u64 0]
def W5 (w:World):World:=(w.alloc (.cells z12 68)).alloc (.cells (madeCells #[.int .u8 0] 33) 5)
def n12 (P:Nat) [NeZero P]:List Value:=ws (0:Fin P)++(ws (1:Fin P)++ws (0:Fin P))
end
section
open Go.RowKit Go.Sort
variable {P:Nat} [NeZero P] {N:Nat}
def FracT (t:T3 P) (p:EC.Pt P):Prop:=EC.Frac t.1 t.2.1 t.2.2 p∧EC.On p
def dbF (t:T3 P):T3 P:=(EC.fdE t.2.1 t.2.2*EC.fdT t.1 t.2.1 t.2.2,EC.fdD t.1*(t.1*(EC.fdE t.2.1 t.2.2*EC.fdE t.2.1 t.2.2)-EC.fdT t.1 t.2.1 t.2.2)-t.2.1*(EC.fdE t.2.1 t.2.2*EC.fdE t.2.1 t.2.2*EC.fdE t.2.1 t.2.2),EC.fdE t.2.1 t.2.2*EC.fdE t.2.1 t.2.2*EC.fdE t.2.1 t.2.2*t.2.2)
def plF (a b : T3 P) : T3 P :=
  if a.2.2 = 0 then b else if b.2.2 = 0 then a else
  if b.1 * a.2.2 = a.1 * b.2.2 then (if b.2.1 * a.2.2 = a.2.1 * b.2.2 then dbF a else (0, 1, 0)) else
  ((b.1 * a.2.2 - a.1 * b.2.2) * EC.frT (b.2.1 * a.2.2 - a.2.1 * b.2.2) (b.1 * a.2.2 - a.1 * b.2.2) (a.2.2 * b.2.2) (a.1 * b.2.2),
   (b.2.1 * a.2.2 - a.2.1 * b.2.2) * (a.1 * b.2.2 * ((b.1 * a.2.2 - a.1 * b.2.2) * (b.1 * a.2.2 - a.1 * b.2.2)) - EC.frT (b.2.1 * a.2.2 - a.2.1 * b.2.2) (b.1 * a.2.2 - a.1 * b.2.2) (a.2.2 * b.2.2) (a.1 * b.2.2)) - a.2.1 * b.2.2 * ((b.1 * a.2.2 - a.1 * b.2.2) * (b.1 * a.2.2 - a.1 * b.2.2) * (b.1 * a.2.2 - a.1 * b.2.2)),
   (b.1 * a.2.2 - a.1 * b.2.2) * (b.1 * a.2.2 - a.1 * b.2.2) * (b.1 * a.2.2 - a.1 * b.2.2) * (a.2.2 * b.2.2))
theorem FracT.plus (C:Fl3 P) {a b:T3 P} {p q:EC.Pt P} (h:FracT a p) (h':FracT b q):Gives 54 #[tv a,tv b] (tv (plF a b))∧FracT (plF a b) (EC.add p q):=by
 have ho:=C.cur.on h.2 h'.2
 obtain ⟨x1,y1,z1⟩:=a
 obtain ⟨x2,y2,z2⟩:=b
 refine ⟨rPlusJ_any C x1 y1 z1 x2 y2 z2 _ (fun n1=>by unfold plF;rw[if_pos n1]) (fun n1 n2=>by unfold plF;rw[if_neg n1,if_pos n2]) (fun n1 n2 e=>?_) (fun n1 n2 e1=>by unfold plF;rw[if_neg n1,if_neg n2,if_neg e1]),?_⟩
 ·rcases h.1.plus C.cur h.2 h'.1 h'.2 n1 n2 with ⟨e1,e2,e3⟩|⟨e1,e2,e3,e4⟩|⟨e1,e2⟩
  ·exact .inl ⟨e2,by unfold plF;rw[if_neg n1,if_neg n2,if_pos e1,if_neg e2]⟩
  ·exact .inr ⟨e2,e3,by unfold plF;rw[if_neg n1,if_neg n2,if_pos e1,if_pos e2];rfl⟩
  ·exact absurd e e1
 unfold plF
 by_cases n1:z1=0
 ·rw[if_pos n1]
  obtain rfl:=h.1.zero n1
  exact h'
 ·rw[if_neg n1]
  by_cases n2:z2=0
  ·rw[if_pos n2]
   obtain rfl:=h'.1.zero n2
   rw[EC.add_none]
   exact h
  ·rw[if_neg n2]
   rcases h.1.plus C.cur h.2 h'.1 h'.2 n1 n2 with ⟨e1,e2,e3⟩|⟨e1,e2,e3,e4⟩|⟨e1,e2⟩
   ·rw[if_pos e1,if_neg e2]
    refine ⟨?_,ho⟩
    rw[e3]
    exact rfl
   ·rw[if_pos e1,if_pos e2]
    refine ⟨?_,ho⟩
    rw[e4]
    exact h.1.double C.cur h.2 n1
   ·rw[if_neg e1]
    exact ⟨e2,ho⟩
theorem FracT.none:FracT ((0,1,0):T3 P) .none:=⟨rfl,EC.none_on⟩
def tmF (n:Nat) (t:T3 P):Nat→T3 P
 | 0=>(0,1,0)
 | m+1=>if n/2^(255-m)%2=1 then plF (plF (tmF n t m) (tmF n t m)) t else plF (tmF n t m) (tmF n t m)
theorem tmF_F (C:Fl3 P) {n:Nat} {t:T3 P} {p:EC.Pt P} (hn:n<2^256) (h:FracT t p):∀ m,m≤256→FracT (tmF n t m) (EC.mul (n/2^(256-m)) p)
 | 0,_=>by
  rw[Nat.sub_zero,Nat.div_eq_of_lt hn]
  exact FracT.none
 | m+1,hm=>by
  have ih:=tmF_F C hn h m (by omega)
  have e1:256-m=255-m+1:=by omega
  rw[show 256-(m+1)=255-m by omega,div_bit n (255-m),← e1]
  unfold tmF
  have h2:=(ih.plus C ih).2
  rw[← EC.mul_add C.cur h.2,← Nat.two_mul] at h2
  by_cases hb:n/2^(255-m)%2=1
  ·rw[if_pos hb,hb]
   exact (h2.plus C h).2
  ·rw[if_neg hb,show n/2^(255-m)%2=0 by omega]
   exact h2
theorem frac_one (C:Fld P) (x y:Fin P):EC.Frac x y 1 (.some (x,y):EC.Pt P):=⟨fun h=>C.cur.two (by grobner),by grobner,by grobner⟩
end
section
open Go.RowKit Go.Sort Go.Deep
variable {P:Nat} [NeZero P] {N:Nat}
def gxB:Bs:=#[121,190,102,126,249,220,187,172,85,160,98,149,206,135,11,7,2,155,252,219,45,206,40,217,89,242,129,91,22,248,23,152]
theorem of_g (C:Fld P):Gives 148 #[.string ⟨gxB⟩] (fv (gX P)):=fun w=>(rOf_any ⟨gxB⟩ rfl w).mono (by
 rintro e w' ⟨v,rfl,hb,hF⟩
 refine ⟨_,rfl,hb,?_⟩
 have h:=hF.nv
 rw[h]
 show nv _=nv _
 rw[gX_val C]
 exact congrArg nv (by decide +kernel:beV gxB.toList=55066263022277343669578718895168534326250603453777594175500187360389116729240))
theorem g_root (C:Fld P):rt (gX P*gX P*gX P+7)=some (gY P):=by
 have h:=gG_on C
 have h1:gY P^2=gX P^3+7:=h
 have h2:gY P*gY P=gX P*gX P*gX P+7:=by
  generalize gX P=x at *
  generalize gY P=y at *
  clear h C
  grobner
 rw[rt_of C h2,if_neg]
 rw[gY_val C]
 decide
def gT (P:Nat) [NeZero P]:T3 P:=(gX P,gY P,1)
theorem gT_frac (C:Fld P):FracT (gT P) (gG P):=⟨frac_one C _ _,gG_on C⟩
theorem rG_c (C:Fl3 P):Gives 101 #[] (tv (gT P)):=by
 intro w
 go_enter Tryz.func101,Tryz.ntmps101
 refine RG.M.enter [] 11 (by kernel_rfl) ?_
 intro a0 M0
 repeat refine wp_seq ?_
 refine M0.t [.m 0 [] 0] [(0,(RG.z 12))] [] [(RG.z 12)] [(0,(.p 0 0))] ⟨RG.mk 0 68,trivial⟩ ?_
 intro j1 a1 w1 M1
 repeat refine wp_seq ?_
 refine M1.t [.c 4 [] (fv (gX P)),.m 1 [] 1,.u [(1,1),(4,0)] 1] [(1,(RG.z 4))] [(1,2,(ws (gX P)))] [(RG.z 12),(ws (gX P))] [(0,(.p 0 0)),(1,(.p 1 0))] ⟨RG.cl (of_g C.toFld),RG.mk 1 60,RG.pt i33,trivial⟩ ?_
 intro j2 a2 w2 M2
 repeat refine wp_seq ?_
 refine M2.t [.x 6 [] (fv (gX P)),.c 7 [(6,0)] (.tuple #[(rv (gX P) (gY P) (1:Fin P)),(.bool true)]),.x 5 [(7,1)] (.tuple #[(rv (gX P) (gY P) (1:Fin P)),(.bool true)]),.x 8 [(5,2)] (rv (gX P) (gY P) (1:Fin P)),.x 9 [(5,2)] (.bool true),.m 2 [] 2,.u [(2,5),(8,3)] 2,.x 3 [(9,4)] (.bool true)] [(5,(RG.z 12))] [(2,6,(ws (gX P)++(ws (gY P)++(ws (1:Fin P)))))] [(RG.z 12),(ws (gX P)),(ws (gX P)++(ws (gY P)++(ws (1:Fin P))))] [(0,(.p 0 0)),(2,(.p 2 0))] ⟨RG.ld u33 i33,RG.cl (rat_y_c C (gX P) (gY P) (g_root C.toFld)),RG.st,RG.st,RG.st,RG.mk 2 68,RG.pt i56,RG.st,trivial⟩ ?_
 intro j3 a3 w3 M3
 repeat refine wp_seq ?_
 refine M3.t [.x 10 [] (rv (gX P) (gY P) (1:Fin P)),.u [(10,0)] 0] [] [(0,1,(ws (gX P)++(ws (gY P)++(ws (1:Fin P)))))] [(ws (gX P)++(ws (gY P)++(ws (1:Fin P)))),(ws (gX P)),(ws (gX P)++(ws (gY P)++(ws (1:Fin P))))] [(0,(.p 0 0))] ⟨RG.ld u56 i56,RG.pt i56,trivial⟩ ?_
 intro a4 w4 M4
 refine wp_ret ?_
 refine bodyPost_ret (v:=tv (gT P)) (RG.results_row M4.st 0 68 rfl 0 _ rfl (M4.at (s:=.p 0 0)) u56 i56) M4.sl.defers ?_
 exact ⟨_,rfl,M4.st.bel.below,rfl⟩
end
section
open Go.RowKit Go.Sort
variable {P:Nat} [NeZero P] {N:Nat}
theorem geq0 (i:Nat) (w:World):(binOp .geq 3 (.int .i64 i) (.int .i64 0)).run Tryz.prog w=.ok (.bool true) w:=by
 go_simp
theorem sub1 (i:Nat) (hi:i<1000) (w:World):(binOp .sub 3 (.int .i64 i) (.int .i64 1)).run Tryz.prog w=.ok (.int .i64 ((i:Int)-1)) w:=by
 have h:=IntWalk.i64_in ((i:Int)-1) (by omega)
 go_simp
theorem rBit_1 {n i:Nat} (hn:n<top) (hi:i<256) (h:n/2^i%2=1):Gives 114 #[nv n,.int .i64 i] (.int .u64 1):=fun w =>
 (rBit_any _ n i (four_nv hn) hi w).mono (by rintro e w' ⟨v,rfl,hb,t,rfl,ht⟩;exact ⟨_,rfl,hb,by rw[ht,h];rfl⟩)
theorem rBit_0 {n i:Nat} (hn:n<top) (hi:i<256) (h:¬ n/2^i%2=1):Gives 114 #[nv n,.int .i64 i] (.int .u64 0):=fun w =>
 (rBit_any _ n i (four_nv hn) hi w).mono (by rintro e w' ⟨v,rfl,hb,t,rfl,ht⟩;exact ⟨_,rfl,hb,by rw[ht,show n/2^i%2=0 by omega];rfl⟩)
theorem rTimes_c (C:Fl3 P) (n:Nat) (hn:n<top) (t:T3 P) {p:EC.Pt P} (h:FracT t p):Gives 55 #[nv n,tv t] (tv (tmF n t 256)):=by
 intro w
 go_enter Tryz.func55,Tryz.ntmps55
 refine RG.var2 (v0:=nv n) (v1:=tv t) (n:=23) (by kernel_rfl) (by kernel_rfl) (by kernel_rfl) (by kernel_rfl) ?_
 intro a0 sl0 f0 f1
 have hS0:=RG.St.begin w
 have M0:RG.M w w.heap.size [] 23 [] [] [(0,(.v (nv n))),(1,(.v (tv t)))] a0 _:=⟨hS0,sl0,⟨f0,f1,trivial⟩⟩
 repeat refine wp_seq ?_
 refine M0.t [.m 2 [] 0,.m 3 [] 1,.m 4 [] 2] [(0,(wn n)),(1,(tw t)),(2,(RG.z 12))] [] [(wn n),(tw t),(RG.z 12)] [(2,(.p 0 0)),(3,(.p 1 0)),(4,(.p 2 0))] ⟨RG.mk 0 60,RG.mk 1 68,RG.mk 2 68,trivial⟩ ?_
 intro j1 i1 m1 a1 w1 M1
 repeat refine wp_seq ?_
 refine M1.t [.c 7 [] (tv ((0,1,0):T3 P)),.m 5 [] 3,.u [(5,1),(7,0)] 3] [(1,(RG.z 12))] [(3,2,(tw ((0,1,0):T3 P)))] [(wn n),(tw t),(RG.z 12),(tw ((0,1,0):T3 P))] [(2,(.p 0 0)),(3,(.p 1 0)),(4,(.p 2 0)),(5,(.p 3 0))] ⟨RG.cl (None_c C),RG.mk 3 68,RG.pt i56,trivial⟩ ?_
 intro j2 a2 w2 M2
 repeat refine wp_seq ?_
 refine M2.u [.x 6 [] (.int .i64 255)] [(2,(.p 0 0)),(3,(.p 1 0)),(4,(.p 2 0)),(5,(.p 3 0)),(6,(.v (.int .i64 255)))] ⟨RG.st,trivial⟩ ?_
 intro a3 w3 M3
 have f2_3:a3.tmps[2]? = some (.pointer (some ⟨j1,0,none⟩)):=M3.at (s:=(.p 0 0))
 have f3_3:a3.tmps[3]? = some (.pointer (some ⟨i1,0,none⟩)):=M3.at (s:=(.p 1 0))
 have f4_3:a3.tmps[4]? = some (.pointer (some ⟨m1,0,none⟩)):=M3.at (s:=(.p 2 0))
 have f5_3:a3.tmps[5]? = some (.pointer (some ⟨j2,0,none⟩)):=M3.at (s:=(.p 3 0))
 have f6_3:a3.tmps[6]? = some (.int .i64 255):=M3.at (s:=(.v (.int .i64 255)))
 repeat refine wp_seq ?_
 refine wp_block ?_
 refine wp_loop_ghost (fun m a wr=>m≤256∧RG.Sl a 23∧a.tmps[2]? = some (.pointer (some ⟨j1,0,none⟩))∧a.tmps[3]? = some (.pointer (some ⟨i1,0,none⟩))∧a.tmps[4]? = some (.pointer (some ⟨m1,0,none⟩))∧a.tmps[5]? = some (.pointer (some ⟨j2,0,none⟩))∧a.tmps[6]? = some (.int .i64 ((m:Int)-1))∧RG.St w w.heap.size [] [wn n,tw t,[.int .u64 0,.int .u64 0,.int .u64 0,.int .u64 0,.int .u64 0,.int .u64 0,.int .u64 0,.int .u64 0,.int .u64 0,.int .u64 0,.int .u64 0,.int .u64 0],tw (tmF n t (256-m))] [j1,i1,m1,j2] wr) 256 ⟨Nat.le_refl _,M3.sl,f2_3,f3_3,f4_3,f5_3,f6_3,?_⟩ ?_
 ·rw[Nat.sub_self,tmF]
  exact M3.st
 intro m a wr
 rintro ⟨hm,sl,f2,f3,f4,f5,f6,hS⟩
 have hn2:n<2^256:=hn
 generalize j1=k2 at f2 f3 f4 f5 hS
 generalize i1=k3 at f2 f3 f4 f5 hS
 generalize m1=k4 at f2 f3 f4 f5 hS
 generalize j2=k5 at f2 f3 f4 f5 hS
 by_cases hz:m=0
 ·subst hz
  have e256:tmF n t (256-0)=tmF n t 256:=rfl
  rw[e256] at hS
  obtain ⟨s,hs⟩:∃ s,tmF n t 256=s:=⟨_,rfl⟩
  rw[hs] at hS ⊢
  have M0:RG.M w w.heap.size [] 23 [(wn n),(tw t),(RG.z 12),(tw s)] [k2,k3,k4,k5] [(2,(.p 0 0)),(3,(.p 1 0)),(4,(.p 2 0)),(5,(.p 3 0)),(6,(.v (.int .i64 (-1))))] a _:=⟨hS,sl,⟨f2,f3,f4,f5,f6,trivial⟩⟩
  repeat refine wp_seq ?_
  refine M0.u [.x 8 [] (.int .i64 (-1)),.x 9 [(8,0)] (.bool false)] [(4,(.p 2 0)),(5,(.p 3 0)),(9,(.v (.bool false)))] ⟨RG.st,RG.st,trivial⟩ ?_
  intro a1 w1 M1
  repeat refine wp_seq ?_
  refine wp_cond_false M1.ev ?_
  refine wp_exit ?_
  dsimp only[Exit.then,Exit.inBlock]
  rw[if_pos rfl]
  repeat refine wp_seq ?_
  refine M1.t [.x 22 [] (tv s),.u [(22,0)] 2] [] [(2,1,(tw s))] [(wn n),(tw t),(tw s),(tw s)] [(4,(.p 2 0))] ⟨RG.ld u56 i56,RG.pt i56,trivial⟩ ?_
  intro a2 w2 M2
  refine wp_ret ?_
  refine bodyPost_ret (v:=tv s) (RG.results_row M2.st 4 68 rfl 2 _ rfl (M2.at (s:=(.p 2 0))) u56 i56) M2.sl.defers ?_
  exact ⟨_,rfl,M2.st.bel.below,rfl⟩
 ·obtain ⟨i,rfl⟩:∃ i,m=i+1:=⟨m-1,by omega⟩
  have hi:i<256:=by omega
  replace f6:a.tmps[6]? = some (.int .i64 i):=by rw[f6];congr 2;omega
  have ih:=tmF_F C hn2 h (256-(i+1)) (by omega)
  obtain ⟨s,hs⟩:∃ s,tmF n t (256-(i+1))=s:=⟨_,rfl⟩
  rw[hs] at hS ih
  obtain ⟨s2,hs2⟩:∃ s2,s2=plF s s:=⟨_,rfl⟩
  have hp1:=(ih.plus C ih).1
  have ih2:=(ih.plus C ih).2
  rw[← hs2] at hp1 ih2
  obtain ⟨s3,hs3⟩:∃ s3,s3=plF s2 t:=⟨_,rfl⟩
  have hp2:=(ih2.plus C h).1
  rw[← hs3] at hp2
  have hstep:tmF n t (256-i)=if n/2^i%2=1 then s3 else s2:=by
   rw[show 256-i=256-(i+1)+1 by omega]
   show (if n/2^(255-(256-(i+1)))%2=1 then plF (plF (tmF n t (256-(i+1))) (tmF n t (256-(i+1)))) t else plF (tmF n t (256-(i+1))) (tmF n t (256-(i+1))))=_
   rw[show 255-(256-(i+1))=i by omega,hs,← hs2,← hs3]
  by_cases hb:n/2^i%2=1
  ·rw[if_pos hb] at hstep
   have M0:RG.M w w.heap.size [] 23 [(wn n),(tw t),(RG.z 12),(tw s)] [k2,k3,k4,k5] [(2,(.p 0 0)),(3,(.p 1 0)),(4,(.p 2 0)),(5,(.p 3 0)),(6,(.v (.int .i64 i)))] a _:=⟨hS,sl,⟨f2,f3,f4,f5,f6,trivial⟩⟩
   repeat refine wp_seq ?_
   refine M0.u [.x 8 [] (.int .i64 i),.x 9 [(8,0)] (.bool true)] [(2,(.p 0 0)),(3,(.p 1 0)),(4,(.p 2 0)),(5,(.p 3 0)),(6,(.v (.int .i64 i))),(9,(.v (.bool true)))] ⟨RG.st,RG.cert_binc rfl .geq 3 3 8 (.int .i64 i) (.int .i64 0) (.bool true) rfl rfl RG.sx (fun w=>by kernel_rfl) (geq0 i),trivial⟩ ?_
   intro a1 w1 M1
   repeat refine wp_seq ?_
   refine wp_cond_true M1.ev ?_
   refine wp_skip ?_
   refine wp_seq ?_
   refine wp_block ?_
   repeat refine wp_seq ?_
   refine M1.t [.x 12 [] (tv s),.x 13 [] (tv s),.c 14 [(12,0),(13,1)] (tv s2),.u [(14,2)] 3] [] [(3,3,(tw s2))] [(wn n),(tw t),(RG.z 12),(tw s2)] [(2,(.p 0 0)),(3,(.p 1 0)),(4,(.p 2 0)),(5,(.p 3 0)),(6,(.v (.int .i64 i)))] ⟨RG.ld u56 i56,RG.ld u56 i56,RG.cl (hp1),RG.pt i56,trivial⟩ ?_
   intro a2 w2 M2
   repeat refine wp_seq ?_
   refine M2.u [.x 15 [] (nv n),.x 16 [] (.int .i64 i),.c 17 [(15,0),(16,1)] (.int .u64 1),.x 18 [(17,2)] (.bool true)] [(2,(.p 0 0)),(3,(.p 1 0)),(4,(.p 2 0)),(5,(.p 3 0)),(6,(.v (.int .i64 i))),(18,(.v (.bool true)))] ⟨RG.ld u33 i33,RG.st,RG.cl (rBit_1 hn hi hb),RG.st,trivial⟩ ?_
   intro a3 w3 M3
   repeat refine wp_seq ?_
   refine wp_cond_true M3.ev ?_
   repeat refine wp_seq ?_
   refine M3.t [.x 19 [] (tv s2),.x 20 [] (tv t),.c 21 [(19,0),(20,1)] (tv s3),.u [(21,2)] 3] [] [(3,3,(tw s3))] [(wn n),(tw t),(RG.z 12),(tw s3)] [(2,(.p 0 0)),(3,(.p 1 0)),(4,(.p 2 0)),(5,(.p 3 0)),(6,(.v (.int .i64 i)))] ⟨RG.ld u56 i56,RG.ld u56 i56,RG.cl (hp2),RG.pt i56,trivial⟩ ?_
   intro a4 w4 M4
   repeat refine wp_seq ?_
   refine M4.u [.x 10 [] (.int .i64 i),.x 11 [(10,0)] (.int .i64 ((i:Int)-1)),.x 6 [(11,1)] (.int .i64 ((i:Int)-1))] [(2,(.p 0 0)),(3,(.p 1 0)),(4,(.p 2 0)),(5,(.p 3 0)),(6,(.v (.int .i64 ((i:Int)-1))))] ⟨RG.st,RG.cert_binc rfl .sub 3 3 10 (.int .i64 i) (.int .i64 1) (.int .i64 ((i:Int)-1)) rfl rfl RG.sx (fun w=>by kernel_rfl) (sub1 i (by omega)),RG.st,trivial⟩ ?_
   intro a5 w5 M5
   have f2_5:a5.tmps[2]? = some (.pointer (some ⟨k2,0,none⟩)):=M5.at (s:=(.p 0 0))
   have f3_5:a5.tmps[3]? = some (.pointer (some ⟨k3,0,none⟩)):=M5.at (s:=(.p 1 0))
   have f4_5:a5.tmps[4]? = some (.pointer (some ⟨k4,0,none⟩)):=M5.at (s:=(.p 2 0))
   have f5_5:a5.tmps[5]? = some (.pointer (some ⟨k5,0,none⟩)):=M5.at (s:=(.p 3 0))
   have f6_5:a5.tmps[6]? = some (.int .i64 ((i:Int)-1)):=M5.at (s:=(.v (.int .i64 ((i:Int)-1))))
   show ∃ n',_
   exact ⟨i,Nat.lt_succ_self i,by omega,M5.sl,f2_5,f3_5,f4_5,f5_5,f6_5,by rw[hstep];exact M5.st⟩
  ·rw[if_neg hb] at hstep
   have M0:RG.M w w.heap.size [] 23 [(wn n),(tw t),(RG.z 12),(tw s)] [k2,k3,k4,k5] [(2,(.p 0 0)),(3,(.p 1 0)),(4,(.p 2 0)),(5,(.p 3 0)),(6,(.v (.int .i64 i)))] a _:=⟨hS,sl,⟨f2,f3,f4,f5,f6,trivial⟩⟩
   repeat refine wp_seq ?_
   refine M0.u [.x 8 [] (.int .i64 i),.x 9 [(8,0)] (.bool true)] [(2,(.p 0 0)),(3,(.p 1 0)),(4,(.p 2 0)),(5,(.p 3 0)),(6,(.v (.int .i64 i))),(9,(.v (.bool true)))] ⟨RG.st,RG.cert_binc rfl .geq 3 3 8 (.int .i64 i) (.int .i64 0) (.bool true) rfl rfl RG.sx (fun w=>by kernel_rfl) (geq0 i),trivial⟩ ?_
   intro a1 w1 M1
   repeat refine wp_seq ?_
   refine wp_cond_true M1.ev ?_
   refine wp_skip ?_
   refine wp_seq ?_
   refine wp_block ?_
   repeat refine wp_seq ?_
   refine M1.t [.x 12 [] (tv s),.x 13 [] (tv s),.c 14 [(12,0),(13,1)] (tv s2),.u [(14,2)] 3] [] [(3,3,(tw s2))] [(wn n),(tw t),(RG.z 12),(tw s2)] [(2,(.p 0 0)),(3,(.p 1 0)),(4,(.p 2 0)),(5,(.p 3 0)),(6,(.v (.int .i64 i)))] ⟨RG.ld u56 i56,RG.ld u56 i56,RG.cl (hp1),RG.pt i56,trivial⟩ ?_
   intro a2 w2 M2
   repeat refine wp_seq ?_
   refine M2.u [.x 15 [] (nv n),.x 16 [] (.int .i64 i),.c 17 [(15,0),(16,1)] (.int .u64 0),.x 18 [(17,2)] (.bool false)] [(2,(.p 0 0)),(3,(.p 1 0)),(4,(.p 2 0)),(5,(.p 3 0)),(6,(.v (.int .i64 i))),(18,(.v (.bool false)))] ⟨RG.ld u33 i33,RG.st,RG.cl (rBit_0 hn hi hb),RG.st,trivial⟩ ?_
   intro a3 w3 M3
   repeat refine wp_seq ?_
   refine wp_cond_false M3.ev ?_
   refine wp_skip ?_
   repeat refine wp_seq ?_
   refine M3.u [.x 10 [] (.int .i64 i),.x 11 [(10,0)] (.int .i64 ((i:Int)-1)),.x 6 [(11,1)] (.int .i64 ((i:Int)-1))] [(2,(.p 0 0)),(3,(.p 1 0)),(4,(.p 2 0)),(5,(.p 3 0)),(6,(.v (.int .i64 ((i:Int)-1))))] ⟨RG.st,RG.cert_binc rfl .sub 3 3 10 (.int .i64 i) (.int .i64 1) (.int .i64 ((i:Int)-1)) rfl rfl RG.sx (fun w=>by kernel_rfl) (sub1 i (by omega)),RG.st,trivial⟩ ?_
   intro a4 w4 M4
   have f2_4:a4.tmps[2]? = some (.pointer (some ⟨k2,0,none⟩)):=M4.at (s:=(.p 0 0))
   have f3_4:a4.tmps[3]? = some (.pointer (some ⟨k3,0,none⟩)):=M4.at (s:=(.p 1 0))
   have f4_4:a4.tmps[4]? = some (.pointer (some ⟨k4,0,none⟩)):=M4.at (s:=(.p 2 0))
   have f5_4:a4.tmps[5]? = some (.pointer (some ⟨k5,0,none⟩)):=M4.at (s:=(.p 3 0))
   have f6_4:a4.tmps[6]? = some (.int .i64 ((i:Int)-1)):=M4.at (s:=(.v (.int .i64 ((i:Int)-1))))
   show ∃ n',_
   exact ⟨i,Nat.lt_succ_self i,by omega,M4.sl,f2_4,f3_4,f4_4,f5_4,f6_4,by rw[hstep];exact M4.st⟩
end
section
open Go.RowKit Go.Sort Go.Deep
variable {P:Nat} [NeZero P] {N:Nat}
def FB_1 (n:Nat):List RG.It:=[.x 3 [] (nv n),.c 4 [] (tv (gT P)),.c 5 [(3,0),(4,1)] (tv (tmF n (gT P) 256)),.u [(5,2)] 1]
theorem qBase_c (C:Fl3 P) (n:Nat) (hn:n<top):Gives 43 #[nv n] (tv (tmF n (gT P) 256)):=by
 intro w
 go_enter Tryz.func43,Tryz.ntmps43
 refine RG.M.enter [(0,.v (nv n))] 6 (by kernel_rfl) ?_
 intro a0 M0
 repeat refine wp_seq ?_
 refine M0.t [.m 1 [] 0,.m 2 [] 1] [(0,(wn n)),(1,(RG.z 12))] [] [(wn n),(RG.z 12)] [(1,(.p 0 0)),(2,(.p 1 0))] ⟨RG.mk 0 60,RG.mk 1 68,trivial⟩ ?_
 intro j1 i1 a1 w1 M1
 repeat refine wp_seq ?_
 refine M1.d (FB_1 (P:=P) n) [] [(1,3,(tw (tmF n (gT P) 256)))] [(wn n),(tw (tmF n (gT P) 256))] [(2,(.p 1 0))] ⟨RG.ld u33 i33,RG.cl (rG_c C),RG.cl (rTimes_c C n hn (gT P) (gT_frac C.toFld)),RG.pt i56,trivial⟩ ?_
 intro a2 w2 M2
 refine wp_ret ?_
 refine bodyPost_ret (v:=tv (tmF n (gT P) 256)) (RG.results_row M2.st 2 68 rfl 1 _ rfl (M2.at (s:=.p 1 0)) u56 i56) M2.sl.defers ?_
 exact ⟨_,rfl,M2.st.bel.below,rfl⟩
theorem rBytes_c (C:Fld P) (x:Fin P):Gives 48 #[fv x] (.string ⟨bx x.val⟩):=fun w =>
 (rBytes_any _ _ w (C.four x)).mono (by
  rintro e w' ⟨v,rfl,hb,a,b,c,d,he,rfl⟩
  refine ⟨_,rfl,hb,?_⟩
  have h2:fv x=.agg #[.int .u64 ((x.val%18446744073709551616:Nat):Int),.int .u64 ((x.val/18446744073709551616%18446744073709551616:Nat):Int),.int .u64 ((x.val/340282366920938463463374607431768211456%18446744073709551616:Nat):Int),.int .u64 ((x.val/6277101735386680763835789423207666416102355444464034512896%18446744073709551616:Nat):Int)]:=rfl
  rw[h2] at he
  simp only[Value.agg.injEq,Array.mk.injEq,List.cons.injEq,Value.int.injEq,true_and,and_true,Int.ofNat_inj] at he
  obtain ⟨rfl,rfl,rfl,rfl⟩:=he
  rfl)
theorem u31:(Tryz.prog.underlying 45).map (·.isRow)=some false:=by kernel_rfl
theorem and1 (n r:Nat) (hr:n%2=r) (w:World):(binOp .and 45 (.int .u64 ((n%18446744073709551616:Nat):Int)) (.int .u64 1)).run Tryz.prog w=.ok (.int .u64 r) w:=by
 have h:=and_one (n%18446744073709551616) (Nat.mod_lt _ (by decide))
 rw[show n%18446744073709551616%2=r by omega] at h
 generalize n%18446744073709551616=k at h ⊢
 go_simp
theorem cat (m:UInt8) (n:Nat) (w:World):(binOp .add 9 (.string ⟨#[m]⟩) (.string ⟨bx n⟩)).run Tryz.prog w=.ok (.string ⟨#[m]++bx n⟩) w:=by
 have h:=bx_size n
 generalize bx n=b at h ⊢
 have h2:(⟨#[m]⟩:ByteArray)++⟨b⟩=⟨#[m]++b⟩:=by
  have h3:((⟨#[m]⟩:ByteArray)++⟨b⟩).data=#[m]++b:=ByteArray.data_append
  rw[← h3]
 go_simp
theorem bs1 (m:Int) (w:World):(Instr.buildSlice 22 1 #[(0,.int .u8 m)]).run Tryz.prog w=.ok (.slice (some ⟨w.heap.size,0,none⟩) 1 1) (w.alloc (.cells #[.int .u8 m] 5)):=by
 obtain ⟨ie,hie,he⟩:=Option.map_eq_some_iff.1 info5b
 simp only[Prod.mk.injEq] at he
 obtain ⟨h1,h2,-⟩:=he
 exact run_buildSlice w 22 5 1 _ #[.int .u8 m] ie (.int .u8 0) und23 hie h1 (by rw[h2];omega) (by rw[h2];omega) (by rw[h2];kernel_rfl)
theorem str1 (m:UInt8) (w:World) (k:Nat) (h:w.rangeAt k 0 [.int .u8 (ub m)]):(convert 22 9 (.slice (some ⟨k,0,none⟩) 1 1)).run Tryz.prog w=.ok (.string ⟨#[m]⟩) w:=by
 have h2:=run_convert_bytes_back (P:=Tryz.prog) w 22 9 5 ⟨k,0,none⟩ 1 [m] slice22 int5 str9 (fun j hj=>by
  obtain rfl:j=0:=by simpa using hj
  have h3:=h 0 _ rfl
  have e1:(⟨k,0,none⟩:Addr).add 0=⟨k,0,none⟩:=rfl
  rw[e1,h3]
  simp[ub])
 simpa using h2
omit [NeZero P] in
theorem words3 (x y z:Fin P):∃ a1 b1 c1 d1 a2 b2 c2 d2 a3 b3 c3 d3:Nat,rv x y z=.agg #[.int .u64 a1,.int .u64 b1,.int .u64 c1,.int .u64 d1,.int .u64 a2,.int .u64 b2,.int .u64 c2,.int .u64 d2,.int .u64 a3,.int .u64 b3,.int .u64 c3,.int .u64 d3]:=
 ⟨_,_,_,_,_,_,_,_,_,_,_,_,rfl⟩
theorem rWr_z (C:Fl3 P) (x y z:Fin P) (hz:z=0):Gives 44 #[rv x y z] (.string ⟨zs33⟩):=by
 intro w
 have hI:=Is_t_c C x y z hz
 obtain ⟨a1,b1,c1,d1,a2,b2,c2,d2,a3,b3,c3,d3,e⟩:=words3 x y z
 rw[e] at hI ⊢
 have hmk:=mk33
 go_enter Tryz.func44,Tryz.ntmps44
 go_wp2_with fail
 refine (hI _).mono ?_
 rintro e w1 ⟨v,rfl,hb1,rfl⟩
 have HB:Hid (Below w.heap.size w w1):=(below1 w _).trans (hb1.mono (by simp))
 have hcv:(convert 22 9 (.slice (some ⟨w1.heap.size,0,none⟩) 33 33)).run Tryz.prog (w1.alloc (.cells (madeCells #[.int .u8 0] 33) 5))=.ok (.string ⟨zs33⟩) (w1.alloc (.cells (madeCells #[.int .u8 0] 33) 5)):=
  conv_str Tryz.prog 22 9 5 slice22 int5 str9 _ _ 0 33 33 _ (Holds.made (enc:=encB) w1 5 33 (0:UInt8)) (by decide)
 clear hb1 hI
 go_wp2
 go_ret
 exact ⟨_,rfl,HB.out.trans ((below1 w1 _).mono HB.out.size),rfl⟩
theorem rWr_0_c (C:Fl3 P) (x y z:Fin P)(hz:¬ z=0) (hpar:(y*EC.inv z).val%2=0) :Gives 44 #[(rv x y z)] (.string ⟨#[2]++bx (x*EC.inv z).val⟩):=by
 intro w
 obtain ⟨c1,hc1⟩:∃ c,c=EC.inv z:=⟨_,rfl⟩
 obtain ⟨c2,hc2⟩:∃ c,c=x*c1:=⟨_,rfl⟩
 obtain ⟨c3,hc3⟩:∃ c,c=y*c1:=⟨_,rfl⟩
 have hfin:((.string ⟨#[2]++bx c2.val⟩):Value)=(.string ⟨#[2]++bx (x*EC.inv z).val⟩):=by
  subst_vars;rfl
 rw[← hfin]
 go_enter Tryz.func44,Tryz.ntmps44
 refine RG.M.enter [(0,(.v (rv x y z)))] 36 (by kernel_rfl) ?_
 intro a0 M0
 repeat refine wp_seq ?_
 refine M0.t [.m 1 [] 0,.x 2 [] (.string ⟨#[]⟩)] [(0,(ws x++(ws y++(ws z))))] [] [(ws x++(ws y++(ws z)))] [(1,(.p 0 0)),(2,(.v (.string ⟨#[]⟩)))] ⟨RG.mk 0 68,RG.st,trivial⟩ ?_
 intro j1 a1 w1 M1
 repeat refine wp_seq ?_
 refine M1.u [.x 7 [] (rv x y z),.c 8 [(7,0)] (.bool false),.x 3 [(8,1)] (.bool false)] [(1,(.p 0 0)),(2,(.v (.string ⟨#[]⟩))),(3,(.v (.bool false)))] ⟨RG.ld u56 i56,RG.cl (Is_f_c C x y z hz),RG.st,trivial⟩ ?_
 intro a2 w2 M2
 repeat refine wp_seq ?_
 refine M2.u [.x 9 [] (.bool false)] [(1,(.p 0 0)),(2,(.v (.string ⟨#[]⟩))),(9,(.v (.bool false)))] ⟨RG.st,trivial⟩ ?_
 intro a3 w3 M3
 repeat refine wp_seq ?_
 refine wp_cond_false M3.ev ?_
 refine wp_skip ?_
 repeat refine wp_seq ?_
 refine M3.d [.c 12 [] rv0,.s 13 [] (.p 0 8),.x 14 [(13,1)] (fv z),.c 15 [(12,0),(14,2)] (fv c1),.m 4 [] 1,.u [(4,4),(15,3)] 1] [(4,(RG.z 4))] [(1,5,(ws c1))] [(ws x++(ws y++(ws z))),(ws c1)] [(1,(.p 0 0)),(2,(.v (.string ⟨#[]⟩))),(4,(.p 1 0))] ⟨RG.cl (F3_c),RG.st,RG.ld u33 i33,RG.cl ((rInv_c C z).e hc1),RG.mk 1 60,RG.pt i33,trivial⟩ ?_
 intro j4 a4 w4 M4
 repeat refine wp_seq ?_
 refine M4.d [.c 16 [] rv0,.s 17 [] (.p 0 0),.x 18 [(17,1)] (fv x),.x 19 [] (fv c1),.c 20 [(16,0),(18,2),(19,3)] (fv c2),.m 5 [] 2,.u [(5,5),(20,4)] 2] [(5,(RG.z 4))] [(2,6,(ws c2))] [(ws x++(ws y++(ws z))),(ws c1),(ws c2)] [(1,(.p 0 0)),(2,(.v (.string ⟨#[]⟩))),(4,(.p 1 0)),(5,(.p 2 0))] ⟨RG.cl (F3_c),RG.st,RG.ld u33 i33,RG.ld u33 i33,RG.cl ((rMul_c C x c1).e hc2),RG.mk 2 60,RG.pt i33,trivial⟩ ?_
 intro j5 a5 w5 M5
 repeat refine wp_seq ?_
 refine M5.d [.c 21 [] rv0,.s 22 [] (.p 0 4),.x 23 [(22,1)] (fv y),.x 24 [] (fv c1),.c 25 [(21,0),(23,2),(24,3)] (fv c3),.m 6 [] 3,.u [(6,5),(25,4)] 3] [(5,(RG.z 4))] [(3,6,(ws c3))] [(ws x++(ws y++(ws z))),(ws c1),(ws c2),(ws c3)] [(2,(.v (.string ⟨#[]⟩))),(5,(.p 2 0)),(6,(.p 3 0))] ⟨RG.cl (F3_c),RG.st,RG.ld u33 i33,RG.ld u33 i33,RG.cl ((rMul_c C y c1).e hc3),RG.mk 3 60,RG.pt i33,trivial⟩ ?_
 intro j6 a6 w6 M6
 repeat refine wp_seq ?_
 refine M6.d [.s 26 [] (.p 3 0),.x 27 [(26,0)] (.int .u64 ((c3.val%18446744073709551616:Nat):Int)),.x 28 [(27,1)] (.int .u64 0),.x 29 [(28,2)] (.int .u8 0),.x 30 [(29,3)] (.int .u8 2),⟨some 31,[(30,4)],(.s 4 1 1),.make 4⟩,.x 32 [(31,5)] (.string ⟨#[2]⟩),.x 33 [] (fv c2),.c 34 [(33,7)] (.string ⟨bx c2.val⟩),.x 35 [(32,6),(34,8)] (.string ⟨#[2]++bx c2.val⟩),.x 2 [(35,9)] (.string ⟨#[2]++bx c2.val⟩)] [(5,[(.int .u8 2)])] [] [(ws x++(ws y++(ws z))),(ws c1),(ws c2),(ws c3),[(.int .u8 2)]] [(2,(.v (.string ⟨#[2]++bx c2.val⟩)))] ⟨RG.cert_idxc rfl 60 6 (.int .i64 0) rfl (.p 3 0) RG.sx (fun μ w=>by kernel_rfl),RG.cert_load1 rfl 3 0 _ rfl rfl (by kernel_rfl) 45 26 rfl (.int .u64 ((c3.val%18446744073709551616:Nat):Int)) rfl RG.sx rfl u31,RG.cert_binc rfl .and 45 45 27 (.int .u64 ((c3.val%18446744073709551616:Nat):Int)) (.int .u64 1) (.int .u64 0) rfl rfl RG.sx (fun w=>by kernel_rfl) (and1 c3.val 0 (by subst_vars;exact hpar)),RG.cert_conv rfl 45 5 28 (.int .u64 0) (.int .u8 0) rfl rfl RG.sx (fun w=>by kernel_rfl),RG.st,RG.cert_bs1 4 rfl _ rfl 22 5 30 (.int .u8 2) rfl rfl RG.sx (bs1 2),RG.cert_str rfl 4 5 _ rfl _ rfl rfl (by kernel_rfl) (by kernel_rfl) 22 9 31 1 (.string ⟨#[2]⟩) rfl rfl RG.sx (fun w k h=>str1 2 w k h),RG.ld u33 i33,RG.cl (rBytes_c C.toFld c2),RG.cert_bin rfl .add 9 9 32 34 (.string ⟨#[2]⟩) (.string ⟨bx c2.val⟩) (.string ⟨#[2]++bx c2.val⟩) rfl rfl RG.sx RG.sx (fun w=>by kernel_rfl) (cat 2 _),RG.st,trivial⟩ ?_
 intro j7 a7 w7 M7
 refine wp_ret ?_
 refine bodyPost_ret (v:=(.string ⟨#[2]++bx c2.val⟩)) (RG.results_t 2 rfl _ (M7.at (s:=(.v (.string ⟨#[2]++bx c2.val⟩))))) M7.sl.defers ?_
 exact ⟨_,rfl,M7.st.bel.below,rfl⟩
theorem rWr_1_c (C:Fl3 P) (x y z:Fin P)(hz:¬ z=0) (hpar:(y*EC.inv z).val%2=1) :Gives 44 #[(rv x y z)] (.string ⟨#[3]++bx (x*EC.inv z).val⟩):=by
 intro w
 obtain ⟨c1,hc1⟩:∃ c,c=EC.inv z:=⟨_,rfl⟩
 obtain ⟨c2,hc2⟩:∃ c,c=x*c1:=⟨_,rfl⟩
 obtain ⟨c3,hc3⟩:∃ c,c=y*c1:=⟨_,rfl⟩
 have hfin:((.string ⟨#[3]++bx c2.val⟩):Value)=(.string ⟨#[3]++bx (x*EC.inv z).val⟩):=by
  subst_vars;rfl
 rw[← hfin]
 go_enter Tryz.func44,Tryz.ntmps44
 refine RG.M.enter [(0,(.v (rv x y z)))] 36 (by kernel_rfl) ?_
 intro a0 M0
 repeat refine wp_seq ?_
 refine M0.t [.m 1 [] 0,.x 2 [] (.string ⟨#[]⟩)] [(0,(ws x++(ws y++(ws z))))] [] [(ws x++(ws y++(ws z)))] [(1,(.p 0 0)),(2,(.v (.string ⟨#[]⟩)))] ⟨RG.mk 0 68,RG.st,trivial⟩ ?_
 intro j1 a1 w1 M1
 repeat refine wp_seq ?_
 refine M1.u [.x 7 [] (rv x y z),.c 8 [(7,0)] (.bool false),.x 3 [(8,1)] (.bool false)] [(1,(.p 0 0)),(2,(.v (.string ⟨#[]⟩))),(3,(.v (.bool false)))] ⟨RG.ld u56 i56,RG.cl (Is_f_c C x y z hz),RG.st,trivial⟩ ?_
 intro a2 w2 M2
 repeat refine wp_seq ?_
 refine M2.u [.x 9 [] (.bool false)] [(1,(.p 0 0)),(2,(.v (.string ⟨#[]⟩))),(9,(.v (.bool false)))] ⟨RG.st,trivial⟩ ?_
 intro a3 w3 M3
 repeat refine wp_seq ?_
 refine wp_cond_false M3.ev ?_
 refine wp_skip ?_
 repeat refine wp_seq ?_
 refine M3.d [.c 12 [] rv0,.s 13 [] (.p 0 8),.x 14 [(13,1)] (fv z),.c 15 [(12,0),(14,2)] (fv c1),.m 4 [] 1,.u [(4,4),(15,3)] 1] [(4,(RG.z 4))] [(1,5,(ws c1))] [(ws x++(ws y++(ws z))),(ws c1)] [(1,(.p 0 0)),(2,(.v (.string ⟨#[]⟩))),(4,(.p 1 0))] ⟨RG.cl (F3_c),RG.st,RG.ld u33 i33,RG.cl ((rInv_c C z).e hc1),RG.mk 1 60,RG.pt i33,trivial⟩ ?_
 intro j4 a4 w4 M4
 repeat refine wp_seq ?_
 refine M4.d [.c 16 [] rv0,.s 17 [] (.p 0 0),.x 18 [(17,1)] (fv x),.x 19 [] (fv c1),.c 20 [(16,0),(18,2),(19,3)] (fv c2),.m 5 [] 2,.u [(5,5),(20,4)] 2] [(5,(RG.z 4))] [(2,6,(ws c2))] [(ws x++(ws y++(ws z))),(ws c1),(ws c2)] [(1,(.p 0 0)),(2,(.v (.string ⟨#[]⟩))),(4,(.p 1 0)),(5,(.p 2 0))] ⟨RG.cl (F3_c),RG.st,RG.ld u33 i33,RG.ld u33 i33,RG.cl ((rMul_c C x c1).e hc2),RG.mk 2 60,RG.pt i33,trivial⟩ ?_
 intro j5 a5 w5 M5
 repeat refine wp_seq ?_
 refine M5.d [.c 21 [] rv0,.s 22 [] (.p 0 4),.x 23 [(22,1)] (fv y),.x 24 [] (fv c1),.c 25 [(21,0),(23,2),(24,3)] (fv c3),.m 6 [] 3,.u [(6,5),(25,4)] 3] [(5,(RG.z 4))] [(3,6,(ws c3))] [(ws x++(ws y++(ws z))),(ws c1),(ws c2),(ws c3)] [(2,(.v (.string ⟨#[]⟩))),(5,(.p 2 0)),(6,(.p 3 0))] ⟨RG.cl (F3_c),RG.st,RG.ld u33 i33,RG.ld u33 i33,RG.cl ((rMul_c C y c1).e hc3),RG.mk 3 60,RG.pt i33,trivial⟩ ?_
 intro j6 a6 w6 M6
 repeat refine wp_seq ?_
 refine M6.d [.s 26 [] (.p 3 0),.x 27 [(26,0)] (.int .u64 ((c3.val%18446744073709551616:Nat):Int)),.x 28 [(27,1)] (.int .u64 1),.x 29 [(28,2)] (.int .u8 1),.x 30 [(29,3)] (.int .u8 3),⟨some 31,[(30,4)],(.s 4 1 1),.make 4⟩,.x 32 [(31,5)] (.string ⟨#[3]⟩),.x 33 [] (fv c2),.c 34 [(33,7)] (.string ⟨bx c2.val⟩),.x 35 [(32,6),(34,8)] (.string ⟨#[3]++bx c2.val⟩),.x 2 [(35,9)] (.string ⟨#[3]++bx c2.val⟩)] [(5,[(.int .u8 3)])] [] [(ws x++(ws y++(ws z))),(ws c1),(ws c2),(ws c3),[(.int .u8 3)]] [(2,(.v (.string ⟨#[3]++bx c2.val⟩)))] ⟨RG.cert_idxc rfl 60 6 (.int .i64 0) rfl (.p 3 0) RG.sx (fun μ w=>by kernel_rfl),RG.cert_load1 rfl 3 0 _ rfl rfl (by kernel_rfl) 45 26 rfl (.int .u64 ((c3.val%18446744073709551616:Nat):Int)) rfl RG.sx rfl u31,RG.cert_binc rfl .and 45 45 27 (.int .u64 ((c3.val%18446744073709551616:Nat):Int)) (.int .u64 1) (.int .u64 1) rfl rfl RG.sx (fun w=>by kernel_rfl) (and1 c3.val 1 (by subst_vars;exact hpar)),RG.cert_conv rfl 45 5 28 (.int .u64 1) (.int .u8 1) rfl rfl RG.sx (fun w=>by kernel_rfl),RG.st,RG.cert_bs1 4 rfl _ rfl 22 5 30 (.int .u8 3) rfl rfl RG.sx (bs1 3),RG.cert_str rfl 4 5 _ rfl _ rfl rfl (by kernel_rfl) (by kernel_rfl) 22 9 31 1 (.string ⟨#[3]⟩) rfl rfl RG.sx (fun w k h=>str1 3 w k h),RG.ld u33 i33,RG.cl (rBytes_c C.toFld c2),RG.cert_bin rfl .add 9 9 32 34 (.string ⟨#[3]⟩) (.string ⟨bx c2.val⟩) (.string ⟨#[3]++bx c2.val⟩) rfl rfl RG.sx RG.sx (fun w=>by kernel_rfl) (cat 3 _),RG.st,trivial⟩ ?_
 intro j7 a7 w7 M7
 refine wp_ret ?_
 refine bodyPost_ret (v:=(.string ⟨#[3]++bx c2.val⟩)) (RG.results_t 2 rfl _ (M7.at (s:=(.v (.string ⟨#[3]++bx c2.val⟩))))) M7.sl.defers ?_
 exact ⟨_,rfl,M7.st.bel.below,rfl⟩
end
section
open Go.RowKit Go.Sort
variable {P:Nat} [NeZero P] {N:Nat}
theorem rWritten_c (C:Fl3 P) {t:T3 P} {p:EC.Pt P} (h:FracT t p):Gives 44 #[tv t] (.string ⟨wr p⟩):=by
 obtain ⟨x,y,z⟩:=t
 match p,h with
 | none,h=>exact rWr_z C x y z h.1
 | some (a,b),h =>
  obtain ⟨⟨hz,hx,hy⟩,ho⟩:=h
  have hi:=EC.inv_mul C.toFld.cur.pr hz
  have e1:x*EC.inv z=a:=by
   have hx:x=a*z:=hx
   rw[hx]
   grobner
  have e2:y*EC.inv z=b:=by
   have hy:y=b*z:=hy
   rw[hy]
   grobner
  show Gives _ #[rv x y z] (.string ⟨#[mark b.val]++bx a.val⟩)
  rw[← e1,← e2]
  unfold mark
  by_cases hp:(y*EC.inv z).val%2=1
  ·rw[if_pos hp]
   exact rWr_1_c C x y z hz hp
  ·rw[if_neg hp]
   exact rWr_0_c C x y z hz (by omega)
end
section
open Go.RowKit Go.Sort Go.Deep
variable {P:Nat} [NeZero P] {N:Nat}
theorem beV_lt (l:List UInt8):beV l<256^l.length:=by
 induction l with
 | nil=>decide
 | cons x r ih =>
  have h:=beV_append [x] r
  rw[show [x]++r=x :: r from rfl] at h
  have hx:beV [x]=x.toNat:=by simp[beV]
  have hx2:=x.toNat_lt
  rw[h,hx,List.length_cons,Nat.pow_succ,Nat.mul_comm (256^r.length)]
  have:=Nat.mul_le_mul_right (256^r.length) (show x.toNat+1≤256 by omega)
  rw[Nat.add_mul,Nat.one_mul] at this
  omega
end
section
open Go.RowKit Go.Sort Go.Deep
variable {N:Nat}
theorem nuV_top (bs:Bs):nuV bs<top:=by
 unfold nuV
 split
 ·rename_i h
  have h1:=beV_lt bs.toList
  rw[Array.length_toList,h] at h1
  exact h1
 ·unfold top;omega
theorem qZero_c {m:Nat} (hm:m<top):Gives 96 #[nv m] (.bool (decide (m=0))):=fun w=>rZero_any _ m (four_nv hm) w
def sec (N:Nat) (bs:Bs):Bool:=(rq N bs).isSome && !decide (nuV bs=0)
theorem qSecret_c (O:Ord N) (s:ByteArray):Gives 40 #[.string s] (.tuple #[nv (nuV s.data),.bool (sec N s.data)]):=by
 intro w
 have hN:=rNum_v O.ref s
 have hZ:=qZero_c (nuV_top s.data)
 unfold sec
 generalize nuV s.data=n at hN hZ ⊢
 generalize (rq N s.data).isSome=ok at hN ⊢
 generalize decide (n=0)=z at hZ ⊢
 go_enter Tryz.func40,Tryz.ntmps40
 refine RG.M.enter [(0,.v (.string s))] 21 (by kernel_rfl) ?_
 intro a0 M0
 repeat refine wp_seq ?_
 refine M0.t [.m 2 [] 0,.x 3 [] (.bool false)] [(0,RG.z 4)] [] [RG.z 4] [(0,.v (.string s)),(2,.p 0 0),(3,.v (.bool false))] ⟨RG.mk 0 60,RG.st,trivial⟩ ?_
 intro j1 a1 w1 M1
 repeat refine wp_seq ?_
 refine M1.t [.c 8 [] rv1,.x 9 [] (.string s),.c 10 [(8,0),(9,1)] (.tuple #[nv n,.bool ok]),.x 7 [(10,2)] (.tuple #[nv n,.bool ok]),.x 11 [(7,3)] (nv n),.x 12 [(7,3)] (.bool ok),.m 4 [] 1,.u [(4,6),(11,4)] 1,.x 5 [(12,5)] (.bool ok)] [(6,RG.z 4)] [(1,7,wn n)] [RG.z 4,wn n] [(2,.p 0 0),(4,.p 1 0),(5,.v (.bool ok))] ⟨RG.cl Q3_c,RG.st,RG.cl hN,RG.st,RG.st,RG.st,RG.mk 1 60,RG.pt i33,RG.st,trivial⟩ ?_
 intro j2 a2 w2 M2
 repeat refine wp_seq ?_
 refine M2.u [.x 13 [] (nv n),.c 14 [(13,0)] (.bool z),.x 6 [(14,1)] (.bool z)] [(2,.p 0 0),(4,.p 1 0),(5,.v (.bool ok)),(6,.v (.bool z))] ⟨RG.ld u33 i33,RG.cl hZ,RG.st,trivial⟩ ?_
 intro a3 w3 M3
 repeat refine wp_seq ?_
 cases ok with
 | true =>
  refine M3.t [.x 15 [] (nv n),.x 16 [] (.bool true),.x 17 [(16,1)] (.bool true),.x 18 [] (.bool z),.x 19 [(18,3)] (.bool (!z)),.x 20 [(17,2),(19,4)] (.bool (!z)),.u [(15,0)] 0,.x 3 [(20,5)] (.bool (!z))] [] [(0,6,wn n)] [wn n,wn n] [(2,.p 0 0),(3,.v (.bool (!z)))] ⟨RG.ld u33 i33,RG.st,RG.st,RG.st,RG.st,RG.st,RG.pt i33,RG.st,trivial⟩ ?_
  intro a4 w4 M4
  refine wp_ret ?_
  refine bodyPost_ret (v:=.tuple #[nv n,.bool (!z)]) (RG.results_rt M4.st 2 3 60 rfl 0 _ rfl (M4.at (s:=.p 0 0)) (.bool (!z)) M4.av u33 i33) M4.sl.defers ?_
  exact ⟨_,rfl,M4.st.bel.below,rfl⟩
 | false =>
  refine M3.t [.x 15 [] (nv n),.x 16 [] (.bool false),.x 17 [(16,1)] (.bool false),⟨some 18,[],(.v undef),.pass⟩,⟨some 19,[],(.v undef),.pass⟩,.x 20 [(17,2),(19,4)] (.bool false),.u [(15,0)] 0,.x 3 [(20,5)] (.bool false)] [] [(0,6,wn n)] [wn n,wn n] [(2,.p 0 0),(3,.v (.bool false))] ⟨RG.ld u33 i33,RG.st,RG.st,RG.cert_pass rfl rfl,RG.cert_pass rfl rfl,RG.st,RG.pt i33,RG.st,trivial⟩ ?_
  intro a4 w4 M4
  refine wp_ret ?_
  refine bodyPost_ret (v:=.tuple #[nv n,.bool false]) (RG.results_rt M4.st 2 3 60 rfl 0 _ rfl (M4.at (s:=.p 0 0)) (.bool false) M4.av u33 i33) M4.sl.defers ?_
  exact ⟨_,rfl,M4.st.bel.below,rfl⟩
theorem cat2 (A B:Bs) (ha:A.size≤1000000) (hb:B.size≤1000000) (w:World):(binOp .add 9 (.string ⟨A⟩) (.string ⟨B⟩)).run Tryz.prog w=.ok (.string ⟨A++B⟩) w:=by
 have h2:(⟨A⟩:ByteArray)++⟨B⟩=⟨A++B⟩:=by
  have h3:((⟨A⟩:ByteArray)++⟨B⟩).data=A++B:=ByteArray.data_append
  rw[← h3]
 have h4:Array.size A+Array.size B≤9223372036854775807:=by omega
 go_simp
variable {P:Nat} [NeZero P]
def FQs_0:List RG.It:=[.x 4 [] (.string ⟨#[]⟩),.x 5 [] (.int .i64 0)]
def FQs_1 (sk:ByteArray) (x:Nat) (ok:Bool):List RG.It:=[.x 14 [] (.string sk),.c 15 [(14,0)] (.tuple #[nv x,.bool ok]),.x 13 [(15,1)] (.tuple #[nv x,.bool ok]),.x 16 [(13,2)] (nv x),.x 17 [(13,2)] (.bool ok),.m 6 [] 0,.u [(6,5),(16,3)] 0,.x 7 [(17,4)] (.bool ok)]
def FQs_2 (ok:Bool):List RG.It:=[.x 18 [] (.bool ok),.x 19 [(18,0)] (.bool (!ok))]
noncomputable def sgn (P:Nat) [NeZero P] (N:Nat) (sk tx:ByteArray):Bs:=
 wr (EC.mul (chL N [110,111,110,99,101,32,115,105,103,110] [sk.data.toList,tx.data.toList]) (gG P)) ++
  bx (sPl N (chL N [110,111,110,99,101,32,115,105,103,110] [sk.data.toList,tx.data.toList])
   (sTi N (asg N (wr (EC.mul (nuV sk.data) (gG P))).toList (wr (EC.mul (chL N [110,111,110,99,101,32,115,105,103,110] [sk.data.toList,tx.data.toList]) (gG P))).toList tx.data.toList) (nuV sk.data)))
theorem tm_frac (C:Fl3 P) {n:Nat} (hn:n<top):FracT (tmF n (gT P) 256) (EC.mul n (gG P)):=by
 have h:=tmF_F C (n:=n) (by unfold top at hn;omega) (gT_frac C.toFld) 256 (Nat.le_refl _)
 rwa[Nat.sub_self,Nat.pow_zero,Nat.div_one] at h
theorem qSign_y (C:Fl3 P) (O:Ord N) (sk tx:ByteArray) (hsk:sk.size≤4096) (htx:tx.size≤4096) (hok:sec N sk.data=true) (hx:nuV sk.data<N):Gives 12 #[.string sk,.string tx] (.tuple #[.string ⟨sgn P N sk tx⟩,.int .i64 0]):=by
 intro w
 have hSec:=qSecret_c O sk
 rw[hok] at hSec
 have hCh:∀ (g:Nat) (w':World),w'.rangeAt g 0 [.string sk,.string tx]∧g<w'.heap.size→Calls Tryz.prog 42 #[.string ⟨#[110,111,110,99,101,32,115,105,103,110]⟩,.slice (some ⟨g,0,none⟩) 2 2] w' (Ret fun e w''=>Below w'.heap.size w' w''∧e=nv (chL N [110,111,110,99,101,32,115,105,103,110] [sk.data.toList,tx.data.toList])):=fun g w' h=>by
  refine qChance_c O ⟨#[110,111,110,99,101,32,115,105,103,110]⟩ (some ⟨g,0,none⟩) 2 [sk,tx] w' (by decide) (Nat.le_of_ble_eq_true rfl) (Or.inr ⟨g,0,rfl,fun j hj=>?_⟩) (fun j hj=>?_) ?_
  ·have hj2:j=0∨j=1:=by simp at hj;omega
   rcases hj2 with rfl|rfl
   ·exact h.1 0 _ rfl
   ·exact h.1 1 _ rfl
  ·have hj2:j=0∨j=1:=by simp at hj;omega
   rcases hj2 with rfl|rfl
   ·show sk.size≤_;omega
   ·show tx.size≤_;omega
  ·have h2:=SP.frames_small [110,111,110,99,101,32,115,105,103,110] ([sk,tx].map fun s=>s.data.toList) 4096 (by decide) (fun p hp=>by
    simp only[List.map_cons,List.map_nil,List.mem_cons,List.not_mem_nil,or_false] at hp
    rcases hp with rfl|rfl
    ·rw[Array.length_toList];exact hsk
    ·rw[Array.length_toList];exact htx)
   refine Nat.le_trans h2 ?_
   show (2+1)*(4096+4)≤1048576
   decide
 unfold sgn
 have hk:=redu_lt O (SP.strmL (SP.tagL [110,111,110,99,101,32,115,105,103,110] [sk.data.toList,tx.data.toList]).toList 64)
 replace hk:chL N [110,111,110,99,101,32,115,105,103,110] [sk.data.toList,tx.data.toList]<N:=hk
 generalize chL N [110,111,110,99,101,32,115,105,103,110] [sk.data.toList,tx.data.toList]=k at hCh hk ⊢
 generalize nuV sk.data=x at hSec hx ⊢
 have hkt:=Nat.lt_of_lt_of_le hk O.le
 have hxt:=Nat.lt_of_lt_of_le hx O.le
 have hB1:=qBase_c C k hkt
 have hB0:=qBase_c C x hxt
 have hW1:=rWritten_c C (tm_frac C hkt)
 have hW0:=rWritten_c C (tm_frac C hxt)
 have z1:(wr (EC.mul k (gG P))).size=33:=wr_size _
 have z0:(wr (EC.mul x (gG P))).size=33:=wr_size _
 generalize wr (EC.mul k (gG P))=T1 at hW1 z1 ⊢
 generalize wr (EC.mul x (gG P))=T0 at hW0 z0 ⊢
 generalize tmF k (gT P) 256=tk at hB1 hW1
 generalize tmF x (gT P) 256=t0 at hB0 hW0
 have hAs:Gives 45 #[.string ⟨T0⟩,.string ⟨T1⟩,.string tx] (nv (asg N T0.toList T1.toList tx.data.toList)):=qAsked_c O ⟨T0⟩ ⟨T1⟩ tx (by show T0.size≤_;omega) (by show T1.size≤_;omega) (by omega)
 have hc:=asg_lt O T0.toList T1.toList tx.data.toList
 generalize asg N T0.toList T1.toList tx.data.toList=c at hAs hc ⊢
 have hM:=qMul_c O hc hx
 have hcx:=O.ti c x
 generalize sTi N c x=cx at hM hcx ⊢
 have hA:=qAdd_c O hk hcx
 have hz:=O.pl k cx
 generalize sPl N k cx=z at hA hz ⊢
 have hBy:=qBytes_c O hz
 have hcat:=cat2 T1 (bx z) (by omega) (by rw[bx_size];decide)
 clear hk hx hkt hxt hc hcx hz z1 z0 hok
 go_enter Tryz.func12,Tryz.ntmps12
 refine RG.M.enter [(0,.v (.string sk)),(1,.v (.string tx))] 45 (by kernel_rfl) ?_
 intro a0 M0
 repeat refine wp_seq ?_
 refine M0.u FQs_0 [(0,.v (.string sk)),(1,.v (.string tx))] ⟨RG.st,RG.st,trivial⟩ ?_
 intro a1 w1 M1
 repeat refine wp_seq ?_
 refine M1.t (FQs_1 sk x true) [(5,RG.z 4)] [(0,6,wn x)] [wn x] [(0,.v (.string sk)),(1,.v (.string tx)),(6,.p 0 0),(7,.v (.bool true))] ⟨RG.st,RG.cl hSec,RG.st,RG.st,RG.st,RG.mk 0 60,RG.pt i33,RG.st,trivial⟩ ?_
 intro j2 a2 w2 M2
 repeat refine wp_seq ?_
 refine M2.u (FQs_2 true) [(0,.v (.string sk)),(1,.v (.string tx)),(6,.p 0 0),(19,.v (.bool false))] ⟨RG.st,RG.st,trivial⟩ ?_
 intro a3 w3 M3
 repeat refine wp_seq ?_
 refine wp_cond_false M3.ev ?_
 refine wp_skip ?_
 repeat refine wp_seq ?_
 refine M3.t [.c 20 [] rv1,.m 8 [] 1,.u [(8,1),(20,0)] 1] [(1,RG.z 8)] [(1,2,rl1)] [wn x,rl1] [(0,.v (.string sk)),(1,.v (.string tx)),(6,.p 0 0),(8,.p 1 0)] ⟨RG.cl Q3_c,RG.mk 1 64,RG.pt i35,trivial⟩ ?_
 intro j4 a4 w4 M4
 repeat refine wp_seq ?_
 refine M4.t [.x 21 [] (.string sk),.x 22 [] (.string tx),⟨some 23,[(21,0),(22,1)],.s 2 2 2,.make 2⟩,.c 24 [(23,2)] (nv k),.m 9 [] 3,.u [(9,4),(24,3)] 3] [(2,[.string sk,.string tx]),(4,RG.z 4)] [(3,5,wn k)] [wn x,rl1,[.string sk,.string tx],wn k] [(1,.v (.string tx)),(6,.p 0 0),(8,.p 1 0),(9,.p 3 0)] ⟨RG.st,RG.st,RG.mk 2 9,RG.cr [2] (fun μ w' _ hs=>hCh (μ 2) w' (hs 2 (List.Mem.head _) _ rfl (List.cons_ne_nil _ _))) fun _ _=>by kernel_rfl,RG.mk 3 60,RG.pt i33,trivial⟩ ?_
 intro j5 i5 a5 w5 M5
 repeat refine wp_seq ?_
 refine M5.u [.x 25 [] (nv k),.c 26 [(25,0)] (tv tk),.c 27 [(26,1)] (.string ⟨T1⟩),.x 10 [(27,2)] (.string ⟨T1⟩)] [(1,.v (.string tx)),(6,.p 0 0),(8,.p 1 0),(9,.p 3 0),(10,.v (.string ⟨T1⟩))] ⟨RG.ld u33 i33,RG.cl hB1,RG.cl hW1,RG.st,trivial⟩ ?_
 intro a6 w6 M6
 repeat refine wp_seq ?_
 refine M6.t [.x 28 [] (nv x),.c 29 [(28,0)] (tv t0),.c 30 [(29,1)] (.string ⟨T0⟩),.x 31 [] (.string ⟨T1⟩),.x 32 [] (.string tx),.c 33 [(30,2),(31,3),(32,4)] (nv c),.m 11 [] 4,.u [(11,6),(33,5)] 4] [(6,RG.z 4)] [(4,7,wn c)] [wn x,rl1,[.string sk,.string tx],wn k,wn c] [(6,.p 0 0),(8,.p 1 0),(9,.p 3 0),(10,.v (.string ⟨T1⟩)),(11,.p 4 0)] ⟨RG.ld u33 i33,RG.cl hB0,RG.cl hW0,RG.st,RG.st,RG.cl hAs,RG.mk 4 60,RG.pt i33,trivial⟩ ?_
 intro j7 a7 w7 M7
 repeat refine wp_seq ?_
 refine M7.d [.x 34 [] rv1,.x 35 [] (nv k),.x 36 [] rv1,.x 37 [] (nv c),.x 38 [] (nv x),.c 39 [(36,2),(37,3),(38,4)] (nv cx),.c 40 [(34,0),(35,1),(39,5)] (nv z),.m 12 [] 5,.u [(12,7),(40,6)] 5] [(7,RG.z 4)] [(5,8,wn z)] [wn x,rl1,[.string sk,.string tx],wn k,wn c,wn z] [(10,.v (.string ⟨T1⟩)),(12,.p 5 0)] ⟨RG.ld u35 i35,RG.ld u33 i33,RG.ld u35 i35,RG.ld u33 i33,RG.ld u33 i33,RG.cl hM,RG.cl hA,RG.mk 5 60,RG.pt i33,trivial⟩ ?_
 intro j8 a8 w8 M8
 repeat refine wp_seq ?_
 refine M8.u [.x 41 [] (.string ⟨T1⟩),.x 42 [] (nv z),.c 43 [(42,1)] (.string ⟨bx z⟩),.x 44 [(41,0),(43,2)] (.string ⟨T1++bx z⟩),.x 4 [(44,3)] (.string ⟨T1++bx z⟩),.x 5 [] (.int .i64 0)] [(4,.v (.string ⟨T1++bx z⟩)),(5,.v (.int .i64 0))] ⟨RG.st,RG.ld u33 i33,RG.cl hBy,RG.cert_bin rfl .add 9 9 41 43 (.string ⟨T1⟩) (.string ⟨bx z⟩) (.string ⟨T1++bx z⟩) rfl rfl RG.sx RG.sx (fun w=>by kernel_rfl) hcat,RG.st,RG.st,trivial⟩ ?_
 intro a9 w9 M9
 refine wp_ret ?_
 refine bodyPost_ret (v:=.tuple #[.string ⟨T1++bx z⟩,.int .i64 0]) (RG.results_tt 4 5 rfl _ _ M9.av M9.av) M9.sl.defers ?_
 exact ⟨_,rfl,M9.st.bel.below,rfl⟩
theorem qSign_n (O:Ord N) (sk tx:ByteArray) (hok:sec N sk.data=false):Gives 12 #[.string sk,.string tx] (.tuple #[.string ⟨#[]⟩,.int .i64 3]):=by
 intro w
 have hSec:=qSecret_c O sk
 rw[hok] at hSec
 generalize nuV sk.data=x at hSec
 go_enter Tryz.func12,Tryz.ntmps12
 refine RG.M.enter [(0,.v (.string sk)),(1,.v (.string tx))] 45 (by kernel_rfl) ?_
 intro a0 M0
 repeat refine wp_seq ?_
 refine M0.u FQs_0 [(0,.v (.string sk)),(1,.v (.string tx))] ⟨RG.st,RG.st,trivial⟩ ?_
 intro a1 w1 M1
 repeat refine wp_seq ?_
 refine M1.t (FQs_1 sk x false) [(5,RG.z 4)] [(0,6,wn x)] [wn x] [(7,.v (.bool false))] ⟨RG.st,RG.cl hSec,RG.st,RG.st,RG.st,RG.mk 0 60,RG.pt i33,RG.st,trivial⟩ ?_
 intro j2 a2 w2 M2
 repeat refine wp_seq ?_
 refine M2.u (FQs_2 false) [(19,.v (.bool true))] ⟨RG.st,RG.st,trivial⟩ ?_
 intro a3 w3 M3
 repeat refine wp_seq ?_
 refine wp_cond_true M3.ev ?_
 repeat refine wp_seq ?_
 refine M3.u [.x 4 [] (.string ⟨#[]⟩),.x 5 [] (.int .i64 3)] [(4,.v (.string ⟨#[]⟩)),(5,.v (.int .i64 3))] ⟨RG.st,RG.st,trivial⟩ ?_
 intro a4 w4 M4
 refine wp_ret ?_
 refine bodyPost_ret (v:=.tuple #[.string ⟨#[]⟩,.int .i64 3]) (RG.results_tt 4 5 rfl _ _ M4.av M4.av) M4.sl.defers ?_
 exact ⟨_,rfl,M4.st.bel.below,rfl⟩
end
section
open Go.RowKit Go.Sort Go.Deep
variable {P:Nat} [NeZero P] {N:Nat}
theorem undCP:Tryz.prog.underlying 54=some (.array 33 5):=by kernel_rfl
theorem bl33_lit {b:Bs} (h:b.size=33):bl33 b=[.int .u8 (ub b[0]!),.int .u8 (ub b[1]!),.int .u8 (ub b[2]!),.int .u8 (ub b[3]!),.int .u8 (ub b[4]!),.int .u8 (ub b[5]!),.int .u8 (ub b[6]!),.int .u8 (ub b[7]!),.int .u8 (ub b[8]!),.int .u8 (ub b[9]!),.int .u8 (ub b[10]!),.int .u8 (ub b[11]!),.int .u8 (ub b[12]!),.int .u8 (ub b[13]!),.int .u8 (ub b[14]!),.int .u8 (ub b[15]!),.int .u8 (ub b[16]!),.int .u8 (ub b[17]!),.int .u8 (ub b[18]!),.int .u8 (ub b[19]!),.int .u8 (ub b[20]!),.int .u8 (ub b[21]!),.int .u8 (ub b[22]!),.int .u8 (ub b[23]!),.int .u8 (ub b[24]!),.int .u8 (ub b[25]!),.int .u8 (ub b[26]!),.int .u8 (ub b[27]!),.int .u8 (ub b[28]!),.int .u8 (ub b[29]!),.int .u8 (ub b[30]!),.int .u8 (ub b[31]!),.int .u8 (ub b[32]!)]:=by
 apply List.ext_getElem?
 intro i
 by_cases hi:i<33
 ·rw[bl33_at b i (by omega)]
  match i,hi with
  | 0,_=>rfl
  | 1,_=>rfl
  | 2,_=>rfl
  | 3,_=>rfl
  | 4,_=>rfl
  | 5,_=>rfl
  | 6,_=>rfl
  | 7,_=>rfl
  | 8,_=>rfl
  | 9,_=>rfl
  | 10,_=>rfl
  | 11,_=>rfl
  | 12,_=>rfl
  | 13,_=>rfl
  | 14,_=>rfl
  | 15,_=>rfl
  | 16,_=>rfl
  | 17,_=>rfl
  | 18,_=>rfl
  | 19,_=>rfl
  | 20,_=>rfl
  | 21,_=>rfl
  | 22,_=>rfl
  | 23,_=>rfl
  | 24,_=>rfl
  | 25,_=>rfl
  | 26,_=>rfl
  | 27,_=>rfl
  | 28,_=>rfl
  | 29,_=>rfl
  | 30,_=>rfl
  | 31,_=>rfl
  | 32,_=>rfl
  | n+33,h=>exact absurd h (by omega)
 ·rw[List.getElem?_eq_none (by rw[bl33_length h];omega),List.getElem?_eq_none (by show 33≤i;omega)]
theorem bytes_eq {a b:Bs} (ha:a.size=33) (hb:b.size=33):(∀ i∈List.range 33,ub a[i]! = ub b[i]!)↔a=b:=by
 constructor
 ·intro h
  apply Array.ext (by rw[ha,hb])
  intro i h1 h2
  have h3:=h i (List.mem_range.2 (by omega))
  rw[getElem!_pos a i h1,getElem!_pos b i h2] at h3
  have h4:a[i].toNat=b[i].toNat:=by unfold ub at h3;omega
  exact UInt8.toNat_inj.1 h4
 ·rintro rfl i _
  rfl
theorem eqCP {a b:Bs} (ha:a.size=33) (hb:b.size=33) (w:World):(Op.equal 54 (.agg (bl33 a).toArray) (.agg (bl33 b).toArray)).run Tryz.prog w=.ok (decide (a=b)) w:=by
 have hi:(Tryz.prog.info? 5).isSome=true:=by kernel_rfl
 obtain ⟨inf,hinf⟩:=Option.isSome_iff_exists.1 hi
 show (Op.equalIn 10000 54 _ _).run Tryz.prog w=_
 rw[run_equalIn_array w 9999 _ _ undCP hinf,cells5,
  eqI _ _ (fun i=>ub a[i]!) (fun i=>ub b[i]!) 9998 w (List.range 33) (fun i hi=>by
   rw[List.getElem?_toArray]
   exact bl33_at a i (by rw[ha];exact List.mem_range.1 hi)) (fun i hi=>by
   rw[List.getElem?_toArray]
   exact bl33_at b i (by rw[hb];exact List.mem_range.1 hi))]
 rw[decide_eq_decide.2 (bytes_eq ha hb)]
theorem checkCP {b:Bs} (hb:b.size=33) (e:Bool) (w:World):(Instr.checkKey e 10000 54 (.agg (bl33 b).toArray)).run Tryz.prog w=.ok () w:=by
 rw[bl33_lit hb]
 kernel_rfl
def at? (b:Bs):List Bs→Nat→Option Nat
 | [],_=>none
 | k :: r,i=>if b=k then some i else at? b r (i+1)
def ents:List Bs→Nat→List MapEntry
 | [],_=>[]
 | k :: r,i=>{ key:=.agg (bl33 k).toArray,val:=.int .i64 i,born:=i } :: ents r (i+1)
theorem find_run {b:Bs} (hb:b.size=33) (w:World):∀ (D:List Bs) (i:Nat),(∀ k∈D,k.size=33)→(Instr.findAsking 54 (.agg (bl33 b).toArray) (ents D i) i).run Tryz.prog w=.ok ((at? b D i).map fun j=>(j,.int .i64 j)) w
 | [],i,_=>rfl
 | k :: r,i,h=>by
  have ih:=find_run hb w r (i+1) (fun x hx=>h x (List.mem_cons_of_mem _ hx))
  have he:=eqCP hb (h k List.mem_cons_self) w
  unfold ents Instr.findAsking at?
  simp only[Sem.run_bind,he,Result.andThen_ok]
  by_cases hk:b=k
  ·simp only[hk,decide_true,if_true,Sem.run_pure,Option.map_some]
  ·simp only[hk,decide_false,Bool.false_eq_true,if_false,ih]
theorem key_run {b:Bs} (hb:b.size=33) (D:List Bs) (h:∀ k∈D,k.size=33) (w:World):(Instr.findKey 54 (.agg (bl33 b).toArray) (ents D 0)).run Tryz.prog w=.ok ((at? b D 0).map fun j=>(j,.int .i64 j)) w:=by
 have hu:(underlying 54).run Tryz.prog w=.ok (.array 33 5) w:=run_underlying undCP w
 unfold Instr.findKey
 rw[Sem.run_bind,hu,Result.andThen_ok]
 cases D with
 | nil=>rfl
 | cons k r =>
  have h1:Instr.findNow (.array 33 5) (.agg (bl33 b).toArray) (ents (k :: r) 0) 0=none:=rfl
  simp only[h1]
  exact find_run hb w (k :: r) 0 h
theorem at?_none {b:Bs}:∀ {D:List Bs} {i:Nat},at? b D i=none↔b ∉ D
 | [],i=>by simp[at?]
 | k :: r,i=>by
  unfold at?
  by_cases h:b=k
  ·simp[h]
  ·simp[h,at?_none (D:=r) (i:=i+1)]
end
section
open Go.RowKit Go.Sort Go.Deep
section
variable {P:Program} {ops:Array Oper} {rest:List Oper} {op:Oper} {a:Act} {w w':World} {v u:Value} {Q:Exit→Act→World→Prop}
theorem wpList_box (hgd:op.guard=none) (T:TypeId) (x:Operand) (ho:op.op=.box T x) (hx:a.eval x=u) (hr:(Instr.box T u).run P w=.ok v w') (h:wpList P ops Q rest (a.put op.dst v) w'):wpList P ops Q (op :: rest) a w:=
 wpList_plain hgd fun K hK=>by
  unfold Oper.wp execOp
  simp only[ho,hx,Sem.run_bind,hr,Result.andThen_ok,Sem.run_pure]
  exact hK _ _ h
end
variable {N:Nat}
theorem infoCP:(Tryz.prog.info? 54).map (·.size)=some 33:=by kernel_rfl
theorem uCP:(Tryz.prog.underlying 54).map (·.isRow)=some true:=by kernel_rfl
theorem boxCP {a:Bs} (ha:a.size=33) (w:World):(Instr.box 54 (.agg (bl33 a).toArray)).run Tryz.prog w=.ok (.pointer (some ⟨w.heap.size,0,none⟩)) (w.alloc (.cells (bl33 a).toArray 54)):=by
 rw[bl33_lit ha]
 kernel_rfl
theorem slCP (k:Nat) (w:World):(Instr.sliceAt 54 (.pointer (some ⟨k,0,none⟩)) none none none).run Tryz.prog w=.ok (.slice (some ⟨k,0,none⟩) 33 33) w:=by kernel_rfl
theorem row_holds {W:World} {k:Nat} {a:Bs} (h:Row W k (bl33 a)):Holds encB W k 0 a:=cb_holds h.2.1 h.2.2
theorem row_part {W:World} {k:Nat} {a:Bs} (ha:a.size=33) (h:Row W k (bl33 a)):SP.PartOk W (.slice (some ⟨k,0,none⟩) 33 33) a.toList:=
 ⟨_,k,0,33,a,by rw[ha],rfl,by omega,by omega,Or.inr ⟨rfl,row_holds h⟩⟩
theorem sp_h {W:World} {r:Nat} {L:Bs} (h:Holds encB W r 0 L):Holds SP.encB W r 0 L:=h
theorem sp_k {W:World} {r:Nat} {L:Bs} (h:Holds SP.encB W r 0 L):Holds encB W r 0 L:=h
structure Sx (w W:World) (k3 k4 k6 k7 r:Nat) (a b L:Bs):Prop where
 bl:Below w.heap.size w W
 r3:Row W k3 (bl33 a)
 r4:Row W k4 (bl33 b)
 r6:Row W k6 [.int .u64 0,.int .u64 0,.int .u64 0,.int .u64 0]
 r7:Row W k7 [.pointer (some ⟨r,0,none⟩)]
 lg:Holds encB W r 0 L
structure Sn (w:World) (k3 k4 k6 k7 r:Nat):Prop where
 lr:w.heap.size≤r
 n3:k3≠r
 n4:k4≠r
 n6:k6≠r
 n7:k7≠r
 l6:w.heap.size≤k6
theorem Sx.say {w W W':World} {k3 k4 k6 k7 r:Nat} {a b L L':Bs} (h:Sx w W k3 k4 k6 k7 r a b L) (n:Sn w k3 k4 k6 k7 r) (hO:SP.Only r 0 32 W W') (hL:Holds encB W' r 0 L'):Sx w W' k3 k4 k6 k7 r a b L':=
 ⟨h.bl.trans (hO.below h.bl.size n.lr),h.r3.only hO n.n3,h.r4.only hO n.n4,h.r6.only hO n.n6,h.r7.only hO n.n7,hL⟩
theorem Sx.drew {w W:World} {k3 k4 k6 k7 r:Nat} {a b L:Bs} (h:Sx w W k3 k4 k6 k7 r a b L):Sx w W.drew k3 k4 k6 k7 r a b L:=⟨h.bl.drew,h.r3,h.r4,h.r6,h.r7,h.lg⟩
theorem Sx.cell {w W:World} {k3 k4 k6 k7 r:Nat} {a b L:Bs} (h:Sx w W k3 k4 k6 k7 r a b L):W.cell? ⟨k7,0,none⟩=some (.pointer (some ⟨r,0,none⟩)):=h.r7.2.1 0 _ rfl
theorem sAsked_c (O:Ord N) (a b:Bs) (ha:a.size=33) (hb:b.size=33) (ta:Option Addr) (tl tc:Nat) (tx:List UInt8) (w:World) (hP:SP.PartOk w (.slice ta tl tc) tx) :
 Calls Tryz.prog 36 #[.agg (bl33 a).toArray,.agg (bl33 b).toArray,.slice ta tl tc] w (Ret fun e w'=>Below w.heap.size w w'∧e=nv (asg N a.toList b.toList tx)):=by
 obtain ⟨L0,h0⟩:∃ L,Hid (SP.newL [115,105,103,110]=L):=⟨_,rfl⟩
 obtain ⟨L1,h1⟩:∃ L,Hid (SP.sayL L0 [112,117,98,108,105,99] a.toList=L):=⟨_,rfl⟩
 obtain ⟨L2,h2⟩:∃ L,Hid (SP.sayL L1 [102,105,114,115,116] b.toList=L):=⟨_,rfl⟩
 obtain ⟨L3,h3⟩:∃ L,Hid (SP.sayL L2 [116,101,120,116] tx=L):=⟨_,rfl⟩
 have s0:L0.size=32:=by rw[← h0.out];exact SP.newL_size _
 have s1:L1.size=32:=by rw[← h1.out];exact SP.sayL_size _ _ _
 have s2:L2.size=32:=by rw[← h2.out];exact SP.sayL_size _ _ _
 have s3:L3.size=32:=by rw[← h3.out];exact SP.sayL_size _ _ _
 have hr:asg N a.toList b.toList tx=cha N L3:=by unfold asg logS;rw[h0.out,h1.out,h2.out,h3.out]
 rw[hr]
 clear hr
 have HP:=Hid.mk' hP
 clear hP
 obtain ⟨va,hva⟩:∃ v,Hid (Value.agg (bl33 a).toArray=v):=⟨_,rfl⟩
 obtain ⟨vb,hvb⟩:∃ v,Hid (Value.agg (bl33 b).toArray=v):=⟨_,rfl⟩
 have bA:=boxCP ha w
 obtain ⟨w1,hw1⟩:∃ w1,Hid (w.alloc (.cells (bl33 a).toArray 54)=w1):=⟨_,rfl⟩
 have bB:=boxCP hb w1
 obtain ⟨w2,hw2⟩:∃ w2,Hid (w1.alloc (.cells (bl33 b).toArray 54)=w2):=⟨_,rfl⟩
 obtain ⟨w3,hw3⟩:∃ w3,Hid (w2.alloc (.cells #[.int .u64 0,.int .u64 0,.int .u64 0,.int .u64 0] 49)=w3):=⟨_,rfl⟩
 rw[hva.out,hw1.out] at bA
 rw[hvb.out,hw2.out] at bB
 rw[hva.out,hvb.out]
 have e1:w1.heap.size=w.heap.size+1:=by rw[← hw1.out,World.size_alloc]
 have e2:w2.heap.size=w.heap.size+2:=by rw[← hw2.out,World.size_alloc,e1]
 have e3:w3.heap.size=w.heap.size+3:=by rw[← hw3.out,World.size_alloc,e2]
 rw[e1] at bB
 have K3:Hid (Row w3 w.heap.size (bl33 a)∧Row w3 (w.heap.size+1) (bl33 b)∧Row w3 (w.heap.size+2) [.int .u64 0,.int .u64 0,.int .u64 0,.int .u64 0]∧Below w.heap.size w w3):=by
  have q1:Row w1 w.heap.size (bl33 a):=by rw[← hw1.out];exact row_new w _ _
  have q2:Row w2 (w.heap.size+1) (bl33 b):=by rw[← hw2.out,← e1];exact row_new w1 _ _
  have q3:Row w3 (w.heap.size+2) [.int .u64 0,.int .u64 0,.int .u64 0,.int .u64 0]:=by rw[← hw3.out,← e2];exact row_new w2 _ _
  have b1:Below w.heap.size w w1:=by rw[← hw1.out];exact below1 w _
  have b2:Below w1.heap.size w1 w2:=by rw[← hw2.out];exact below1 w1 _
  have b3:Below w2.heap.size w2 w3:=by rw[← hw3.out];exact below1 w2 _
  exact ⟨(q1.below b2).below b3,q2.below b3,q3,(b1.trans (b2.mono (by omega))).trans (b3.mono (by omega))⟩
 clear hw1 hw2
 have BA:=Hid.mk' bA
 have BB:=Hid.mk' bB
 clear bA bB
 go_enter Tryz.func36,Tryz.ntmps36
 go_wp2_with (first|(refine wpList_box (u:=va) (v:=.pointer (some ⟨w.heap.size,0,none⟩)) (w':=w1) rfl 54 (.tmp 0) rfl ?_ ?_ ?_;rfl;exact BA.out)|(refine wpList_box (u:=vb) (v:=.pointer (some ⟨w.heap.size+1,0,none⟩)) (w':=w2) rfl 54 (.tmp 1) rfl ?_ ?_ ?_;rfl;exact BB.out))
 rw[hw3.out]
 clear hw3 BA BB
 refine (sNewLog_c ⟨#[115,105,103,110]⟩ w3 (by decide)).mono ?_
 rintro e w4 ⟨v,rfl,hb4,r,rfl,hr1,hr2,hL⟩
 rw[show SP.newL (⟨#[115,105,103,110]⟩:ByteArray).data.toList=L0 from h0.out] at hL
 have hb04:Below w.heap.size w w4:=K3.out.2.2.2.trans (hb4.mono K3.out.2.2.2.size)
 obtain ⟨k7,hk7⟩:∃ k,Hid (w4.heap.size=k):=⟨_,rfl⟩
 have hk7r:r<k7:=by rw[← hk7.out];exact hr2
 have hb04s:=hb04.size
 have HN:Hid (Sn w w.heap.size (w.heap.size+1) (w.heap.size+2) k7 r):=⟨by omega,by omega,by omega,by omega,by omega,by omega⟩
 obtain ⟨w5,hw5⟩:∃ w5,Hid ((w4.alloc (.cells #[.pointer none] 131)).setCells k7 0 [.pointer (some ⟨r,0,none⟩)]=w5):=⟨_,rfl⟩
 have KS:Hid (Sx w w5 w.heap.size (w.heap.size+1) (w.heap.size+2) k7 r a b L0):=by
  rw[← hw5.out,← hk7.out]
  have hR:=row_new w4 [.pointer none] 131
  have hlt:w4.heap.size=k7:=hk7.out
  refine ⟨RG.below_setCells hb04.size _ _ _ (hb04.alloc hb04.size _),((K3.out.1.below hb4).alloc _).other (by omega),((K3.out.2.1.below hb4).alloc _).other (by omega),((K3.out.2.2.1.below hb4).alloc _).other (by omega),hR.put rfl,fun j hj=>?_⟩
  have e:=RG.setCells_other w4.heap.size [.pointer (some ⟨r,0,none⟩)] 0 (w4.alloc (.cells #[.pointer none] 131)) r (by omega)
  have e2:=Below.heap_alloc w4 (.cells #[.pointer none] 131) r hr2
  rw[World.cell?_of_block (a:=⟨r,0+j,none⟩) e,World.frozen?_of_block (a:=⟨r,0+j,none⟩) e,World.cell?_of_block (a:=⟨r,0+j,none⟩) e2,World.frozen?_of_block (a:=⟨r,0+j,none⟩) e2]
  exact hL j hj
 have HTH:Hid ((w4.alloc (.cells #[.pointer none] 131)).there k7 0 1):=by rw[← hk7.out];exact (row_new w4 [.pointer none] 131).2.2
 clear hb4 hL hb04 hr1 hr2 K3 hk7r hb04s
 go_wp2_with (refine wpList_op (v:=.pointer (some ⟨k7,0,none⟩)) (w':=w4.alloc (.cells #[.pointer none] 131)) rfl (.alloc 131) rfl ?_ ?_;(rw[← hk7.out];kernel_rfl);refine Hid.out ?_)
 show wpList _ _ _ _ _ _
 refine wpList_store_mid rfl 131 _ _ rfl k7 0 #[.pointer (some ⟨r,0,none⟩)] ?_ ?_ ?_ ?_ ?_ ?_
 ·kernel_rfl
 ·kernel_rfl
 ·exact HTH.out
 ·exact i124
 ·kernel_rfl
 rw[show (#[Value.pointer (some ⟨r,0,none⟩)]).toList=[.pointer (some ⟨r,0,none⟩)] from rfl,hw5.out]
 clear HTH hw5 hk7
 have hs3:=slCP w.heap.size
 have hs4:=slCP (w.heap.size+1)
 have KP:=KS.out
 clear KS
 go_wp2_with fail
 go_region_held3 (fun W=>W.cell? ⟨k7,0,none⟩=some (.pointer (some ⟨r,0,none⟩))∧∃ L,Sx w W w.heap.size (w.heap.size+1) (w.heap.size+2) k7 r a b L) (first|(with_reducible exact ⟨KP.cell,_,KP⟩)|(with_reducible exact ⟨KP.drew.cell,_,KP.drew⟩)|fail) (first|(go_at_call 89;(first|(with_reducible refine (SP.Say_any r L0 ⟨#[112,117,98,108,105,99]⟩ (some ⟨w.heap.size,0,none⟩) 33 33 a.toList _ (by decide) (sp_h KP.lg) s0 (row_part ha KP.r3)).mono ?_)|(with_reducible refine (SP.Say_any r L0 ⟨#[112,117,98,108,105,99]⟩ (some ⟨w.heap.size,0,none⟩) 33 33 a.toList _ (by decide) (sp_h KP.drew.lg) s0 (row_part ha KP.drew.r3)).mono ?_));rintro e w6 ⟨rfl,hO,hL⟩;rw[show SP.sayL L0 (⟨#[112,117,98,108,105,99]⟩:ByteArray).data.toList a.toList=L1 from h1.out] at hL;(first|(with_reducible (have KP1:=KP.drew.say HN.out hO (sp_k hL)))|(with_reducible (have KP1:=KP.say HN.out hO (sp_k hL)))|fail);clear KP hO hL;have KP:=KP1;clear KP1))
 clear hs3
 go_wp2_with fail
 go_region_held3 (fun W=>W.cell? ⟨k7,0,none⟩=some (.pointer (some ⟨r,0,none⟩))∧∃ L,Sx w W w.heap.size (w.heap.size+1) (w.heap.size+2) k7 r a b L) (first|(with_reducible exact ⟨KP.cell,_,KP⟩)|(with_reducible exact ⟨KP.drew.cell,_,KP.drew⟩)|fail) (first|(go_at_call 89;(first|(with_reducible refine (SP.Say_any r L1 ⟨#[102,105,114,115,116]⟩ (some ⟨w.heap.size+1,0,none⟩) 33 33 b.toList _ (by decide) (sp_h KP.lg) s1 (row_part hb KP.r4)).mono ?_)|(with_reducible refine (SP.Say_any r L1 ⟨#[102,105,114,115,116]⟩ (some ⟨w.heap.size+1,0,none⟩) 33 33 b.toList _ (by decide) (sp_h KP.drew.lg) s1 (row_part hb KP.drew.r4)).mono ?_));rintro e w7 ⟨rfl,hO,hL⟩;rw[show SP.sayL L1 (⟨#[102,105,114,115,116]⟩:ByteArray).data.toList b.toList=L2 from h2.out] at hL;(first|(with_reducible (have KP1:=KP.drew.say HN.out hO (sp_k hL)))|(with_reducible (have KP1:=KP.say HN.out hO (sp_k hL)))|fail);clear KP hO hL;have KP:=KP1;clear KP1))
 clear hs4
 have c7:=KP.cell
 have KS:=Hid.mk' KP
 clear KP
 go_wp2_with fail
 clear c7
 refine (SP.Say_any r L2 ⟨#[116,101,120,116]⟩ ta tl tc tx w7 (by decide) (sp_h KS.out.lg) s2 (HP.out.below KS.out.bl)).mono ?_
 rintro e w8 ⟨rfl,hO,hL⟩
 rw[show SP.sayL L2 (⟨#[116,101,120,116]⟩:ByteArray).data.toList tx=L3 from h3.out] at hL
 have KT:Hid (Sx w w8 w.heap.size (w.heap.size+1) (w.heap.size+2) k7 r a b L3):=KS.out.say HN.out hO (sp_k hL)
 clear hO hL KS HP
 obtain ⟨d,hd1,hd2⟩:=Option.map_eq_some_iff.1 u124
 have HD:Hid (Tryz.prog.underlying 131=some d∧d.isRow=true):=⟨hd1,hd2⟩
 clear hd1 hd2
 go_wp2_with (refine wpList_load_mid rfl 131 _ rfl k7 0 ?_ [.pointer (some ⟨r,0,none⟩)] d ?_ ?_ ?_ ?_ ?_;kernel_rfl;exact KT.out.r7.2.1;exact HD.out.1;exact HD.out.2;exact i124)
 refine (sChallenge_c O r L3 w8 KT.out.lg s3).mono ?_
 rintro e w9 ⟨v,rfl,hO,rfl⟩
 have K9:Hid (Row w9 (w.heap.size+2) [.int .u64 0,.int .u64 0,.int .u64 0,.int .u64 0]∧Below w.heap.size w w9):=⟨KT.out.r6.only hO HN.out.n6,KT.out.bl.trans (hO.below KT.out.bl.size HN.out.lr)⟩
 clear hO KT HN
 obtain ⟨m,hm⟩:∃ m,Hid (cha N L3=m):=⟨_,rfl⟩
 rw[hm.out]
 obtain ⟨wa,hwa⟩:∃ wa,Hid (w9.setCells (w.heap.size+2) 0 (wn m)=wa):=⟨_,rfl⟩
 have KA:Hid (Row wa (w.heap.size+2) (wn m)∧Below w.heap.size w wa):=by rw[← hwa.out];exact ⟨K9.out.1.put rfl,RG.below_setCells (by omega) _ _ _ K9.out.2⟩
 obtain ⟨vm,hvm⟩:∃ vm,Hid (nv m=vm):=⟨_,rfl⟩
 rw[hvm.out]
 go_wp2_with (refine wpList_store_mid rfl 49 _ _ rfl (w.heap.size+2) 0 (wn m).toArray ?_ ?_ ?_ ?_ ?_ ?_;rfl;exact hvm.out.symm;exact K9.out.1.2.2;exact i40;exact wn_one m;rw[show (wn m).toArray.toList=wn m from rfl,hwa.out])
 refine bodyPost_ret (results_cell 6 49 rfl KA.out.1 rfl u40 i40) rfl ?_
 exact ⟨_,rfl,KA.out.2,by rw[hm.out];rfl⟩
end
section
open Go.RowKit Go.Sort Go.Deep
variable {P:Nat} [NeZero P] {N:Nat}
theorem answer_c (O:Ord N) {c k x:Nat} (hc:c<N) (hk:k<N) (hx:x<N):Gives 38 #[nv c,nv k,nv x] (nv (sPl N k (sTi N c x))):=by
 intro w
 have h1:=sTim_c O c x hc hx
 have h2:=sPlu_c O k (sTi N c x) hk (O.ti c x)
 generalize sTi N c x=cx at h1 h2 ⊢
 generalize sPl N k cx=z at h2 ⊢
 go_enter Tryz.func38,Tryz.ntmps38
 refine RG.M.enter [(0,.v (nv c)),(1,.v (nv k)),(2,.v (nv x))] 12 (by kernel_rfl) ?_
 intro a0 M0
 repeat refine wp_seq ?_
 refine M0.t [.m 3 [] 0,.m 4 [] 1,.m 5 [] 2,.m 6 [] 3] [(0,wn c),(1,wn k),(2,wn x),(3,RG.z 4)] [] [wn c,wn k,wn x,RG.z 4] [(3,.p 0 0),(4,.p 1 0),(5,.p 2 0),(6,.p 3 0)] ⟨RG.mk 0 49,RG.mk 1 49,RG.mk 2 49,RG.mk 3 49,trivial⟩ ?_
 intro j1 j2 j3 j4 a1 w1 M1
 repeat refine wp_seq ?_
 refine M1.d [.x 7 [] (nv k),.x 8 [] (nv c),.x 9 [] (nv x),.c 10 [(8,1),(9,2)] (nv cx),.c 11 [(7,0),(10,3)] (nv z),.u [(11,4)] 3] [] [(3,5,wn z)] [wn c,wn k,wn x,wn z] [(6,.p 3 0)] ⟨RG.ld u40 i40,RG.ld u40 i40,RG.ld u40 i40,RG.cl h1,RG.cl h2,RG.pt i40,trivial⟩ ?_
 intro a2 w2 M2
 refine wp_ret ?_
 refine bodyPost_ret (v:=nv z) (RG.results_row M2.st 6 49 rfl 3 _ rfl (M2.at (s:=(.p 3 0))) u40 i40) M2.sl.defers ?_
 exact ⟨_,rfl,M2.st.bel.below,rfl⟩
theorem neS {a:Nat} (ha:a<top) (w:World):(binOp .neq 49 (nv a) (nv 0)).run Tryz.prog w=.ok (.bool (!decide (a=0))) w:=by
 have h:=eqS ha (show 0<top by unfold top;omega) w
 have h1:(binOp .eql 49 (nv a) (nv 0)).run Tryz.prog w=(Op.equal 49 (nv a) (nv 0) >>= fun b=>pure (Value.bool b)).run Tryz.prog w:=rfl
 have h2:(binOp .neq 49 (nv a) (nv 0)).run Tryz.prog w=(Op.equal 49 (nv a) (nv 0) >>= fun b=>pure (Value.bool (!b))).run Tryz.prog w:=rfl
 rw[h1,Sem.run_bind] at h
 rw[h2,Sem.run_bind]
 cases he:(Op.equal 49 (nv a) (nv 0)).run Tryz.prog w with
 | ok r w2 =>
  rw[he] at h
  simp only[Result.andThen_ok,Sem.run_pure,Result.ok.injEq,Value.bool.injEq] at h ⊢
  rw[h.1,h.2]
  exact ⟨rfl,rfl⟩
 | halt r w2 =>
  rw[he] at h
  cases h
theorem rsecret_c (O:Ord N) (v:Value) (bs:Bs) (w:World) (hv:Arg w v bs):Calls Tryz.prog 32 #[v] w (Ret fun e w'=>Below w.heap.size w w'∧e=.tuple #[nv ((rq N bs).getD 0),.bool ((rq N bs).isSome && !decide ((rq N bs).getD 0=0))]):=by
 have hR:∀ w',RG.BelX w.heap.size [] w w'→Calls Tryz.prog 66 #[v] w' (Ret fun e w''=>Below w'.heap.size w' w''∧e=.tuple #[nv ((rq N bs).getD 0),.bool (rq N bs).isSome]):=fun w' hb=>sread_c O v bs w' (hv.below hb.below)
 have hlt:(rq N bs).getD 0<top:=by
  cases h:rq N bs with
  | none=>show 0<top;unfold top;omega
  | some n=>exact rq_top O.le h
 have hne:=neS hlt
 generalize (rq N bs).getD 0=n at hR hlt hne ⊢
 generalize (rq N bs).isSome=ok at hR ⊢
 generalize (!decide (n=0))=z at hne ⊢
 go_enter Tryz.func32,Tryz.ntmps32
 refine RG.M.enter [(0,.v v)] 18 (by kernel_rfl) ?_
 intro a0 M0
 repeat refine wp_seq ?_
 refine M0.t [.m 2 [] 0,.x 3 [] (.bool false)] [(0,RG.z 4)] [] [RG.z 4] [(0,.v v),(2,.p 0 0),(3,.v (.bool false))] ⟨RG.mk 0 49,RG.st,trivial⟩ ?_
 intro j1 a1 w1 M1
 repeat refine wp_seq ?_
 refine M1.t [.x 7 [] v,.c 8 [(7,0)] (.tuple #[nv n,.bool ok]),.x 6 [(8,1)] (.tuple #[nv n,.bool ok]),.x 9 [(6,2)] (nv n),.x 10 [(6,2)] (.bool ok),.m 4 [] 1,.u [(4,5),(9,3)] 1,.x 5 [(10,4)] (.bool ok)] [(5,RG.z 4)] [(1,6,wn n)] [RG.z 4,wn n] [(2,.p 0 0),(4,.p 1 0),(5,.v (.bool ok))] ⟨RG.st,RG.clB (fun _ _=>by kernel_rfl) hR,RG.st,RG.st,RG.st,RG.mk 1 49,RG.pt i40,RG.st,trivial⟩ ?_
 intro j2 a2 w2 M2
 repeat refine wp_seq ?_
 cases ok with
 | true =>
  refine M2.d [.x 11 [] (nv n),.x 12 [] (.bool true),.x 13 [(12,1)] (.bool true),.x 14 [] (nv n),.x 15 [] (nv 0),.x 16 [(14,3),(15,4)] (.bool z),.x 17 [(13,2),(16,5)] (.bool z),.u [(11,0)] 0,.x 3 [(17,6)] (.bool z)] [] [(0,7,wn n)] [wn n,wn n] [(2,.p 0 0),(3,.v (.bool z))] ⟨RG.ld u40 i40,RG.st,RG.st,RG.ld u40 i40,RG.st,RG.cert_bin rfl .neq 49 49 14 15 (nv n) (nv 0) (.bool z) rfl rfl RG.sx RG.sx (fun w=>by kernel_rfl) hne,RG.st,RG.pt i40,RG.st,trivial⟩ ?_
  intro a4 w4 M4
  refine wp_ret ?_
  refine bodyPost_ret (v:=.tuple #[nv n,.bool z]) (RG.results_rt M4.st 2 3 49 rfl 0 _ rfl (M4.at (s:=.p 0 0)) (.bool z) M4.av u40 i40) M4.sl.defers ?_
  exact ⟨_,rfl,M4.st.bel.below,rfl⟩
 | false =>
  refine M2.d [.x 11 [] (nv n),.x 12 [] (.bool false),.x 13 [(12,1)] (.bool false),⟨some 14,[],(.v undef),.pass⟩,⟨some 15,[],(.v undef),.pass⟩,⟨some 16,[],(.v undef),.pass⟩,.x 17 [(13,2),(16,5)] (.bool false),.u [(11,0)] 0,.x 3 [(17,6)] (.bool false)] [] [(0,7,wn n)] [wn n,wn n] [(2,.p 0 0),(3,.v (.bool false))] ⟨RG.ld u40 i40,RG.st,RG.st,RG.cert_pass rfl rfl,RG.cert_pass rfl rfl,RG.cert_pass rfl rfl,RG.st,RG.pt i40,RG.st,trivial⟩ ?_
  intro a4 w4 M4
  refine wp_ret ?_
  refine bodyPost_ret (v:=.tuple #[nv n,.bool false]) (RG.results_rt M4.st 2 3 49 rfl 0 _ rfl (M4.at (s:=.p 0 0)) (.bool false) M4.av u40 i40) M4.sl.defers ?_
  exact ⟨_,rfl,M4.st.bel.below,rfl⟩
theorem arrCP (g cg:Nat) (w:World):(Instr.arrayAt 54 (.slice (some ⟨g,0,none⟩) 33 cg)).run Tryz.prog w=.ok (.pointer (some ⟨g,0,none⟩)) w:=by kernel_rfl
theorem row_cp {W:World} {k:Nat} {a:Bs} (ha:Holds encB W k 0 a) (hk:k<W.heap.size):Row W k (bl33 a):=⟨hk,(cb_range ha).1,(cb_range ha).2⟩
theorem bl33_one (a:Bs):(bl33 a).toArray.all (·.oneCell')=true:=by
 rw[Array.all_eq_true']
 intro v hv
 obtain ⟨x,-,rfl⟩:=List.mem_map.1 (List.mem_toArray.1 hv)
 rfl
def pvl (a:Bs):Value:=.agg (bl33 a).toArray
theorem gen_c (C:Fld P):Gives 35 #[] (pvl (wr (gG P))):=by
 intro w
 obtain ⟨T,hT⟩:∃ T,Hid (wr (gG P)=T):=⟨_,rfl⟩
 have hTs:T.size=33:=by rw[← hT.out];exact wr_size _
 rw[hT.out]
 obtain ⟨w1,hw1⟩:∃ w1,Hid (w.alloc (.cells z33.toArray 54)=w1):=⟨_,rfl⟩
 have K1:Hid (Row w1 w.heap.size z33∧Below w.heap.size w w1):=by rw[← hw1.out];exact ⟨row_new w _ _,below1 w _⟩
 obtain ⟨d,hd1,hd2⟩:=Option.map_eq_some_iff.1 uCP
 have HD:Hid (Tryz.prog.underlying 54=some d∧d.isRow=true):=⟨hd1,hd2⟩
 clear hd1 hd2
 go_enter Tryz.func35,Tryz.ntmps35
 go_wp2_with (refine wpList_op (v:=.pointer (some ⟨w.heap.size,0,none⟩)) (w':=w1) rfl (.alloc 54) rfl ?_ ?_;(rw[← hw1.out];kernel_rfl))
 refine (Base_c C w1).mono ?_
 rintro e w2 ⟨vv,rfl,hb2,g,cg,rfl,-,k2,k3,k4⟩
 rw[hT.out] at k4
 have K2:Hid (Row w2 w.heap.size z33∧Below w.heap.size w w2∧Row w2 g (bl33 T)):=⟨K1.out.1.below hb2,K1.out.2.trans (hb2.mono K1.out.2.size),row_cp k4 k3⟩
 clear hb2 k2 k3 k4 K1 hw1
 have harr:=arrCP g cg
 obtain ⟨w3,hw3⟩:∃ w3,Hid (w2.setCells w.heap.size 0 (bl33 T)=w3):=⟨_,rfl⟩
 have hlen:(bl33 T).length=33:=bl33_length hTs
 have K3:Hid (Row w3 w.heap.size (bl33 T)∧Below w.heap.size w w3):=by rw[← hw3.out];exact ⟨K2.out.1.put (by rw[hlen];rfl),RG.below_setCells (Nat.le_refl _) _ _ _ K2.out.2.1⟩
 obtain ⟨vt,hvt⟩:∃ vt,Hid (Value.agg (bl33 T).toArray=vt):=⟨_,rfl⟩
 have HI:Hid ((Tryz.prog.info? 54).map (·.size)=some (bl33 T).length∧w2.there w.heap.size 0 (bl33 T).toArray.size∧(Tryz.prog.info? 54).map (·.size)=some (bl33 T).toArray.size):=by
  have e:(bl33 T).toArray.size=33:=by rw[List.size_toArray];exact hlen
  refine ⟨by rw[hlen];exact infoCP,by rw[e];exact K2.out.1.2.2,by rw[e];exact infoCP⟩
 clear hlen
 go_wp2_with (first|(refine wpList_load_mid rfl 54 _ rfl g 0 ?_ (bl33 T) d ?_ ?_ ?_ ?_ ?_;rfl;exact K2.out.2.2.2.1;exact HD.out.1;exact HD.out.2;exact HI.out.1;rw[hvt.out])|(refine wpList_store_mid rfl 54 _ _ rfl w.heap.size 0 (bl33 T).toArray ?_ ?_ ?_ ?_ ?_ ?_;rfl;exact hvt.out.symm;exact HI.out.2.1;exact HI.out.2.2;exact bl33_one T;rw[show (bl33 T).toArray.toList=bl33 T from rfl,hw3.out]))
 refine bodyPost_ret (results_cell 0 54 rfl K3.out.1 rfl uCP HI.out.1) rfl ?_
 exact ⟨_,rfl,K3.out.2,rfl⟩
end
section
open Go.RowKit Go.Sort Go.Deep
section
variable {P:Program} {ops:Array Oper} {rest:List Oper} {op:Oper} {a:Act} {w w':World} {v:Value} {Q:Exit→Act→World→Prop}
theorem wpList_bld (hgd:op.guard=none) (T:TypeId) (parts:Array (Nat × Operand)) (ho:op.op=.build T parts) (vs:Array (Nat × Value)) (hx:(parts.map fun (i,x)=>(i,a.eval x))=vs) (hr:(Instr.build T vs).run P w=.ok v w') (h:wpList P ops Q rest (a.put op.dst v) w'):wpList P ops Q (op :: rest) a w:=
 wpList_plain hgd fun K hK=>by
  unfold Oper.wp execOp
  simp only[ho,hx,Sem.run_bind,hr,Result.andThen_ok,Sem.run_pure]
  exact hK _ _ h
theorem wpList_bsl (hgd:op.guard=none) (T:TypeId) (n:Nat) (parts:Array (Nat × Operand)) (ho:op.op=.buildSlice T n parts) (vs:Array (Nat × Value)) (hx:(parts.map fun (i,x)=>(i,a.eval x))=vs) (hr:(Instr.buildSlice T n vs).run P w=.ok v w') (h:wpList P ops Q rest (a.put op.dst v) w'):wpList P ops Q (op :: rest) a w:=
 wpList_plain hgd fun K hK=>by
  unfold Oper.wp execOp
  simp only[ho,hx,Sem.run_bind,hr,Result.andThen_ok,Sem.run_pure]
  exact hK _ _ h
end
theorem bldT {a:Bs} (ha:a.size=33) (n:Nat) (w:World):(Instr.build 167 #[(0,nv n),(1,pvl a)]).run Tryz.prog w=.ok (.agg (wn n++bl33 a).toArray) w:=by
 unfold pvl
 rw[bl33_lit ha]
 kernel_rfl
theorem bslT {a:Bs} (ha:a.size=33) (n:Nat) (w:World):(Instr.buildSlice 106 1 #[(0,.agg (wn n++bl33 a).toArray)]).run Tryz.prog w=.ok (.slice (some ⟨w.heap.size,0,none⟩) 1 1) (w.alloc (.cells (wn n++bl33 a).toArray 167)):=by
 rw[bl33_lit ha]
 kernel_rfl
theorem boxS (n:Nat) (w:World):(Instr.box 49 (nv n)).run Tryz.prog w=.ok (.pointer (some ⟨w.heap.size,0,none⟩)) (w.alloc (.cells (wn n).toArray 49)):=by kernel_rfl
theorem ptTimes_c (a:Bs) (ha:a.size=33) (n:Nat) (w:World):Calls Tryz.prog 72 #[pvl a,nv n] w (Ret fun e w'=>Below w.heap.size w w'∧∃ k,e=.slice (some ⟨k,0,none⟩) 1 1∧w.heap.size≤k∧Row w' k (wn n++bl33 a)):=by
 have B1:=Hid.mk' (boxCP ha w)
 obtain ⟨w1,hw1⟩:∃ w1,Hid (w.alloc (.cells (bl33 a).toArray 54)=w1):=⟨_,rfl⟩
 rw[hw1.out] at B1
 have e1:w1.heap.size=w.heap.size+1:=by rw[← hw1.out,World.size_alloc]
 have B2:=Hid.mk' (boxS n w1)
 obtain ⟨w2,hw2⟩:∃ w2,Hid (w1.alloc (.cells (wn n).toArray 49)=w2):=⟨_,rfl⟩
 rw[hw2.out,e1] at B2
 have e2:w2.heap.size=w.heap.size+2:=by rw[← hw2.out,World.size_alloc,e1]
 have B3:=Hid.mk' (bldT ha n w2)
 have B4:=Hid.mk' (bslT ha n w2)
 obtain ⟨w3,hw3⟩:∃ w3,Hid (w2.alloc (.cells (wn n++bl33 a).toArray 167)=w3):=⟨_,rfl⟩
 rw[hw3.out,e2] at B4
 have K:Hid (Row w2 w.heap.size (bl33 a)∧Row w2 (w.heap.size+1) (wn n)∧Below w.heap.size w w3∧Row w3 (w.heap.size+2) (wn n++bl33 a)):=by
  have q1:Row w1 w.heap.size (bl33 a):=by rw[← hw1.out];exact row_new w _ _
  have q2:Row w2 (w.heap.size+1) (wn n):=by rw[← hw2.out,← e1];exact row_new w1 _ _
  have q3:Row w3 (w.heap.size+2) (wn n++bl33 a):=by rw[← hw3.out,← e2];exact row_new w2 _ _
  have b1:Below w.heap.size w w1:=by rw[← hw1.out];exact below1 w _
  have b2:Below w1.heap.size w1 w2:=by rw[← hw2.out];exact below1 w1 _
  have b3:Below w2.heap.size w2 w3:=by rw[← hw3.out];exact below1 w2 _
  exact ⟨q1.below b2,q2,(b1.trans (b2.mono (by omega))).trans (b3.mono (by omega)),q3⟩
 have HL:Hid ((Tryz.prog.info? 54).map (·.size)=some (bl33 a).length):=by show _=_;rw[bl33_length ha];exact infoCP
 obtain ⟨d,hd1,hd2⟩:=Option.map_eq_some_iff.1 uCP
 obtain ⟨d',hd3,hd4⟩:=Option.map_eq_some_iff.1 u40
 have HD:Hid ((Tryz.prog.underlying 54=some d∧d.isRow=true)∧Tryz.prog.underlying 49=some d'∧d'.isRow=true):=⟨⟨hd1,hd2⟩,hd3,hd4⟩
 clear hd1 hd2 hd3 hd4 hw1 hw2 hw3 e1 e2
 obtain ⟨va,hva⟩:∃ v,Hid (pvl a=v):=⟨_,rfl⟩
 obtain ⟨vn,hvn⟩:∃ v,Hid (nv n=v):=⟨_,rfl⟩
 obtain ⟨vt,hvt⟩:∃ v,Hid (Value.agg (wn n++bl33 a).toArray=v):=⟨_,rfl⟩
 have B1':Hid ((Instr.box 54 va).run Tryz.prog w=.ok (.pointer (some ⟨w.heap.size,0,none⟩)) w1):=by rw[← hva.out];exact B1
 rw[hvn.out] at B2
 rw[hva.out,hvn.out,hvt.out] at B3
 rw[hvt.out] at B4
 rw[hva.out,hvn.out]
 clear B1
 go_enter Tryz.func72,Tryz.ntmps72
 go_wp2_with (first|(refine wpList_box (u:=va) (v:=.pointer (some ⟨w.heap.size,0,none⟩)) (w':=w1) rfl 54 (.tmp 0) rfl ?_ ?_ ?_;rfl;exact B1'.out)|(refine wpList_box (u:=vn) (v:=.pointer (some ⟨w.heap.size+1,0,none⟩)) (w':=w2) rfl 49 (.tmp 1) rfl ?_ ?_ ?_;rfl;exact B2.out)|(refine wpList_load_mid rfl 49 _ rfl (w.heap.size+1) 0 ?_ (wn n) d' ?_ ?_ ?_ ?_ ?_;rfl;exact K.out.2.1.2.1;exact HD.out.2.1;exact HD.out.2.2;exact i40;rw[show Value.agg (wn n).toArray=vn from hvn.out])|(refine wpList_load_mid rfl 54 _ rfl w.heap.size 0 ?_ (bl33 a) d ?_ ?_ ?_ ?_ ?_;rfl;exact K.out.1.2.1;exact HD.out.1.1;exact HD.out.1.2;exact HL.out;rw[show Value.agg (bl33 a).toArray=va from hva.out])|(refine wpList_bld (v:=vt) (w':=w2) rfl 167 _ rfl #[(0,vn),(1,va)] ?_ ?_ ?_;kernel_rfl;exact B3.out)|(refine wpList_bsl (v:=.slice (some ⟨w.heap.size+2,0,none⟩) 1 1) (w':=w3) rfl 106 1 _ rfl #[(0,vt)] ?_ ?_ ?_;kernel_rfl;exact B4.out))
 go_ret
 exact ⟨_,rfl,K.out.2.2.1,w.heap.size+2,rfl,by omega,K.out.2.2.2⟩
end
section
open Go.RowKit Go.Sort Go.Deep
variable {P:Nat} [NeZero P] {N:Nat}
theorem boxT {a:Bs} (ha:a.size=33) (n:Nat) (w:World):(Instr.box 167 (.agg (wn n++bl33 a).toArray)).run Tryz.prog w=.ok (.pointer (some ⟨w.heap.size,0,none⟩)) (w.alloc (.cells (wn n++bl33 a).toArray 167)):=by
 rw[bl33_lit ha]
 kernel_rfl
theorem bldS (w:World):(Instr.build 49 #[]).run Tryz.prog w=.ok (nv 0) w:=by kernel_rfl
def tvl (n:Nat) (a:Bs):Value:=.agg (wn n++bl33 a).toArray
theorem range_front {W:World} {k:Nat} {xs ys:List Value} (h:W.rangeAt k 0 (xs++ys)):W.rangeAt k 0 xs:=fun j v hj=>h j v (by rw[List.getElem?_append_left (List.getElem?_eq_some_iff.1 hj).1];exact hj)
theorem range_back {W:World} {k:Nat} {xs ys:List Value} (h:W.rangeAt k 0 (xs++ys)):W.rangeAt k xs.length ys:=fun j v hj=>by
 have:=h (xs.length+j) v (by rw[List.getElem?_append_right (Nat.le_add_right _ _),Nat.add_sub_cancel_left];exact hj)
 rwa[Nat.zero_add] at this
theorem none_c {n:Nat} (hn:n<top) {a:Bs} (ha:a.size=33):Gives 171 #[tvl n a] (.bool (decide (n=0))):=by
 intro w
 have B1:=Hid.mk' (boxT ha n w)
 obtain ⟨w1,hw1⟩:∃ w1,Hid (w.alloc (.cells (wn n++bl33 a).toArray 167)=w1):=⟨_,rfl⟩
 rw[hw1.out] at B1
 have K:Hid (Row w1 w.heap.size (wn n++bl33 a)∧Below w.heap.size w w1):=by rw[← hw1.out];exact ⟨row_new w _ _,below1 w _⟩
 obtain ⟨d',hd3,hd4⟩:=Option.map_eq_some_iff.1 u40
 have HD:Hid (Tryz.prog.underlying 49=some d'∧d'.isRow=true):=⟨hd3,hd4⟩
 clear hd3 hd4 hw1
 obtain ⟨va,hva⟩:∃ v,Hid (tvl n a=v):=⟨_,rfl⟩
 obtain ⟨vn,hvn⟩:∃ v,Hid (nv n=v):=⟨_,rfl⟩
 obtain ⟨v0,hv0⟩:∃ v,Hid (nv 0=v):=⟨_,rfl⟩
 have B1':Hid ((Instr.box 167 va).run Tryz.prog w=.ok (.pointer (some ⟨w.heap.size,0,none⟩)) w1):=by rw[← hva.out];exact B1
 have B2:Hid ((Instr.build 49 #[]).run Tryz.prog w1=.ok v0 w1):=by rw[← hv0.out];exact bldS w1
 have B3:=Hid.mk' (eqS hn (show 0<top by unfold top;omega) w1)
 rw[hvn.out,hv0.out] at B3
 have hq:=B3.out
 obtain ⟨z,hz⟩:∃ z,Hid (decide (n=0)=z):=⟨_,rfl⟩
 rw[hz.out] at hq
 have hg:(eqGuard .eql 49 (.tmp 4) (.tmp 5) vn v0).run Tryz.prog w1=.ok () w1:=by rw[← hvn.out,← hv0.out];kernel_rfl
 rw[hva.out,hz.out]
 clear B1 B3
 go_enter Tryz.func171,Tryz.ntmps171
 go_wp2_with (first|(refine wpList_box (u:=va) (v:=.pointer (some ⟨w.heap.size,0,none⟩)) (w':=w1) rfl 167 (.tmp 0) rfl ?_ ?_ ?_;rfl;exact B1'.out)|(refine wpList_load_mid rfl 49 _ rfl w.heap.size 0 ?_ (wn n) d' ?_ ?_ ?_ ?_ ?_;rfl;exact range_front K.out.1.2.1;exact HD.out.1;exact HD.out.2;exact i40;rw[show Value.agg (wn n).toArray=vn from hvn.out])|(refine wpList_bld (v:=v0) (w':=w1) rfl 49 _ rfl #[] ?_ ?_ ?_;kernel_rfl;exact B2.out))
 go_wp2
 go_ret
 exact ⟨_,rfl,K.out.2,rfl⟩
theorem uT:(Tryz.prog.underlying 167).map (·.isRow)=some true:=by kernel_rfl
theorem iT:(Tryz.prog.info? 167).map (·.size)=some 37:=by kernel_rfl
theorem atT (k o n c i:Nat) (hi:i<n) (w:World):(Instr.indexAt 106 (.slice (some ⟨k,o,none⟩) n c) (.int .i64 i)).run Tryz.prog w=.ok (.pointer (some ⟨k,o+37*i,none⟩)) w:=by
 have h1:¬ (i:Int)<0:=by omega
 have h2:(i:Int)<n:=by omega
 go_simp
def firstZ (ns:Nat→Nat):Nat→Nat→Int
 | _,0=>-1
 | i,m+1=>if ns i=0 then (i:Int) else firstZ ns (i+1) m
def FIx_2 (b:Bool):List RG.It:=[.x 9 [] (.bool b)]
def FIx_4 (g k c i n:Nat) (a:Bs) (z:Bool):List RG.It:=[.x 11 [] (.func (.func 171) #[] #[]),.x 12 [] (.slice (some ⟨g,0,none⟩) k c),.x 13 [] (.int .i64 i),.x 14 [(12,1),(13,2)] (.pointer (some ⟨g,(0+37*i),none⟩)),.x 15 [(14,3)] (tvl n a),.c 16 [(11,0),(15,4)] (.bool z)]
theorem index_c (g k c:Nat) (hk:k≤1000000) (ns:Nat→Nat) (az:Nat→Bs) (hn:∀ j,j<k→ns j<top) (ha:∀ j,j<k→(az j).size=33) (w:World) (hg:g<w.heap.size) (hr:∀ j,j<k→w.rangeAt g (37*j) (wn (ns j)++bl33 (az j))) :
 Calls Tryz.prog 197 #[(.slice (some ⟨g,0,none⟩) k c),(.func (.func 171) #[] #[])] w (Ret fun e w'=>Below w.heap.size w w'∧e=.int .i64 (firstZ ns 0 k)):=by
 obtain ⟨R,hR⟩:∃ R,firstZ ns 0 k=R:=⟨_,rfl⟩
 rw[hR]
 go_enter Tryz.func197,Tryz.ntmps197
 refine RG.M.enter [(0,.v (.slice (some ⟨g,0,none⟩) k c)),(1,.v (.func (.func 171) #[] #[]))] 19 (by kernel_rfl) ?_
 intro a0 M0
 repeat refine wp_seq ?_
 refine M0.u [.x 4 [] (.int .i64 0)] [(0,.v (.slice (some ⟨g,0,none⟩) k c)),(1,.v (.func (.func 171) #[] #[]))] ⟨RG.st,trivial⟩ ?_
 intro a1 w1 M1
 repeat refine wp_seq ?_
 refine M1.u [.x 6 [] (.slice (some ⟨g,0,none⟩) k c),.x 7 [(6,0)] (.int .i64 k),.x 8 [] (.int .i64 0)] [(0,.v (.slice (some ⟨g,0,none⟩) k c)),(1,.v (.func (.func 171) #[] #[])),(7,.v (.int .i64 k)),(8,.v (.int .i64 0))] ⟨RG.st,RG.st,RG.st,trivial⟩ ?_
 intro a2 w2 M2
 repeat refine wp_seq ?_
 refine wp_block ?_
 refine wp_loop_ghost (fun m a wr=>∃ i:Nat,i+m=k∧firstZ ns i m=R∧RG.M w w.heap.size [] 19 [] [] [(0,.v (.slice (some ⟨g,0,none⟩) k c)),(1,.v (.func (.func 171) #[] #[])),(7,.v (.int .i64 k)),(8,.v (.int .i64 i))] a wr) k ⟨0,by omega,hR,M2⟩ ?_
 intro m' a wr
 rintro ⟨i,him,hf,M20⟩
 by_cases hi:i<k
 ·obtain ⟨n,hne⟩:∃ n,ns i=n:=⟨_,rfl⟩
  obtain ⟨b,hbe⟩:∃ b,az i=b:=⟨_,rfl⟩
  have hnt:=hn i hi
  have hbs:=ha i hi
  have hri:=hr i hi
  rw[hne] at hnt hri
  rw[hbe] at hbs hri
  have hri':w.rangeAt g (0+37*i) (wn n++bl33 b):=by rw[Nat.zero_add];exact hri
  have hlen:(Tryz.prog.info? 167).map (·.size)=some (wn n++bl33 b).length:=by rw[List.length_append,bl33_length hbs];exact iT
  have hz:=none_c hnt hbs
  obtain ⟨m2,rfl⟩:∃ m2,m'=m2+1:=⟨m'-1,by omega⟩
  unfold firstZ at hf
  rw[hne] at hf
  repeat refine wp_seq ?_
  refine M20.u (FIx_2 true) [(0,.v (.slice (some ⟨g,0,none⟩) k c)),(1,.v (.func (.func 171) #[] #[])),(7,.v (.int .i64 k)),(8,.v (.int .i64 i)),(9,.v (.bool true))] ⟨RG.cert_bin rfl .lss 3 3 8 7 (.int .i64 i) (.int .i64 k) (.bool true) rfl rfl RG.sx RG.sx (fun w=>by kernel_rfl) (lssn_t hi),trivial⟩ ?_
  intro a21 w21 M21
  repeat refine wp_seq ?_
  refine wp_cond_true M21.ev ?_
  refine wp_skip ?_
  refine wp_seq ?_
  refine wp_block ?_
  repeat refine wp_seq ?_
  refine M21.u [.x 10 [] (.int .i64 i),.x 5 [(10,0)] (.int .i64 i)] [(0,.v (.slice (some ⟨g,0,none⟩) k c)),(1,.v (.func (.func 171) #[] #[])),(7,.v (.int .i64 k)),(8,.v (.int .i64 i)),(5,.v (.int .i64 i))] ⟨RG.st,RG.st,trivial⟩ ?_
  intro a22 w22 M22
  repeat refine wp_seq ?_
  by_cases h0:n=0
  ·rw[decide_eq_true h0] at hz
   rw[if_pos h0] at hf
   refine M22.u (FIx_4 g k c i n b true) [(0,.v (.slice (some ⟨g,0,none⟩) k c)),(1,.v (.func (.func 171) #[] #[])),(7,.v (.int .i64 k)),(8,.v (.int .i64 i)),(5,.v (.int .i64 i)),(16,.v (.bool true))] ⟨RG.st,RG.st,RG.st,RG.cert_idx rfl 106 12 13 rfl (.v (.slice (some ⟨g,0,none⟩) k c)) (.int .i64 i) RG.sx RG.sx (fun μ w=>atT _ 0 _ _ i hi w),RG.cert_loadB rfl g (0+37*i) hg List.not_mem_nil 167 14 rfl (wn n++bl33 b) rfl RG.sx hri' uT hlen,RG.clB (fun _ _=>by kernel_rfl) (fun w' _=>hz w'),trivial⟩ ?_
   intro a23 w23 M23
   repeat refine wp_seq ?_
   refine wp_cond_true M23.ev ?_
   repeat refine wp_seq ?_
   refine M23.u [.x 17 [] (.int .i64 i),.x 4 [(17,0)] (.int .i64 i)] [(4,.v (.int .i64 i))] ⟨RG.st,RG.st,trivial⟩ ?_
   intro a24 w24 M24
   refine wp_ret ?_
   refine bodyPost_ret (v:=.int .i64 i) (RG.results_t 4 rfl (.int .i64 i) M24.av) M24.sl.defers ?_
   exact ⟨_,rfl,M24.st.bel.below,by rw[hf]⟩
  ·rw[decide_eq_false h0] at hz
   rw[if_neg h0] at hf
   refine M22.u (FIx_4 g k c i n b false) [(0,.v (.slice (some ⟨g,0,none⟩) k c)),(1,.v (.func (.func 171) #[] #[])),(7,.v (.int .i64 k)),(8,.v (.int .i64 i)),(16,.v (.bool false))] ⟨RG.st,RG.st,RG.st,RG.cert_idx rfl 106 12 13 rfl (.v (.slice (some ⟨g,0,none⟩) k c)) (.int .i64 i) RG.sx RG.sx (fun μ w=>atT _ 0 _ _ i hi w),RG.cert_loadB rfl g (0+37*i) hg List.not_mem_nil 167 14 rfl (wn n++bl33 b) rfl RG.sx hri' uT hlen,RG.clB (fun _ _=>by kernel_rfl) (fun w' _=>hz w'),trivial⟩ ?_
   intro a23 w23 M23
   repeat refine wp_seq ?_
   refine wp_cond_false M23.ev ?_
   refine wp_skip ?_
   repeat refine wp_seq ?_
   refine M23.u [.x 18 [] (.int .i64 ((i+1:Nat):Int)),.x 8 [(18,0)] (.int .i64 ((i+1:Nat):Int))] [(0,.v (.slice (some ⟨g,0,none⟩) k c)),(1,.v (.func (.func 171) #[] #[])),(7,.v (.int .i64 k)),(8,.v (.int .i64 ((i+1:Nat):Int)))] ⟨RG.cert_binc rfl .add 3 3 8 (.int .i64 i) (.int .i64 1) (.int .i64 ((i+1:Nat):Int)) rfl rfl RG.sx (fun w=>by kernel_rfl) (addn i 1 (by omega) (by omega)),RG.st,trivial⟩ ?_
   intro a24 w24 M24
   show ∃ n',_
   exact ⟨m2,by omega,i+1,by omega,hf,M24⟩
 ·have hik:m'=0:=by omega
  rw[hik] at hf
  unfold firstZ at hf
  repeat refine wp_seq ?_
  refine M20.u (FIx_2 false) [(9,.v (.bool false))] ⟨RG.cert_bin rfl .lss 3 3 8 7 (.int .i64 i) (.int .i64 k) (.bool false) rfl rfl RG.sx RG.sx (fun w=>by kernel_rfl) (lssn_f hi),trivial⟩ ?_
  intro a21 w21 M21
  repeat refine wp_seq ?_
  refine wp_cond_false M21.ev ?_
  refine wp_exit ?_
  dsimp only[Exit.then,Exit.inBlock]
  rw[if_pos rfl]
  repeat refine wp_seq ?_
  refine M21.u [.x 4 [] (.int .i64 (-1))] [(4,.v (.int .i64 (-1)))] ⟨RG.st,trivial⟩ ?_
  intro a22 w22 M22
  refine wp_ret ?_
  refine bodyPost_ret (v:=.int .i64 (-1)) (RG.results_t 4 rfl (.int .i64 (-1)) M22.av) M22.sl.defers ?_
  exact ⟨_,rfl,M22.st.bel.below,by rw[← hf]⟩
theorem firstZ_none {ns:Nat→Nat}:∀ (m i:Nat),(∀ j,i≤j→j<i+m→ns j≠0)→firstZ ns i m = -1
 | 0,_,_=>rfl
 | m+1,i,h=>by
  unfold firstZ
  rw[if_neg (h i (Nat.le_refl _) (by omega))]
  exact firstZ_none m (i+1) (fun j h1 h2=>h j (by omega) (by omega))
theorem delete_none (g k c:Nat) (hk:k≤1000000) (ns:Nat→Nat) (az:Nat→Bs) (hn:∀ j,j<k→ns j<top) (hn0:∀ j,j<k→ns j≠0) (ha:∀ j,j<k→(az j).size=33) (w:World) (hg:g<w.heap.size) (hr:∀ j,j<k→w.rangeAt g (37*j) (wn (ns j)++bl33 (az j))) :
 Calls Tryz.prog 170 #[(.slice (some ⟨g,0,none⟩) k c),(.func (.func 171) #[] #[])] w (Ret fun e w'=>Below w.heap.size w w'∧e=(.slice (some ⟨g,0,none⟩) k c)):=by
 have hI:∀ w',RG.BelX w.heap.size [] w w'→Calls Tryz.prog 197 #[(.slice (some ⟨g,0,none⟩) k c),(.func (.func 171) #[] #[])] w' (Ret fun e w''=>Below w'.heap.size w' w''∧e=.int .i64 (-1)):=fun w' hb=>by
  have h:=index_c g k c hk ns az hn ha w' (Nat.lt_of_lt_of_le hg hb.below.size) (fun j hj=>RG.range_below (hr j hj) hb.below hg)
  rw[firstZ_none k 0 (fun j _ h2=>hn0 j (by omega))] at h
  exact h
 go_enter Tryz.func170,Tryz.ntmps170
 refine RG.M.enter [(0,.v (.slice (some ⟨g,0,none⟩) k c)),(1,.v (.func (.func 171) #[] #[]))] 42 (by kernel_rfl) ?_
 intro a0 M0
 repeat refine wp_seq ?_
 refine M0.u [.x 4 [] (.slice none 0 0)] [(0,.v (.slice (some ⟨g,0,none⟩) k c)),(1,.v (.func (.func 171) #[] #[]))] ⟨RG.st,trivial⟩ ?_
 intro a1 w1 M1
 repeat refine wp_seq ?_
 refine M1.u [.x 8 [] (.slice (some ⟨g,0,none⟩) k c),.x 9 [] (.func (.func 171) #[] #[]),.c 10 [(8,0),(9,1)] (.int .i64 (-1)),.x 5 [(10,2)] (.int .i64 (-1))] [(0,.v (.slice (some ⟨g,0,none⟩) k c)),(5,.v (.int .i64 (-1)))] ⟨RG.st,RG.st,RG.clB (fun _ _=>by kernel_rfl) hI,RG.st,trivial⟩ ?_
 intro a2 w2 M2
 repeat refine wp_seq ?_
 refine M2.u [.x 11 [] (.int .i64 (-1)),.x 12 [(11,0)] (.bool true)] [(0,.v (.slice (some ⟨g,0,none⟩) k c)),(12,.v (.bool true))] ⟨RG.st,RG.st,trivial⟩ ?_
 intro a3 w3 M3
 repeat refine wp_seq ?_
 refine wp_cond_true M3.ev ?_
 repeat refine wp_seq ?_
 refine M3.u [.x 13 [] (.slice (some ⟨g,0,none⟩) k c),.x 4 [(13,0)] (.slice (some ⟨g,0,none⟩) k c)] [(4,.v (.slice (some ⟨g,0,none⟩) k c))] ⟨RG.st,RG.st,trivial⟩ ?_
 intro a4 w4 M4
 refine wp_ret ?_
 refine bodyPost_ret (v:=(.slice (some ⟨g,0,none⟩) k c)) (RG.results_t 4 rfl _ M4.av) M4.sl.defers ?_
 exact ⟨_,rfl,M4.st.bel.below,rfl⟩
theorem undM:Tryz.prog.underlying 226=some (.map 54 3):=by kernel_rfl
theorem zero3 (w:World):(zeroValue 3).run Tryz.prog w=.ok (.int .i64 0) w:=by kernel_rfl
theorem ents_snoc (b:Bs):∀ (D:List Bs) (i:Nat),ents (D++[b]) i=ents D i++[{ key:=.agg (bl33 b).toArray,val:=.int .i64 ((i+D.length:Nat):Int),born:=i+D.length }]
 | [],i=>rfl
 | k :: r,i=>by
  rw[List.cons_append]
  unfold ents
  rw[ents_snoc b r (i+1),List.length_cons,show i+1+r.length=i+(r.length+1) by omega]
  rfl
theorem look_run {b:Bs} (hb:b.size=33) (D:List Bs) (hD:∀ k∈D,k.size=33) (m clock:Nat) (w:World) (hm:w.heap[m]? = some (.map (ents D 0).toArray clock)) :
 (Instr.lookup 226 (.map (some m)) (.agg (bl33 b).toArray) true).run Tryz.prog w=.ok (.tuple #[.int .i64 (((at? b D 0).getD 0:Nat):Int),.bool (at? b D 0).isSome]) w:=by
 have h1:=run_underlying undM w
 have h2:=fun e=>checkCP hb e w
 have h3:=key_run hb D hD w
 have h4:(getObj m).run Tryz.prog w=.ok (.map (ents D 0).toArray clock) w:=by
  simp[getObj,Sem.run,hm]
 unfold Instr.lookup
 simp only[Sem.run_bind,h1,Result.andThen_ok,h4,Sem.run_pure,h2,h3]
 cases h:at? b D 0 with
 | none=>simp[Sem.run_bind,zero3]
 | some j=>simp
theorem upd_run {b:Bs} (hb:b.size=33) (D:List Bs) (hD:∀ k∈D,k.size=33) (m:Nat) (w:World) (hm:w.heap[m]? = some (.map (ents D 0).toArray D.length)) (hn:at? b D 0=none) :
 (Instr.mapUpdate 226 (.map (some m)) (.agg (bl33 b).toArray) (.int .i64 (D.length:Int))).run Tryz.prog w=.ok () (w.putObj m (.map (ents (D++[b]) 0).toArray (D.length+1))):=by
 have h1:=run_underlying undM w
 have h2:=fun e=>checkCP hb e w
 have h3:=key_run hb D hD w
 rw[hn] at h3
 have h4:(getObj m).run Tryz.prog w=.ok (.map (ents D 0).toArray D.length) w:=by
  simp[getObj,Sem.run,hm]
 unfold Instr.mapUpdate
 simp only[Sem.run_bind,h1,Result.andThen_ok,h4,Sem.run_pure,h2,h3]
 rw[ents_snoc,Nat.zero_add]
 simp[setObj,Sem.run,hm,World.putObj]
theorem undS:Tryz.prog.underlying 106=some (.slice 167):=by kernel_rfl
theorem infoT:(Tryz.prog.info? 167).map (fun i=>(i.size,i.bytes,i.zero.map fun z=>z.cells.size))=some (37,72,some 37):=by kernel_rfl
theorem cells_one (n:Nat) (a:Bs):∀ u∈wn n++bl33 a,u.oneCell'=true:=by
 intro u hu
 rcases List.mem_append.1 hu with h|h
 ·unfold wn at h
  simp only[List.mem_cons,List.not_mem_nil,or_false] at h
  rcases h with rfl|rfl|rfl|rfl<;>rfl
 ·obtain ⟨x,-,rfl⟩:=List.mem_map.1 h
  rfl
theorem app_term {base k g n:Nat} {v:Value} {xs:List Value} {a:Bs} (ha:a.size=33) {W:World} (hown:W.ownsRow base 167 37 v k xs) (hR:Row W g (wn n++bl33 a)) (hk:k≤1000000) (hb:base≤W.heap.size) :
 ∃ v' W',(Builtin.append_ #[106,106] 106 #[v,.slice (some ⟨g,0,none⟩) 1 1]).run Tryz.prog W=.ok v' W'∧W'.ownsRow base 167 37 v' (k+1) (xs++(wn n++bl33 a))∧W.grownBy W' v.ownBlock:=by
 obtain ⟨i,hi,he⟩:=Option.map_eq_some_iff.1 infoT
 simp only[Prod.mk.injEq] at he
 obtain ⟨h1,h2,h3⟩:=he
 obtain ⟨z,hz,hz2⟩:=Option.map_eq_some_iff.1 h3
 obtain ⟨v',W',r1,r2,r3,-⟩:=run_append_own (P:=Tryz.prog) W base 106 106 167 i z 37 72 undS hi hz h1 h2 hz2 (by decide) v k xs hown ⟨g,0,none⟩ 1 1 (wn n++bl33 a) (by rw[List.length_append,bl33_length ha];rfl)
  (fun j u hj=>by
   have:=hR.2.1 j u hj
   rw[Nat.zero_add] at this
   rw[show (⟨g,0,none⟩:Addr).add j=⟨g,j,none⟩ by unfold Addr.add;split<;>simp_all]
   exact this) (cells_one n a) (by unfold maxLen;omega) (by omega) hb
 exact ⟨v',W',r1,r2,r3⟩
def addT (N:Nat):List (Nat × Bs)→Nat→Bs→List (Nat × Bs)
 | [],n,p=>[(n,p)]
 | (s,q) :: r,n,p=>if p=q then (sPl N s n,q) :: r else (s,q) :: addT N r n p
def mrg (N:Nat) (ns:Nat→Nat) (az:Nat→Bs):Nat→List (Nat × Bs)
 | 0=>[]
 | i+1=>addT N (mrg N ns az i) (ns i) (az i)
def cellsT (l:List (Nat × Bs)):List Value:=l.flatMap fun x=>wn x.1++bl33 x.2
theorem addT_new {N n:Nat} {p:Bs}:∀ {l:List (Nat × Bs)},at? p (l.map (·.2)) 0=none→addT N l n p=l++[(n,p)]
 | [],_=>rfl
 | (s,q) :: r,h=>by
  have h2:=at?_none.1 h
  rw[List.map_cons,List.mem_cons,not_or] at h2
  unfold addT
  rw[if_neg h2.1,addT_new (l:=r) (at?_none.2 h2.2)]
  rfl
theorem cellsT_snoc (l:List (Nat × Bs)) (n:Nat) (p:Bs):cellsT (l++[(n,p)])=cellsT l++(wn n++bl33 p):=by
 unfold cellsT
 rw[List.flatMap_append]
 simp
structure Mx (w W:World) (m:Nat) (l:List (Nat × Bs)) (v:Value):Prop where
 bl:Below w.heap.size w W
 mp:W.heap[m]? = some (.map (ents (l.map (·.2)) 0).toArray l.length)
 lm:w.heap.size≤m
 ow:W.ownsRow w.heap.size 167 37 v l.length (cellsT l)
theorem Mx.own_ne {w W:World} {m:Nat} {l:List (Nat × Bs)} {v:Value} (h:Mx w W m l v) {g:Nat} (hg:v.ownBlock=some g):g≠m∧w.heap.size≤g∧g<W.heap.size:=by
 rcases h.ow.2 with ⟨rfl,-⟩|⟨g',cap,cur,rfl,h1,h2,-⟩
 ·cases hg
 ·obtain rfl:g'=g:=by simpa[Value.ownBlock] using hg
  refine ⟨fun e=>?_,h1,(Array.getElem?_eq_some_iff.1 h2).1⟩
  have:=h.mp
  rw[← e,h2] at this
  cases this
theorem owns_kept {W W':World} {base k:Nat} {e:TypeId} {s:Nat} {v:Value} {xs:List Value} (h:W.ownsRow base e s v k xs) (hk:∀ g,v.ownBlock=some g→W'.heap[g]? = W.heap[g]?):W'.ownsRow base e s v k xs:=by
 refine ⟨h.1,?_⟩
 rcases h.2 with h2|⟨g,cap,cur,rfl,h1,h2,h3⟩
 ·exact Or.inl h2
 ·exact Or.inr ⟨g,cap,cur,rfl,h1,by rw[hk g rfl];exact h2,h3⟩
theorem Mx.kept {w W W':World} {m:Nat} {l:List (Nat × Bs)} {v:Value} (h:Mx w W m l v) (hb:Below W.heap.size W W'):Mx w W' m l v:=
 ⟨h.bl.trans (hb.mono h.bl.size),by rw[hb.block m (Array.getElem?_eq_some_iff.1 h.mp).1];exact h.mp,h.lm,owns_kept h.ow fun g hg=>hb.block g (h.own_ne hg).2.2⟩
theorem ents_map (l:List (Nat × Bs)) (n:Nat) (p:Bs):(l++[(n,p)]).map (·.2)=l.map (·.2)++[p]:=by simp
theorem Mx.push {w W:World} {m:Nat} {l:List (Nat × Bs)} {v:Value} (h:Mx w W m l v) {p:Bs} (hp:p.size=33) (hk:l.length≤1000000) (n:Nat) :
 ∃ v' W5,(Builtin.append_ #[106,106] 106 #[v,.slice (some ⟨W.heap.size,0,none⟩) 1 1]).run Tryz.prog ((W.putObj m (.map (ents (l.map (·.2)++[p]) 0).toArray (l.length+1))).alloc (.cells (wn n++bl33 p).toArray 167))=.ok v' W5∧Mx w W5 m (l++[(n,p)]) v'∧W.heap.size<W5.heap.size∧∀ j,j<W.heap.size→w.heap.size≤j→j≠m→some j≠v.ownBlock→W5.heap[j]? = W.heap[j]?:=by
 obtain ⟨W3,h3⟩:∃ W3,W.putObj m (.map (ents (l.map (·.2)++[p]) 0).toArray (l.length+1))=W3:=⟨_,rfl⟩
 have s3:W3.heap.size=W.heap.size:=by rw[← h3];simp[World.putObj]
 have hmW:m<W.heap.size:=(Array.getElem?_eq_some_iff.1 h.mp).1
 have o3:∀ j,j≠m→W3.heap[j]? = W.heap[j]?:=fun j hj=>by rw[← h3];exact World.putObj_heap_other hj
 have b3:Below w.heap.size w W3:=h.bl.trans ⟨by rw[← h3];rfl,by rw[← h3];rfl,by rw[← h3];rfl,by omega,fun j hj=>o3 j (by have:=h.lm;omega)⟩
 have w3:W3.ownsRow w.heap.size 167 37 v l.length (cellsT l):=owns_kept h.ow fun g hg=>o3 g (h.own_ne hg).1
 have m3:W3.heap[m]? = some (.map (ents (l.map (·.2)++[p]) 0).toArray (l.length+1)):=by rw[← h3];exact World.putObj_heap_same hmW
 rw[h3]
 have R4:=row_new W3 (wn n++bl33 p) 167
 have b4:=below1 W3 (.cells (wn n++bl33 p).toArray 167)
 have s4:(W3.alloc (.cells (wn n++bl33 p).toArray 167)).heap.size=W.heap.size+1:=by rw[World.size_alloc,s3]
 generalize W3.alloc (.cells (wn n++bl33 p).toArray 167)=W4 at R4 b4 s4 ⊢
 have w4:W4.ownsRow w.heap.size 167 37 v l.length (cellsT l):=owns_kept w3 fun g hg=>b4.block g (by have:=(h.own_ne hg).2.2;omega)
 rw[s3] at R4
 obtain ⟨v',W5,r1,r2,r3⟩:=app_term hp w4 R4 hk (by have:=b3.size;omega)
 have hm5:some m≠v.ownBlock:=fun e=>(h.own_ne e.symm).1 rfl
 refine ⟨v',W5,r1,⟨?_,?_,h.lm,?_⟩,by have:=r3.size;omega,fun j hj _ hjm hjo=>?_⟩
 ·exact (b3.trans (b4.mono b3.size)).grown r3 (by have:=b3.size;omega) (fun k e=>(h.own_ne e).2.1)
 ·rw[r3.block m (by omega) hm5,b4.block m (by omega),m3,ents_map,List.length_append]
  rfl
 ·rw[cellsT_snoc,List.length_append]
  exact r2
 ·rw[r3.block j (by omega) hjo,b4.block j (by omega),o3 j hjm]
end
section
open Go.RowKit Go.Sort Go.Deep
variable {N:Nat}
section
variable {P:Program} {ops:Array Oper} {rest:List Oper} {op:Oper} {a:Act} {w w':World} {v x y z:Value} {Q:Exit→Act→World→Prop}
theorem wpList_lk (hgd:op.guard=none) (T:TypeId) (m k:Operand) (ok:Bool) (ho:op.op=.lookup T m k ok) (hm:a.eval m=x) (hk:a.eval k=y) (hr:(Instr.lookup T x y ok).run P w=.ok v w') (h:wpList P ops Q rest (a.put op.dst v) w'):wpList P ops Q (op :: rest) a w:=
 wpList_plain hgd fun K hK=>by
  unfold Oper.wp execOp
  simp only[ho,hm,hk,Sem.run_bind,hr,Result.andThen_ok,Sem.run_pure]
  exact hK _ _ h
theorem wpList_mu (hgd:op.guard=none) (T:TypeId) (m k u:Operand) (ho:op.op=.mapUpdate T m k u) (hm:a.eval m=x) (hk:a.eval k=y) (hu:a.eval u=z) (hr:(Instr.mapUpdate T x y z).run P w=.ok () w') (h:wpList P ops Q rest (a.put op.dst undef) w'):wpList P ops Q (op :: rest) a w:=
 wpList_plain hgd fun K hK=>by
  unfold Oper.wp execOp
  simp only[ho,hm,hk,hu,Sem.run_bind,hr,Result.andThen_ok,Sem.run_pure]
  exact hK _ _ h
theorem wpList_app (hgd:op.guard=none) (s u:Operand) (t:TypeId) (ho:op.op=.call { callee:=.builtin .append,args:=#[s,u],argTypes:=#[t,t] }) (hs:a.eval s=x) (hu:a.eval u=y) (hr:(Builtin.append_ #[t,t] op.type #[x,y]).run P w=.ok v w') (h:wpList P ops Q rest (a.put op.dst v) w'):wpList P ops Q (op :: rest) a w:=
 wpList_plain hgd fun K hK=>by
  unfold Oper.wp execOp
  simp only[ho,resolve,invoke,builtin,Sem.run_bind,Sem.run_pure,Result.andThen_ok,List.map_toArray,List.map_cons,List.map_nil,hs,hu,hr]
  exact hK _ _ h
end
def zT:List Value:=[.int .u64 0,.int .u64 0,.int .u64 0,.int .u64 0]++z33
theorem owns_form {W:World} {base k:Nat} {e:TypeId} {s:Nat} {v:Value} {xs:List Value} (h:W.ownsRow base e s v k xs):∃ q cap,v=.slice q k cap:=by
 rcases h.2 with ⟨rfl,rfl⟩|⟨g,cap,cur,rfl,-⟩
 ·exact ⟨none,0,rfl⟩
 ·exact ⟨some ⟨g,0,none⟩,cap,rfl⟩
theorem mrg_len (ns:Nat→Nat) (az:Nat→Bs):∀ i,(mrg N ns az i).length≤i
 | 0=>Nat.le_refl _
 | i+1=>by
  have ih:=mrg_len ns az i
  have h:∀ (l:List (Nat × Bs)) n p,(addT N l n p).length≤l.length+1:=by
   intro l n p
   induction l with
   | nil=>exact Nat.le_refl _
   | cons x r ihr =>
    unfold addT
    split
    ·simp
    ·simp only[List.length_cons];omega
  exact Nat.le_trans (h _ _ _) (by omega)
theorem mrg_size (ns:Nat→Nat) (az:Nat→Bs) {k:Nat} (ha:∀ j,j<k→(az j).size=33):∀ i,i≤k→∀ x∈(mrg N ns az i).map (·.2),x.size=33
 | 0,_=>fun x hx=>by cases hx
 | i+1,hi=>by
  have ih:=mrg_size ns az ha i (by omega)
  have h:∀ (l:List (Nat × Bs)) n p,p.size=33→(∀ x∈l.map (·.2),x.size=33)→∀ x∈(addT N l n p).map (·.2),x.size=33:=by
   intro l n p hp
   induction l with
   | nil=>intro _ x hx;simp[addT] at hx;rw[hx];exact hp
   | cons y r ihr =>
    intro hl x hx
    unfold addT at hx
    split at hx
    ·exact hl x (by simpa using hx)
    ·rw[List.map_cons,List.mem_cons] at hx
     rcases hx with hx|hx
     ·exact hl x (by rw[hx];simp)
     ·exact ihr (fun z hz=>hl z (List.mem_cons_of_mem _ hz)) x hx
  exact h _ _ _ (ha i (by omega)) ih
theorem cellsT_at:∀ (l:List (Nat × Bs)),(∀ x∈l.map (·.2),x.size=33)→∀ (j:Nat) (hj:j<l.length) (t:Nat),t<37→(cellsT l)[37*j+t]? = (wn (l[j]).1++bl33 (l[j]).2)[t]?
 | [],_,j,hj,_,_=>by cases hj
 | x :: r,hs,j,hj,t,ht=>by
  have hx:(wn x.1++bl33 x.2).length=37:=by rw[List.length_append,bl33_length (hs x.2 (by simp))];rfl
  have e:cellsT (x :: r)=(wn x.1++bl33 x.2)++cellsT r:=by unfold cellsT;rw[List.flatMap_cons]
  rw[e]
  cases j with
  | zero =>
   rw[Nat.mul_zero,Nat.zero_add,List.getElem?_append_left (by omega)]
   rfl
  | succ j =>
   rw[List.getElem?_append_right (by omega),hx,show 37*(j+1)+t-37=37*j+t by omega,cellsT_at r (fun y hy=>hs y (List.mem_cons_of_mem _ hy)) j (by simpa using hj) t ht]
   rfl
theorem owns_rows {W:World} {base:Nat} {v:Value} {l:List (Nat × Bs)} (h:W.ownsRow base 167 37 v l.length (cellsT l)) (hs:∀ x∈l.map (·.2),x.size=33) (hl:0<l.length) :
 ∃ g cap,v=.slice (some ⟨g,0,none⟩) l.length cap∧base≤g∧g<W.heap.size∧∀ j (hj:j<l.length),W.rangeAt g (37*j) (wn (l[j]).1++bl33 (l[j]).2):=by
 have h0:=h
 rcases h.2 with ⟨-,h2⟩|⟨g,cap,cur,rfl,h1,h2,h3⟩
 ·omega
 ·refine ⟨g,cap,rfl,h1,(Array.getElem?_eq_some_iff.1 h2).1,fun j hj t u hu=>?_⟩
  have ht:t<37:=by
   have:=(List.getElem?_eq_some_iff.1 hu).1
   rw[List.length_append,bl33_length (hs _ (List.mem_map.2 ⟨_,List.getElem_mem hj,rfl⟩))] at this
   exact this
  have hc:=h0.cells (g:=g) rfl (37*j+t) u (by rw[cellsT_at l hs j hj t ht];exact hu)
  have e:(⟨g,0,none⟩:Addr).add (37*j+t)=⟨g,37*j+t,none⟩:=by
   unfold Addr.add
   split
   ·rename_i h;rw[h]
   ·simp
  rw[e] at hc
  exact hc
theorem merged_g (R:Value→World→Prop) (g k c:Nat) (hk:k≤1000) (ns:Nat→Nat) (az:Nat→Bs) (ha:∀ j,j<k→(az j).size=33) (hd:∀ i,i<k→at? (az i) ((mrg N ns az i).map (·.2)) 0=none) (w:World) (hg:g<w.heap.size) (hr:∀ j,j<k→w.rangeAt g (37*j) (wn (ns j)++bl33 (az j)))
 (hdel:∀ W v,Mx w W w.heap.size (mrg N ns az k) v→Calls Tryz.prog 170 #[v,.func (.func 171) #[] #[]] W (Ret R)) :
 Calls Tryz.prog 124 #[.slice (some ⟨g,0,none⟩) k c] w (Ret R):=by
 have HDEL:=Hid.mk' hdel
 clear hdel
 have hmm:(Instr.makeMap 226 none).run Tryz.prog w=.ok (.map (some w.heap.size)) (w.alloc (.map #[] 0)):=by kernel_rfl
 obtain ⟨w1,hw1⟩:∃ w1,Hid (w.alloc (.map #[] 0)=w1):=⟨_,rfl⟩
 rw[hw1.out] at hmm
 have M1:Hid (Mx w w1 w.heap.size (mrg N ns az 0) (.slice none 0 0)):=by
  rw[← hw1.out]
  exact ⟨below1 w _,by show (w.heap.push (.map #[] 0))[w.heap.size]? = _;rw[Array.getElem?_push_size];rfl,Nat.le_refl _,rfl,Or.inl ⟨rfl,rfl⟩⟩
 have HH:Hid (True∧(∀ j,j<k→(az j).size=33)∧(∀ i,i<k→at? (az i) ((mrg N ns az i).map (·.2)) 0=none)∧g<w.heap.size∧∀ j,j<k→w.rangeAt g (37*j) (wn (ns j)++bl33 (az j))):=⟨trivial,ha,hd,hg,hr⟩
 obtain ⟨d,hd1,hd2⟩:=Option.map_eq_some_iff.1 uCP
 obtain ⟨d',hd3,hd4⟩:=Option.map_eq_some_iff.1 uT
 have HD:Hid ((Tryz.prog.underlying 54=some d∧d.isRow=true)∧Tryz.prog.underlying 167=some d'∧d'.isRow=true):=⟨⟨hd1,hd2⟩,hd3,hd4⟩
 clear hd1 hd2 hd3 hd4 hw1 ha hd hg hr
 go_enter Tryz.func124,Tryz.ntmps124
 go_wp2
 clear hmm
 go_loopg [4,12] k (fun q s4 s12 W=>∃ i:Nat,i+q=k∧s12=.int .i64 i∧Hid (Mx w W w.heap.size (mrg N ns az i) s4))
 case atStart=>exact ⟨0,by omega,rfl,M1⟩
 case round =>
  clear M1
  obtain ⟨i,hik,rfl,KM⟩:=hrel
  by_cases hi:i<k
  ·have hi':(i:Int)<(k:Int):=by omega
   obtain ⟨n,hne⟩:∃ n,Hid (ns i=n):=⟨_,rfl⟩
   obtain ⟨p,hpe⟩:∃ p,Hid (az i=p):=⟨_,rfl⟩
   obtain ⟨l,hl⟩:∃ l,Hid (mrg N ns az i=l):=⟨_,rfl⟩
   rw[hl.out] at KM
   have hps:Hid (p.size=33):=by have:=HH.out.2.1 i hi;rw[hpe.out] at this;exact this
   have hll:Hid (l.length≤i):=by have:=mrg_len (N:=N) ns az i;rw[hl.out] at this;exact this
   obtain ⟨q,cap,rfl⟩:=owns_form KM.out.ow
   obtain ⟨W1,hW1⟩:∃ W1,Hid (wr.alloc (.cells zT.toArray 167)=W1):=⟨_,rfl⟩
   obtain ⟨W2,hW2⟩:∃ W2,Hid (W1.setCells wr.heap.size 0 (wn n++bl33 p)=W2):=⟨_,rfl⟩
   have hlen:(wn n++bl33 p).length=37:=by rw[List.length_append,bl33_length hps.out];rfl
   have F1:Hid (Row W1 wr.heap.size zT∧Below wr.heap.size wr W1∧W1.heap.size=wr.heap.size+1):=by rw[← hW1.out];exact ⟨row_new wr _ _,below1 wr _,World.size_alloc _ _⟩
   have F2:Hid (Row W2 wr.heap.size (wn n++bl33 p)∧Below wr.heap.size wr W2∧W2.heap.size=wr.heap.size+1):=by rw[← hW2.out];exact ⟨F1.out.1.put (by rw[hlen];rfl),RG.below_setCells (Nat.le_refl _) _ _ _ F1.out.2.1,by rw[RG.setCells_size];exact F1.out.2.2⟩
   have K2:Hid (Mx w W2 w.heap.size l (.slice q l.length cap)):=KM.out.kept F2.out.2.1
   have hnone:Hid (at? p (l.map (·.2)) 0=none):=by have:=HH.out.2.2.1 i hi;rw[hpe.out,hl.out] at this;exact this
   have hsz:∀ x∈l.map (·.2),x.size=33:=by have:=mrg_size (N:=N) ns az HH.out.2.1 i (by omega);rw[hl.out] at this;exact this
   have B1:=Hid.mk' (look_run hps.out (l.map (·.2)) hsz w.heap.size l.length W2 K2.out.mp)
   rw[hnone.out] at B1
   have B2:Hid ((Instr.mapUpdate 226 (.map (some w.heap.size)) (.agg (bl33 p).toArray) (.int .i64 (l.length:Int))).run Tryz.prog W2=.ok () (W2.putObj w.heap.size (.map (ents (l.map (·.2)++[p]) 0).toArray (l.length+1)))):=by
    have h:=upd_run hps.out (l.map (·.2)) hsz w.heap.size W2 (by rw[List.length_map];exact K2.out.mp) hnone.out
    rw[List.length_map] at h
    exact h
   obtain ⟨v',W5,happ,K5,lt5,-⟩:=K2.out.push hps.out (by have:=hll.out;omega) n
   obtain ⟨W3,hW3⟩:∃ W3,Hid (W2.putObj w.heap.size (.map (ents (l.map (·.2)++[p]) 0).toArray (l.length+1))=W3):=⟨_,rfl⟩
   have F3:Hid (Row W3 wr.heap.size (wn n++bl33 p)∧W3.heap.size=wr.heap.size+1):=by rw[← hW3.out];exact ⟨F2.out.1.putObj K2.out.mp rfl _,by simp[World.putObj];exact F2.out.2.2⟩
   have B3:=Hid.mk' (bslT hps.out n W3)
   obtain ⟨W4,hW4⟩:∃ W4,Hid (W3.alloc (.cells (wn n++bl33 p).toArray 167)=W4):=⟨_,rfl⟩
   rw[hW3.out] at B2 happ
   rw[hW4.out] at B3 happ
   rw[F3.out.2] at B3
   rw[F2.out.2.2] at happ
   have K5':Hid (Mx w W5 w.heap.size (mrg N ns az (i+1)) v'):=by
    have e:mrg N ns az (i+1)=l++[(n,p)]:=by
     show addT N (mrg N ns az i) (ns i) (az i)=_
     rw[hl.out,hne.out,hpe.out]
     exact addT_new hnone.out
    rw[e];exact K5
   have B0:Hid (wr.rangeAt g (37*i) (wn n++bl33 p)):=by
    have h:=RG.range_below (HH.out.2.2.2.2 i hi) KM.out.bl HH.out.2.2.2.1
    rw[hne.out,hpe.out] at h
    exact h
   have HLT:Hid ((Tryz.prog.info? 167).map (·.size)=some (wn n++bl33 p).length):=by show _=_;rw[hlen];exact iT
   have HLS:Hid ((Tryz.prog.info? 167).map (·.size)=some (wn n++bl33 p).toArray.size∧W1.there wr.heap.size 0 (wn n++bl33 p).toArray.size):=by
    have e:(wn n++bl33 p).toArray.size=37:=by rw[List.size_toArray];exact hlen
    rw[e];exact ⟨iT,F1.out.1.2.2⟩
   have HLP:Hid ((Tryz.prog.info? 54).map (·.size)=some (bl33 p).length):=by show _=_;rw[bl33_length hps.out];exact infoCP
   have HB:Hid (W2.rangeAt wr.heap.size 4 (bl33 p)):=range_back (xs:=wn n) F2.out.1.2.1
   have HAL:Hid ((wn n++bl33 p).toArray.all (·.oneCell')=true):=by
    show _=_
    rw[Array.all_eq_true']
    intro u hu
    exact cells_one n p u (List.mem_toArray.1 hu)
   have hix:=atT g 0 k c i hi
   have HAP:=Hid.mk' happ
   clear happ
   obtain ⟨vt,hvt⟩:∃ v,Hid (Value.agg (wn n++bl33 p).toArray=v):=⟨_,rfl⟩
   obtain ⟨vp,hvp⟩:∃ v,Hid (Value.agg (bl33 p).toArray=v):=⟨_,rfl⟩
   rw[hvp.out] at B1 B2
   rw[hvt.out] at B3
   clear hlen hsz K5 lt5 hW4 hW3 K2 KM
   go_wp2_with (first|(refine wpList_load_mid rfl 167 _ rfl g (37*i) ?_ (wn n++bl33 p) d' ?_ ?_ ?_ ?_ ?_;rfl;exact B0.out;exact HD.out.2.1;exact HD.out.2.2;exact HLT.out;rw[hvt.out])|(refine wpList_op (v:=.pointer (some ⟨wr.heap.size,0,none⟩)) (w':=W1) rfl (.alloc 167) rfl ?_ ?_;(rw[← hW1.out];kernel_rfl))|(refine wpList_store_mid rfl 167 _ _ rfl wr.heap.size 0 (wn n++bl33 p).toArray ?_ ?_ ?_ ?_ ?_ ?_;rfl;exact hvt.out.symm;exact HLS.out.2;exact HLS.out.1;exact HAL.out;rw[show (wn n++bl33 p).toArray.toList=wn n++bl33 p from rfl,hW2.out])|(refine wpList_load_mid rfl 54 _ rfl wr.heap.size 4 ?_ (bl33 p) d ?_ ?_ ?_ ?_ ?_;rfl;exact HB.out;exact HD.out.1.1;exact HD.out.1.2;exact HLP.out;rw[hvp.out])|(refine wpList_lk (x:=.map (some w.heap.size)) (y:=vp) (w':=W2) rfl 226 _ _ true rfl ?_ ?_ B1.out ?_;rfl;rfl)|(refine wpList_mu (x:=.map (some w.heap.size)) (y:=vp) (z:=.int .i64 (l.length:Int)) (w':=W3) rfl 226 _ _ _ rfl ?_ ?_ ?_ B2.out ?_;rfl;rfl;rfl)|(refine wpList_load_mid rfl 167 _ rfl wr.heap.size 0 ?_ (wn n++bl33 p) d' ?_ ?_ ?_ ?_ ?_;rfl;exact F3.out.1.2.1;exact HD.out.2.1;exact HD.out.2.2;exact HLT.out;rw[hvt.out])|(refine wpList_bsl (v:=.slice (some ⟨wr.heap.size+1,0,none⟩) 1 1) (w':=W4) rfl 106 1 _ rfl #[(0,vt)] ?_ B3.out ?_;kernel_rfl)|(refine wpList_app (x:=.slice q l.length cap) (y:=.slice (some ⟨wr.heap.size+1,0,none⟩) 1 1) (v:=v') (w':=W5) rfl _ _ 106 rfl ?_ ?_ ?_ ?_;rfl;rfl;exact HAP.out))
   go_roundg (gk-1)
   case measure=>omega
   case rel=>exact ⟨i+1,by omega,rfl,K5'⟩
  ·have hi':¬ (i:Int)<(k:Int):=by omega
   obtain rfl:i=k:=by omega
   go_wp2_with fail
   refine (HDEL.out wr _ KM.out).mono ?_
   rintro e w9 ⟨vv,rfl,hR9⟩
   have HR9:=Hid.mk' hR9
   clear hR9 HDEL
   go_wp2
   go_ret
   exact ⟨_,rfl,HR9.out⟩
theorem merged_d (g k c:Nat) (hk:k≤1000) (ns:Nat→Nat) (az:Nat→Bs) (ha:∀ j,j<k→(az j).size=33) (hd:∀ i,i<k→at? (az i) ((mrg N ns az i).map (·.2)) 0=none) (hz:∀ x∈mrg N ns az k,x.1≠0∧x.1<top) (hk0:0<(mrg N ns az k).length) (w:World) (hg:g<w.heap.size) (hr:∀ j,j<k→w.rangeAt g (37*j) (wn (ns j)++bl33 (az j))) :
 Calls Tryz.prog 124 #[.slice (some ⟨g,0,none⟩) k c] w (Ret fun e w'=>Below w.heap.size w w'∧∃ g' cap,e=.slice (some ⟨g',0,none⟩) (mrg N ns az k).length cap∧w.heap.size≤g'∧g'<w'.heap.size∧∀ j (hj:j<(mrg N ns az k).length),w'.rangeAt g' (37*j) (wn ((mrg N ns az k)[j]).1++bl33 ((mrg N ns az k)[j]).2)):=by
 refine merged_g _ g k c hk ns az ha hd w hg hr fun W v hM=>?_
 have hms:=mrg_size (N:=N) ns az ha k (Nat.le_refl _)
 have hml:=mrg_len (N:=N) ns az k
 generalize mrg N ns az k=l at hM hms hml hz hk0 ⊢
 obtain ⟨g',cap,rfl,h1,h2,h3⟩:=owns_rows hM.ow hms hk0
 refine (delete_none g' l.length cap (by omega) (fun j=>((l[j]?).getD (0,#[])).1) (fun j=>((l[j]?).getD (0,#[])).2) (fun j hj=>by rw[List.getElem?_eq_getElem hj];exact (hz _ (List.getElem_mem hj)).2) (fun j hj=>by rw[List.getElem?_eq_getElem hj];exact (hz _ (List.getElem_mem hj)).1) (fun j hj=>by rw[List.getElem?_eq_getElem hj];exact hms _ (List.mem_map.2 ⟨_,List.getElem_mem hj,rfl⟩)) W h2 (fun j hj=>by rw[List.getElem?_eq_getElem hj];exact h3 j hj)).mono ?_
 rintro e w9 ⟨vv,rfl,hb9,rfl⟩
 exact ⟨_,rfl,hM.bl.trans (hb9.mono hM.bl.size),g',cap,rfl,h1,Nat.lt_of_lt_of_le h2 hb9.size,fun j hj=>RG.range_below (h3 j hj) hb9 h2⟩
end
section
open Go.RowKit Go.Sort Go.Deep
variable {P:Nat} [NeZero P] {N:Nat}
theorem zeroTm (w:World):(zeroValue 167).run Tryz.prog w=.ok (.agg zT.toArray) w:=by kernel_rfl
theorem zeroTc:(Builtin.zeroCells (Value.agg zT.toArray).cells 1).toList=zT:=by kernel_rfl
theorem zT_one:∀ v∈zT,v.oneCell'=true:=by
 intro v hv
 unfold zT z33 at hv
 rcases List.mem_append.1 hv with h|h
 ·simp only[List.mem_cons,List.not_mem_nil,or_false] at h
  rcases h with rfl|rfl|rfl|rfl<;>rfl
 ·rw[(List.mem_replicate.1 h).2];rfl
theorem zT_len:zT.length=37:=by kernel_rfl
theorem clearT (g c:Nat) (ty:TypeId) (w:World) (h:w.there g 0 37):(Builtin.clear_ #[106] ty #[.slice (some ⟨g,0,none⟩) 1 c]).run Tryz.prog w=.ok (.tuple #[]) (w.setCells g 0 zT):=by
 have h1:=zeroTm w
 have h2:=zeroTc
 have h3:=run_underlying undS w
 have h4:(storeCells ⟨g,0,none⟩ zT).run Tryz.prog w=.ok () (w.setCells g 0 zT):=by
  have h5:=run_storeCells_cells (P:=Tryz.prog) g 0 zT 0 w (fun j hj=>by rw[zT_len] at hj;have:=(h j hj).1;simpa using this) (fun j hj=>by rw[zT_len] at hj;have:=(h j hj).2;simpa using this) zT_one
  exact h5
 generalize zT=Z at h1 h2 h4 ⊢
 unfold Builtin.clear_
 simp[Sem.run_bind,h3,h1,h2,h4]
theorem delete_zero (g c:Nat) (a:Bs) (ha:a.size=33) (w:World) (hR:Row w g (wn 0++bl33 a)) (hc:1≤c) :
 Calls Tryz.prog 170 #[.slice (some ⟨g,0,none⟩) 1 c,.func (.func 171) #[] #[]] w (Ret fun e w'=>(∀ j,j<w.heap.size→j≠g→w'.heap[j]? = w.heap[j]?)∧w.heap.size≤w'.heap.size∧Below g w w'∧e=.slice (some ⟨g,0,none⟩) 0 c):=by
 have hI:=index_c g 1 c (by decide) (fun _=>0) (fun _=>a) (fun _ _=>by show 0<top;unfold top;omega) (fun _ _=>ha) w hR.1 (fun j hj=>by
  obtain rfl:j=0:=by omega
  exact hR.2.1)
 have hf:firstZ (fun _=>0) 0 1=0:=rfl
 rw[hf] at hI
 have HI:=Hid.mk' hI
 have hlen:(wn 0++bl33 a).length=37:=by rw[List.length_append,bl33_length ha];rfl
 have HR:=Hid.mk' hR
 have hth:Hid (w.there g 0 37):=by have:=hR.2.2;rw[hlen] at this;exact this
 clear hI hf hR hlen
 have hc1:(1:Int)≤(c:Int):=by omega
 have hc0:(0:Int)≤(c:Int):=by omega
 go_enter Tryz.func170,Tryz.ntmps170
 go_wp2_with fail
 refine HI.out.mono ?_
 rintro e w1 ⟨v,rfl,hb1,rfl⟩
 have K1:Hid (Below w.heap.size w w1∧Row w1 g (wn 0++bl33 a)):=⟨hb1,HR.out.below hb1⟩
 have hcl:∀ ty,(Builtin.clear_ #[106] ty #[.slice (some ⟨g,0,none⟩) 1 c]).run Tryz.prog w1=.ok (.tuple #[]) (w1.setCells g 0 zT):=fun ty=>clearT g c ty w1 (by
  have:=K1.out.2.2.2
  rw[List.length_append,bl33_length ha] at this
  exact this)
 clear hb1 HI
 go_wp2
 refine wp_loop_once ?_
 go_wp2
 go_ret
 refine ⟨_,rfl,fun j hj hne=>?_,by rw[RG.setCells_size];exact K1.out.1.size,RG.below_setCells (Nat.le_refl _) _ _ _ (K1.out.1.mono (Nat.le_of_lt HR.out.1)),rfl⟩
 rw[RG.setCells_other _ _ _ _ _ hne]
 exact K1.out.1.block j hj
theorem merged_0 (g c:Nat) (a:Bs) (ha:a.size=33) (w:World) (hg:g<w.heap.size) (hr:w.rangeAt g 0 (wn 0++bl33 a)) :
 Calls Tryz.prog 124 #[.slice (some ⟨g,0,none⟩) 1 c] w (Ret fun e w'=>Below w.heap.size w w'∧∃ q cap,e=.slice q 0 cap):=by
 refine merged_g (N:=2) _ g 1 c (by decide) (fun _=>0) (fun _=>a) (fun _ _=>ha) (fun i hi=>by
  obtain rfl:i=0:=by omega
  rfl) w hg (fun j hj=>by
  obtain rfl:j=0:=by omega
  exact hr) fun W v hM=>?_
 have e1:mrg 2 (fun _=>0) (fun _=>a) 1=[(0,a)]:=rfl
 rw[e1] at hM
 obtain ⟨g',cap,rfl,h1,h2,h3⟩:=owns_rows hM.ow (fun x hx=>by simp at hx;rw[hx];exact ha) (Nat.lt_succ_self 0)
 have h0:=h3 0 (Nat.lt_succ_self 0)
 have hth:W.there g' 0 37:=by
  rcases hM.ow.2 with ⟨h,-⟩|⟨g2,cap2,cur,he,-,hc,hn,-,hs,-⟩
  ·cases h
  ·injection he with he1 he2 he3
   injection he1 with he1
   injection he1 with he1
   subst he1
   intro j hj
   have hj2:0+j<cur.size:=by
    rw[hs]
    have:1≤cap2:=hn
    omega
   refine ⟨?_,?_⟩
   ·simp[World.cell?,hc,hj2]
    omega
   ·simp[World.frozen?,hc]
 have hR:Row W g' (wn 0++bl33 a):=⟨h2,h0,by rw[List.length_append,bl33_length ha];exact hth⟩
 refine (delete_zero g' cap a ha W hR ?_).mono ?_
 ·rcases hM.ow.2 with ⟨h,-⟩|⟨g2,cap2,cur,he,-,hc,hn,-,hs,-⟩
  ·cases h
  ·injection he with he1 he2 he3
   rw[he3];exact hn
 ·rintro e w9 ⟨vv,rfl,hk9,hs9,hb9,rfl⟩
  exact ⟨_,rfl,hM.bl.trans (hb9.mono h1),_,_,rfl⟩
end
end Go.Proofs.YtglhhepedoffeaaGreat
