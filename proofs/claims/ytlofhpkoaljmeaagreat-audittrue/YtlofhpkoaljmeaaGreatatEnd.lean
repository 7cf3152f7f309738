import Derived.Lib.LazyBuf
import Derived.ChangeOld
import Derived.Below
import Derived.WalkKit
import Derived.ProofKit
import Derived.OpenShut
import Derived.ShutString
import Derived.Deep.Slices
import Derived.Deep.Strs
import Derived.Test.YtlofhpkoaljmeaaGreatat8
set_option linter.unusedVariables false
set_option linter.constructorNameAsVariable false
set_option linter.unusedSimpArgs false
set_option maxRecDepth 1000000
set_option maxHeartbeats 4000000
namespace Go.Proofs.YtlofhpkoaljmeaaGreat
section
open Go.RowKit Go.Sort Go.Deep SPA
theorem ch1 {α β:Type} {p:α→β→Prop} (h:∀ i,∃ x,p i x):∃ x:α→β,∀ i,p i (x i):=⟨fun i=>(h i).choose,fun i=>(h i).choose_spec⟩
theorem fin_of {N m:Nat} (h:m<N):∃ k:Fin N,k.val=m:=⟨⟨m,h⟩,rfl⟩
theorem bks {N:Nat} (O:Ord N) (b:Bs):∃ k:Nat→Nat→Fin N,∀ i s,(k i s).val=blN N b s i:=ch1 fun i=>ch1 fun s=>fin_of (blN_lt O b s i)
variable {P:Nat} [NeZero P] {N:Nat} [NeZero N]
theorem ofF_val {n:Nat} (h:n<N):(ofF N n).val=n:=Nat.mod_eq_of_lt h
theorem com_g (C:Fld P) (O:Ord N) (k:∀ r:EC.Pt P,EC.On r→EC.mul N r=none) {a:Nat} (c:a<N) (b:Fin N):Gives 14 #[nv a,nv b.val] (pvl (wP ((ptMd C k).cm (hPV C) (gPG C) (ofF N a) b))):=by
 have h:=cCommit_c C O c b.isLt
 have e:=cmt_cm C k (ofF N a) b
 rw[ofF_val c] at e
 rw[e] at h
 exact h
theorem pss (k:Bs):∃ p:Nat→Nat→List UInt8,∀ i s,p i s=(psB k s i).toList:=⟨_,fun _ _=>rfl⟩
theorem opW (O:Ord N) (b:Bs) {k:Nat→Nat→Fin N} (h:∀ i s,(k i s).val=blN N b s i):(fun i s=>sTi N (k i s).val (wF N s).val)=blW N b:=funext fun i=>funext fun s=>by
 rw[h,wF_val O]
 rfl
theorem books (C:Fld P) (O:Ord N) (d:∀ r:EC.Pt P,EC.On r→EC.mul N r=none) (hP:NT.IsP N) (hN:18446744073709551616≤N) (n:Nat) (hn:n≤64) (K A B:Nat→Nat) (hK:∀ i,1≤K i∧K i≤3) (Y:∀ i,A i<4294967296) (J:∀ i,B i<4294967296) (R:sumN A n≤sumN B n) (t:Bs) (M:t.size=32) (q S:Option Addr) (c sc:Nat) (w:World) (hL:OpL w q n K A B) (hs:SP.PartOk w (.slice S 32 sc) t.toList) :
 Calls Tryz.prog 4 #[.slice S 32 sc,.slice q n c] w (Ret fun e w'=>Below w.heap.size w w'∧∃ a G r b1 H j,e=.tuple #[.slice a n G,.agg #[.int .i64 n,.slice (some ⟨r,0,none⟩) 32 32,.int .u64 ((sumN B n-sumN A n:Nat):Int),.slice b1 H j],.int .i64 0] ∧
  ∀ W,Below w'.heap.size w' W→Calls Tryz.prog 5 #[.slice a n G,.agg #[.int .i64 n,.slice (some ⟨r,0,none⟩) 32 32,.int .u64 ((sumN B n-sumN A n:Nat):Int),.slice b1 H j]] W (Ret fun e f=>Below W.heap.size W f∧e=.bool true)):=by
 have n1:1<N:=oM
 obtain ⟨l,y⟩:=bks O t
 obtain ⟨ps,he⟩:=pss t
 obtain ⟨V,hV⟩:=ch1 fun i=>ch1 fun s=>side_ex C O d hP hN (amN s (A i) (B i)) (amN_lt (Y i) (J i) s) (l i s) (ps i s)
 obtain ⟨T,o⟩:=ch1 fun i=>ch1 (hV i)
 clear hV
 have E:∀ i s,(V i s).size=33:=fun i s=>by rw[(o i s).1];exact wr_size _
 have f:sumN B n-sumN A n<18446744073709551616:=by
  have:=sumN_lt J n
  omega
 have u:=close_c O n c q K A B hn hK Y J R t M S sc (fun i=>#[UInt8.ofNat (K i)]++fsB (V i) 2++fsB (T i) 2) w hL hs fun i W m hb =>
  written_c O (K i) (A i) (B i) i oM (Y i) (J i) t M S sc (V i) (T i) (E i) (fun s=>(o i s).2.1) (fun s=>by
   rw[(o i s).1,← y i s]
   exact com_g C O d (Nat.lt_of_lt_of_le (amN_lt (Y i) (J i) s) oM) (l i s)) (fun s=>by
   rw[← y i s,← he i s]
   exact (o i s).2.2.1) W (hs.below hb)
 have U:=tmP_tl C d n1 (hPV C) (gPG C) (wF N) (fun i s=>ofF N (amN s (A i) (B i))) l (fun i s=>(sdW N s,V i s)) (fun i s=>by rw[wF_val O,← (o i s).1]) n
 have j:=opn_val O (wF N) l n
 rw[opW O t y] at j
 rw[tot_is A B n R] at U
 have F:=com_g C O d (Nat.lt_of_lt_of_le f hN) (opnF (wF N) l n)
 have D:=(opnF (wF N) l n).isLt
 rw[j] at F D
 generalize opnF (wF N) l n=op at U F j
 clear j
 have Q:∀ (v:Value) (W:World),SmZ 0 W v (tmP (fun i s=>(sdW N s,V i s)) n)→(n=0→v=.slice none 0 0)→Calls Tryz.prog 33 #[v] W (Ret fun e w'=>Below W.heap.size W w'∧e=pvl (wP ((ptMd C d).cm (hPV C) (gPG C) (ofF N (sumN B n-sumN A n)) op))):=fun v W hv hz=>by
  have z:=tmP_len (fun i s=>(sdW N s,V i s)) n
  by_cases Z:n=0
  ·obtain rfl:=hz Z
   subst Z
   have e:wP ((ptMd C d).cm (hPV C) (gPG C) (ofF N (sumN B 0-sumN A 0)) op)=wr (none:EC.Pt P):=by
    show wr _=wr _
    rw[← U.sum]
    rfl
   rw[e]
   exact point_nil C O W
  ·rcases hv with ⟨rfl,hv⟩|hv
   ·rw[hv] at z
    exact absurd z (by simp;omega)
   ·exact Tl.point C O d U oM oM hv
 have z:(wP ((ptMd C d).cm (hPV C) (gPG C) (ofF N (sumN B n-sumN A n)) op)).size=33:=wr_size _
 generalize wP ((ptMd C d).cm (hPV C) (gPG C) (ofF N (sumN B n-sumN A n)) op)=X at F Q z
 generalize (sumN B n-sumN A n:Nat)=tot at u F f ⊢
 generalize opA N (blW N t) n=bl at u F D
 refine u.mono ?_
 rintro e w' ⟨_,rfl,hb,v,r,b,B0,xs,rfl,⟨h1,h2⟩,h3,h4,h5⟩
 obtain ⟨a,G,rfl,hj,hp,L⟩:=own_lists h1 h2
 obtain ⟨g5,bc,rfl,-⟩:=id h5
 refine ⟨_,rfl,hb,a,G,r,some ⟨g5,0,none⟩,32,bc,rfl,fun W I=>?_⟩
 refine check_c O n G a hn hj _ tot bl f D X z _ _ 32 32 bc W (hp.below I) (part_h (rootR_size _ _ _) (Holds.below h3 I h4)) (h5.argS.below I) (fun W1 h9=>?_) F
 have b1:=I.trans (h9.mono I.size)
 have hm:∀ i,∃ x,(∀ g,a=some ⟨g,0,none⟩→i<n→w'.cell? ⟨g,i,none⟩=some x)∧∃ k c,x=.slice (some ⟨k,0,none⟩) 1313 c∧1313≤c∧(i<n→k<w'.heap.size∧Holds encB w' k 0 (#[UInt8.ofNat (K i)]++fsB (V i) 2++fsB (T i) 2)):=fun i=>by
  by_cases m:i<n
  ·obtain ⟨g,rfl,-,hx⟩:=L oM
   obtain ⟨x,ha,k,c,rfl,h6,-,-,h7,h8⟩:=hx i m
   refine ⟨_,fun g' e _=>?_,k,c,rfl,h6,fun _=>⟨h7,h8⟩⟩
   injection e with e
   injection e with e
   rw[← e]
   exact ha
  ·exact ⟨_,fun _ _ h=>absurd h m,0,1313,rfl,Nat.le_refl _,fun h=>absurd h m⟩
 obtain ⟨x,hx⟩:=ch1 hm
 refine summed_c O a n G hn V E x X z W1 (fun Z=>?_) (fun i=>?_) (fun i W2 m hc=>?_) Q
 ·obtain ⟨g,e,hg,-⟩:=L Z
  exact ⟨g,e,Nat.lt_of_lt_of_le hg b1.size,fun i m=>by rw[b1.cell (p:=⟨g,i,none⟩) hg];exact (hx i).1 g e m⟩
 ·obtain ⟨-,k,c,e,-⟩:=hx i
  exact ⟨_,_,_,e⟩
 ·obtain ⟨-,k,c1,e,hq,h⟩:=hx i
  obtain ⟨hk,hH⟩:=h m
  have H:=b1.trans (hc.mono b1.size)
  rw[e]
  exact read_c C k c1 (K i) hq (hK i).1 (hK i).2 (V i) (T i) (E i) (fun s=>(o i s).2.1) (fun s=>by
   rw[(o i s).1]
   obtain ⟨p,h,-⟩:=rd_wr C ((ptMd C d).cm (hPV C) (gPG C) (ofF N (amN s (A i) (B i))) (l i s)).2
   exact ⟨p,h⟩) (fun s=>(o i s).2.2.2) W2 (Nat.lt_of_lt_of_le hk H.size) (Holds.below hH H hk)
end
section
open Go.RowKit Go.Sort Go.Deep SPA
variable {P:Nat} [NeZero P] {N:Nat} [NeZero N]
end
section
open Go.RowKit Go.Sort Go.Deep SPA
variable {P:Nat} [NeZero P] {N:Nat} [NeZero N]
end
section
open Go.RowKit Go.Sort Go.Deep SPA
variable {P:Nat} [NeZero P] {N:Nat} [NeZero N]
end
section
open Go.RowKit Go.Sort Go.Deep SPA
variable {P:Nat} [NeZero P] {N:Nat}
theorem copy_cutO {P:Program} (w:World) (i sT n c:TypeId) (b o k e:Nat) (t:ByteArray) (q:P.underlying i=some (.slice c)) (m:∀ w,(Go.sizeOf c).run P w=.ok 1 w)
 (p:∀ j,j<k→(w.cell? ⟨b,o+j,none⟩).isSome=true) (hf:∀ j,j<k→w.frozen? ⟨b,o+j,none⟩=false) :
 (Builtin.copy_ #[i,sT] n #[.slice (some ⟨b,o,none⟩) k e,.string t]).run P w=.ok (goInt (Nat.min t.size k)) (w.setCells b o ((t.data.toList.take k).map fun x=>Value.int .u8 (x.toNat:Int))):=by
 by_cases f:t.size≤k
 ·rw[run_copy_string w i sT n c b o k e t q m f (fun j d=>p j oM) (fun j d=>hf j oM),show Nat.min t.size k=t.size from Nat.min_eq_left f,List.take_of_length_le (by rw[← Lib.size_eq];exact f)]
 ·have d:Nat.min t.size k=k:=Nat.min_eq_right oM
  have l:((t.data.toList.take k).map fun x=>Value.int .u8 (x.toNat:Int)).length=k:=by rw[List.length_map,List.length_take,← Lib.size_eq];omega
  have g:=run_storeCells_cells (P:=P) b o ((t.data.toList.take k).map fun x=>Value.int .u8 (x.toNat:Int)) 0 w (by rw[l];simpa using p) (by rw[l];simpa using hf) (by
   intro v hv
   obtain ⟨x,_,rfl⟩:=List.mem_map.1 hv
   rfl)
  rw[d]
  simp[Builtin.copy_,run_underlying q,Builtin.lenOf,Builtin.firstCells,m,d]
  rw[List.map_take] at g
  rw[g]
  rfl
def fnB (f:Nat→UInt8):Bs:=Array.ofFn (n:=32) fun i=>f i.val
theorem fnB_size (f:Nat→UInt8):(fnB f).size=32:=by unfold fnB;simp
theorem fnB_at (f:Nat→UInt8) (j:Nat) (k:j<32):(fnB f)[j]! = f j:=by
 rw[getElem!_pos (fnB f) j (by rw[fnB_size];exact k)]
 unfold fnB
 simp
def sdF (s:ByteArray) (j:Nat):UInt8:=s.data.toList.getD j 0
theorem sd_holds {W:World} {k:Nat} (s:ByteArray) (h:Holds encB W k 0 (Array.replicate 32 0)):Holds encB (W.setCells k 0 ((s.data.toList.take 32).map fun x=>Value.int .u8 (x.toNat:Int))) k 0 (fnB (sdF s)):=by
 refine SP.Holds.setCells (o:=0) (p:=0) h _ (by rw[fnB_size,Array.size_replicate]) (by rw[List.length_map,List.length_take,Array.size_replicate];omega) (fun j b=>?_) (fun j b c=>?_)
 ·rw[List.length_map,List.length_take] at b
  rw[fnB_at _ _ oM,List.getElem_map,List.getElem_take]
  unfold sdF
  rw[Nat.zero_add,List.getD_eq_getElem?_getD,List.getElem?_eq_getElem oM]
  rfl
 ·rw[Array.size_replicate] at b
  rw[List.length_map,List.length_take] at c
  rw[fnB_at _ _ b,SP.rep_at 32 j b]
  unfold sdF
  rw[List.getD_eq_getElem?_getD,List.getElem?_eq_none oM]
  rfl
end
section
open Go.RowKit Go.Sort Go.Deep SPA
def tT (A B:Nat→Nat):Nat→Nat
 | 0=>0
 | i+1=>tT A B i+B i-if tT A B i+B i<A i then 0 else A i
def aT (A B:Nat→Nat) (i:Nat):Nat:=if tT A B i+B i<A i then 0 else A i
theorem aT_le (A B:Nat→Nat) (i:Nat):aT A B i≤tT A B i+B i∧aT A B i≤A i:=by
 unfold aT
 split<;>omega
theorem tT_sum (A B:Nat→Nat):∀ n,tT A B n+sumN (aT A B) n=sumN B n
 | 0=>rfl
 | n+1=>by
  have h:=tT_sum A B n
  have:=(aT_le A B n).1
  show tT A B n+B n-aT A B n+(sumN (aT A B) n+aT A B n)=sumN B n+B n
  omega
def opR (K A B:Nat→Nat):Nat→List Value
 | 0=>[]
 | i+1=>opR K A B i++opC (K i) (A i) (B i)
theorem opR_len (K A B:Nat→Nat):∀ n,(opR K A B n).length=3*n
 | 0=>rfl
 | n+1=>by
  show (opR K A B n++opC _ _ _).length=_
  rw[List.length_append,opR_len K A B n]
  rfl
theorem opR_at (K A B:Nat→Nat) {i:Nat}:∀ n,i<n→∀ j u,(opC (K i) (A i) (B i))[j]? = some u→(opR K A B n)[3*i+j]? = some u
 | n+1,hi,j,u,hu=>by
  have k:j<3:=(List.getElem?_eq_some_iff.1 hu).1
  show (opR K A B n++opC _ _ _)[3*i+j]? = _
  by_cases h:i<n
  ·rw[List.getElem?_append_left (by rw[opR_len];omega)]
   exact opR_at K A B n h j u hu
  ·obtain rfl:i=n:=by omega
   rw[List.getElem?_append_right (by rw[opR_len];omega),opR_len,Nat.add_sub_cancel_left]
   exact hu
theorem undO:Tryz.prog.underlying 22=some (.slice 26):=kR
theorem infoO:(Tryz.prog.info? 26).map (fun i=>(i.size,i.bytes,i.zero.map fun z=>z.cells.size))=some (3,24,some 3):=kR
structure OwO (w W:World) (i:Nat) (v:Value) (K A B:Nat→Nat):Prop where
 bl:Below w.heap.size w W
 ow:W.ownsRow w.heap.size 26 3 v i (opR K A B i)
theorem OwO.grow {w W W':World} {i:Nat} {v:Value} {K A B:Nat→Nat} (h:OwO w W i v K A B) (k:Below W.heap.size W W'):OwO w W' i v K A B:=
 ⟨h.bl.trans (k.mono h.bl.size),own_keep h.ow fun g b=>k.block g (own_lt h.ow b).2.1⟩
theorem OwO.app {w W:World} {i g:Nat} {v:Value} {K A B:Nat→Nat} (h:OwO w W i v K A B) (s:Row W g (opC (K i) (A i) (B i))) (a:i≤64) :
 ∃ c W',(Builtin.append_ #[22,22] 22 #[v,.slice (some ⟨g,0,none⟩) 1 1]).run Tryz.prog W=.ok c W'∧OwO w W' (i+1) c K A B:=by
 obtain ⟨o,f,m⟩:=Option.map_eq_some_iff.1 infoO
 simp only[Prod.mk.injEq] at m
 obtain ⟨q,n,p⟩:=m
 obtain ⟨z,r,d⟩:=Option.map_eq_some_iff.1 p
 obtain ⟨c,W',y,t,b,-⟩:=run_append_own (P:=Tryz.prog) W w.heap.size 22 22 26 o z 3 24 undO f r q n d (by decide) v i _ h.ow ⟨g,0,none⟩ 1 1 (opC (K i) (A i) (B i)) rfl
  (fun j u x=>by
   rw[addP0]
   exact s.2.1 j u x) (fun u l=>by
   simp only[opC,List.mem_cons,List.not_mem_nil,or_false] at l
   rcases l with rfl|rfl|rfl<;>rfl) (by unfold maxLen;omega) (by omega) h.bl.size
 refine ⟨c,W',y,⟨b.os.trans h.bl.os,b.tape.trans h.bl.tape,b.output.trans h.bl.output,Nat.le_trans h.bl.size b.size,fun k l=>(b.block k (Nat.lt_of_lt_of_le l h.bl.size) fun e=>by have:=(own_lt h.ow e.symm).1;omega).trans (h.bl.block k l)⟩,t⟩
theorem OwO.opl {w W:World} {i:Nat} {v:Value} {K A B:Nat→Nat} (h:OwO w W i v K A B):∃ q c,v=.slice q i c∧OpL W q i K A B:=by
 rcases id h.ow with ⟨-,⟨rfl,rfl⟩|⟨g,cap,cur,rfl,-⟩⟩
 ·exact ⟨none,0,rfl,fun h=>absurd h (by omega)⟩
 ·refine ⟨_,cap,rfl,fun _=>⟨g,rfl,(own_lt h.ow rfl).2.1,fun j k m u b=>?_⟩⟩
  have:=h.ow.cells (g:=g) rfl _ _ (opR_at K A B i k m u b)
  rw[addP0,Nat.zero_add] at this
  exact this
section
variable {P:Program} {Q:Exit→Act→World→Prop} {a:Act} {w:World} {c y:Code}
theorem wp_thenO (C:World→Prop) (h:c.wp P (fun e b w'=>e=.normal∧C w'∧∃ p,b=a.put (some 50) p) a w) (k:∀ w' p,C w'→y.wp P Q (a.put (some 50) p) w'):c.wp P (Exit.then (y.wp P Q) Q) a w:=
 wp_mono h fun e b w' ⟨d,f,p,g⟩=>by
  subst d g
  exact k w' p f
end
theorem idxOf (g o n c i:Nat) (k:i<n) (w:World):(Instr.indexAt 22 (.slice (some ⟨g,o,none⟩) n c) (.int .i64 i)).run Tryz.prog w=.ok (.pointer (some ⟨g,o+3*i,none⟩)) w:=by
 have b:=addP0 g o (3*i)
 go_simp
theorem one_r {W:World} {k o:Nat} {cs:List Value} {x:Value} (j:Nat) (h:W.rangeAt k o cs) (hx:cs[j]? = some x):W.rangeAt k (o+j) [x]:=fun i v b=>by
 obtain rfl:i=0:=by have:=(List.getElem?_eq_some_iff.1 b).1;simp at this;omega
 rw[Nat.add_zero]
 exact h j v (hx.trans b)
theorem row_one {W:World} {k:Nat} {a b c u:Value} (h:Row W k [a,b,c]):W.there k 1 1∧Row (W.setCells k 1 [u]) k [a,u,c]:=by
 have t1:W.there k 1 1:=fun j d=>by
  have:=h.2.2 (1+j) (by simp only[List.length_cons,List.length_nil];omega)
  rw[Nat.zero_add] at this
  exact this
 have f:=World.rangeAt_setCells_apart (one_r 0 h.2.1 rfl) k 1 [u] (Or.inr (Or.inl (Nat.le_refl 1)))
 have g:=World.rangeAt_setCells_same W k 1 [u] t1
 have e:=World.rangeAt_setCells_apart (one_r 2 h.2.1 rfl) k 1 [u] (Or.inr (Or.inr (Nat.le_refl 2)))
 refine ⟨t1,by rw[RG.setCells_size];exact h.1,fun j v d=>?_,World.there_setCells h.2.2 _ _ _⟩
 match j,d with
 | 0,d=>exact f 0 v d
 | 1,d=>exact g 0 v d
 | 2,d=>exact e 0 v d
theorem bslO (k a b:Nat) (w:World):(Instr.buildSlice 22 1 #[(0,.agg (opC k a b).toArray)]).run Tryz.prog w=.ok (.slice (some ⟨w.heap.size,0,none⟩) 1 1) (w.alloc (.cells (opC k a b).toArray 26)):=kR
end
section
open Go.RowKit Go.Sort Go.Deep SPA
variable {P:Nat} [NeZero P] {N:Nat}
theorem al3 (w:World):(Instr.alloc 26 true (.tuple #[])).run Tryz.prog w=.ok (.pointer (some ⟨w.heap.size,0,none⟩)) (w.alloc (.cells z3.toArray 26)):=kR
theorem audit_w (s:ByteArray) (q:Option Addr) (n c:Nat) (X Y:Nat→Nat) (w:World) (hX:∀ i,X i<18446744073709551616) (hY:∀ i,Y i<18446744073709551616) (hq:0<n→∃ g o,q=some ⟨g,o,none⟩∧g<w.heap.size∧∀ i,i<n→w.cell? ⟨g,o+3*i+1,none⟩=some (.int .u64 (X i:Int))∧w.cell? ⟨g,o+3*i+2,none⟩=some (.int .u64 (Y i:Int)))
 (hB:∀ (K A B:Nat→Nat) n,n≤64→(∀ i,1≤K i∧K i≤3)→(∀ i,A i<4294967296)→(∀ i,B i<4294967296)→sumN A n≤sumN B n→∀ (d:Bs),d.size=32→∀ (q l:Option Addr) (c sc:Nat) (w:World),OpL w q n K A B→SP.PartOk w (.slice l 32 sc) d.toList →
  Calls Tryz.prog 4 #[.slice l 32 sc,.slice q n c] w (Ret fun e w'=>Below w.heap.size w w'∧∃ f b r b1 v T,e=.tuple #[.slice f n b,.agg #[.int .i64 n,.slice (some ⟨r,0,none⟩) 32 32,.int .u64 ((sumN B n-sumN A n:Nat):Int),.slice b1 v T],.int .i64 0] ∧
  ∀ W,Below w'.heap.size w' W→Calls Tryz.prog 5 #[.slice f n b,.agg #[.int .i64 n,.slice (some ⟨r,0,none⟩) 32 32,.int .u64 ((sumN B n-sumN A n:Nat):Int),.slice b1 v T]] W (Ret fun e k=>Below W.heap.size W k∧e=.bool true))) :
 Calls Tryz.prog 3 #[.string s,.slice q n c] w (Ret fun e w'=>Below w.heap.size w w'∧e=.bool true):=by
 have U:=mk3 hX hY (And.intro hq hB)
 go_enter Tryz.func3,Tryz.ntmps3
 refine wp_seq ?_
 refine PW.begin ?_
 refine PW.va (.bool false) ?_
 refine PW.dn ?_
 refine wp_seq ?_
 refine wp_seq ?_
 refine PW.begin ?_
 refine PW.mv ?_
 refine PW.va (.int .i64 n) ?_
 refine PW.va (.bool (decide ((8:Int)<(n:Int)))) ?_
 refine PW.dn ?_
 by_cases h8:(8:Int)<(n:Int)
 ·rw[decide_eq_true h8]
  go_wp2
  go_ret
  exact ⟨_,rfl,Below.refl _ _,rfl⟩
 rw[decide_eq_false h8]
 refine wp_cond_false rfl ?_
 refine wp_skip ?_
 refine hG w.heap.size fun Z J=>?_
 refine hG (w.alloc (.cells (madeCells #[.int .u8 0] 32) 5)) fun W1 h0=>?_
 have m1:=mk32 w
 have d:Holds encB (w.alloc (.cells (madeCells #[.int .u8 0] 32) 5)) w.heap.size 0 (Array.replicate 32 0):=SP.Holds.made (enc:=encB) w 5 32 0
 have b1:=below1 w (.cells (madeCells #[.int .u8 0] 32) 5)
 rw[h0.out] at m1 d b1
 rw[J.out] at m1 d
 refine wp_seq ?_
 refine PW.begin ?_
 refine PW.ns m1 ?_
 refine PW.va (.slice (some ⟨Z,0,none⟩) 32 32) ?_
 refine PW.dn ?_
 have cp:=copy_cutO (P:=Tryz.prog) W1 23 9 3 5 Z 0 32 32 s SP.slice22 SP.size5 (fun j hj=>by rw[(d j (by rw[Array.size_replicate];exact hj)).1];rfl) (fun j hj=>(d j (by rw[Array.size_replicate];exact hj)).2)
 have R:=sd_holds s d
 refine hG (W1.setCells Z 0 ((s.data.toList.take 32).map fun x=>Value.int .u8 (x.toNat:Int))) fun W2 G=>?_
 have v:Below w.heap.size w W2:=by rw[← G.out];exact RG.below_setCells (by rw[J.out];exact Nat.le_refl _) _ _ _ b1
 rw[G.out] at cp R
 refine wp_seq ?_
 refine PW.begin ?_
 refine PW.mv ?_
 refine PW.mv ?_
 refine PW.ns cp ?_
 refine PW.dn ?_
 have H:=mk2 v (SP.part_log R (fnB_size _))
 refine wp_seq ?_
 refine PW.begin ?_
 refine PW.va (.slice none 0 0) ?_
 refine PW.dn ?_
 refine wp_seq ?_
 refine PW.begin ?_
 refine PW.va (.int .u64 0) ?_
 refine PW.dn ?_
 refine wp_seq ?_
 refine wp_seq ?_
 refine PW.begin ?_
 refine PW.va (.int .i64 0) ?_
 refine PW.dn ?_
 refine wp_block ?_
 obtain ⟨A,hA⟩:=hE (aT (fun i=>X i%4294967296) (fun i=>Y i%4294967296))
 obtain ⟨B,b⟩:=hE (fun i=>Y i%4294967296)
 obtain ⟨K,hK⟩:=hE (fun i=>1+i%3)
 obtain ⟨t,V⟩:=hE (tT (fun i=>X i%4294967296) (fun i=>Y i%4294967296))
 have fA:Hid (∀ i,A i=if t i+B i<X i%4294967296 then 0 else X i%4294967296):=by rw[← hA.out,← b.out,← V.out];exact fun _=>rfl
 have ft:Hid (∀ i,t (i+1)=t i+B i-A i):=by rw[← hA.out,← b.out,← V.out];exact fun _=>rfl
 have fS:Hid (∀ i,t i+sumN A i=sumN B i):=by rw[← hA.out,← b.out,← V.out];exact fun i=>tT_sum _ _ i
 have fB:Hid (∀ i,B i<4294967296):=by rw[← b.out];exact fun i=>Nat.mod_lt _ dC
 have fL:Hid (∀ i,A i<4294967296):=fun i=>by rw[fA.out];have:=Nat.mod_lt (X i) (show 0<4294967296 by decide);split<;>omega
 have fK:Hid (∀ i,K i=1+i%3):=by rw[← hK.out];exact fun _=>rfl
 have h1:t 0=0:=by rw[← V.out];rfl
 have h3:Hid (∀ i,B i=Y i%4294967296):=by rw[← b.out];exact fun _=>rfl
 have O0:Hid (OwO W2 W2 0 (.slice none 0 0) K A B):=⟨Below.refl _ _,rfl,Or.inl ⟨rfl,rfl⟩⟩
 go_loopg [6,7,8] n (fun gk s6 s7 s8 wr=>∃ i:Nat,i+gk=n∧s8=.int .i64 i∧s7=.int .u64 (t i:Int)∧Hid (OwO W2 wr i s6 K A B))
 case atStart=>exact ⟨0,oM,rfl,by rw[h1];rfl,O0⟩
 case round =>
  obtain ⟨i,ha,rfl,rfl,F⟩:=hrel
  refine wp_seq ?_
  refine wp_seq ?_
  refine PW.begin ?_
  refine PW.mv ?_
  refine PW.mv ?_
  refine PW.va (.int .i64 n) ?_
  refine PW.va (.bool (decide ((i:Int)<(n:Int)))) ?_
  refine PW.dn ?_
  by_cases hi:i<n
  ·have z:(i:Int)<(n:Int):=oM
   rw[decide_eq_true z]
   refine wp_cond_true rfl ?_
   refine wp_skip ?_
   have h2:IntKind.i64.wrap ((i:Int)+1)=((i+1:Nat):Int):=by rw[IntKind.wrap_i64];omega
   have bw:=H.out.1.trans (F.out.bl.mono H.out.1.size)
   obtain ⟨g,o,rfl,hg,hc⟩:=U.out.2.2.1 oM
   obtain ⟨c1,c2⟩:=hc i hi
   have C1:=mk2 c1 c2
   have h7:=U.out.1 i
   have h6:=U.out.2.1 i
   have lt:=fS.out i
   have ls:=sumN_lt fB.out i
   have L:(i:Int).tmod 3=((i%3:Nat):Int):=by rw[Int.tmod_eq_emod_of_nonneg oM];omega
   have O:IntKind.i64.wrap (1+((i%3:Nat):Int))=((K i:Nat):Int):=by rw[IntKind.wrap_i64,fK.out];omega
   have E:(X i:Int).tmod 4294967296=((X i%4294967296:Nat):Int):=by rw[Int.tmod_eq_emod_of_nonneg oM];omega
   have D:(Y i:Int).tmod 4294967296=((B i:Nat):Int):=by rw[Int.tmod_eq_emod_of_nonneg oM,h3.out];omega
   refine hG wr.drew.heap.size fun m N=>?_
   refine hG (wr.drew.alloc (.cells z3.toArray 26)) fun w4 f=>?_
   refine hG (w4.setCells m 0 (opC (K i) (X i%4294967296) (B i))) fun w5 y=>?_
   have C:=mk1 ((Mp.start wr).drew.new N f)
   have Q:=mk1 (C.out.put 0 y)
   have a3:=al3 wr.drew
   have M:=below1 wr.drew (.cells z3.toArray 26)
   rw[N.out,f.out] at a3
   rw[f.out] at M
   obtain ⟨vo,k⟩:=hE (Value.agg (opC (K i) (X i%4294967296) (B i)).toArray)
   refine wp_seq ?_
   refine wp_block ?_
   refine wp_seq ?_
   refine AW.begin 17 17 ?_
   refine AW.mv 0 ?_
   refine AW.va 1 (.int .i64 ((i:Int).tmod 3)) ?_
   rw[L]
   refine AW.va 2 (.int .i64 (IntKind.i64.wrap (1+((i%3:Nat):Int)))) ?_
   rw[O]
   refine AW.mv 3 ?_
   refine AW.mv 4 ?_
   refine AW.iv 5 (idxOf g o n c i hi) ?_
   refine AW.va 6 (.pointer (some ⟨g,o+3*i+1,none⟩)) ?_
   refine AW.ce 7 u64r (fun W hb=>((bw.trans (hb.mono bw.size)).cell (p:=⟨g,o+3*i+1,none⟩) hg).trans C1.out.1) ?_
   refine AW.va 8 (.int .u64 ((X i:Int).tmod 4294967296)) ?_
   rw[E]
   refine AW.mv 9 ?_
   refine AW.mv 10 ?_
   refine AW.iv 11 (idxOf g o n c i hi) ?_
   refine AW.va 12 (.pointer (some ⟨g,o+3*i+2,none⟩)) ?_
   refine AW.ce 13 u64r (fun W hb=>((bw.trans (hb.mono bw.size)).cell (p:=⟨g,o+3*i+2,none⟩) hg).trans C1.out.2) ?_
   refine AW.va 14 (.int .u64 ((Y i:Int).tmod 4294967296)) ?_
   rw[D]
   refine AW.va 15 (.agg (opC (K i) (X i%4294967296) (B i)).toArray) ?_
   rw[k.out]
   refine AW.ns 16 a3 M ?_
   refine AW.fi k (opC_one _ _ _) iOp fun _=>?_
   rw[y.out]
   refine ⟨C.out.th 0,?_⟩
   clear C a3 M f y L O E D k C1
   have S:IntKind.u64.wrap ((t i:Int)+(B i:Int))=((t i+B i:Nat):Int):=by have:=fB.out i;rw[IntKind.wrap_u64];omega
   have lA:A i≤t i+B i:=by rw[fA.out];split<;>omega
   have h4:IntKind.u64.wrap (((t i+B i:Nat):Int)-(A i:Int))=((t (i+1):Nat):Int):=by have:=fB.out i;rw[IntKind.wrap_u64,ft.out];omega
   refine wp_seq ?_
   refine wp_seq ?_
   refine PW.begin ?_
   refine PW.va (.pointer (some ⟨m,1,none⟩)) ?_
   refine PW.ce ((Q.out.at_ 0).2.1 1 _ rfl) u64r ?_
   refine PW.mv ?_
   refine PW.va (.pointer (some ⟨m,2,none⟩)) ?_
   refine PW.ce ((Q.out.at_ 0).2.1 2 _ rfl) u64r ?_
   refine PW.va (.int .u64 (IntKind.u64.wrap ((t i:Int)+(B i:Int)))) ?_
   rw[S]
   refine PW.va (.bool (decide (((t i+B i:Nat):Int)<((X i%4294967296:Nat):Int)))) ?_
   refine PW.dn ?_
   refine wp_thenO (fun W=>Mp wr W [(m,opC (K i) (A i) (B i))] []) ?_ ?_
   ·by_cases I:t i+B i<X i%4294967296
    ·rw[decide_eq_true oM]
     refine wp_cond_true rfl ?_
     refine hG (w5.setCells m 1 [.int .u64 0]) fun a l=>?_
     obtain ⟨th,hr⟩:=row_one (u:=.int .u64 0) (Q.out.at_ 0)
     refine PW.begin ?_
     refine PW.va (.pointer (some ⟨m,1,none⟩)) ?_
     refine st1R 50 l th kR kR kR ?_
     refine PW.dn ?_
     refine ⟨rfl,?_,_,rfl⟩
     rw[fA.out,if_pos I]
     exact Q.out.upd 0 l hr
    ·rw[decide_eq_false oM]
     refine wp_cond_false rfl ?_
     refine wp_skip ?_
     refine ⟨rfl,?_,_,rfl⟩
     rw[fA.out,if_neg I]
     exact Q.out
   intro a p6 M6
   have KM:=mk2 M6 (F.out.grow M6.bl)
   obtain ⟨vo,k⟩:=hE (Value.agg (opC (K i) (A i) (B i)).toArray)
   have bs:=bslO (K i) (A i) (B i) a
   have M:=below1 a (.cells (opC (K i) (A i) (B i)).toArray 26)
   obtain ⟨v',w8,r8,h5⟩:=(KM.out.2.grow M).app (g:=a.heap.size) (row_new a (opC (K i) (A i) (B i)) 26) oM
   refine hG a.heap.size fun h9 l=>?_
   refine hG (a.alloc (.cells (opC (K i) (A i) (B i)).toArray 26)) fun w7 I=>?_
   rw[l.out,I.out,k.out] at bs
   rw[l.out,I.out] at r8
   have KF:=mk1 h5
   refine wp_seq ?_
   refine PW.begin ?_
   refine PW.mv ?_
   refine PW.va (.pointer (some ⟨m,2,none⟩)) ?_
   refine PW.ce ((KM.out.1.at_ 0).2.1 2 _ rfl) u64r ?_
   refine PW.va (.int .u64 (IntKind.u64.wrap ((t i:Int)+(B i:Int)))) ?_
   rw[S]
   refine PW.va (.pointer (some ⟨m,1,none⟩)) ?_
   refine PW.ce ((KM.out.1.at_ 0).2.1 1 _ rfl) u64r ?_
   refine PW.va (.int .u64 (IntKind.u64.wrap (((t i+B i:Nat):Int)-(A i:Int)))) ?_
   rw[h4]
   refine PW.va (.int .u64 ((t (i+1):Nat):Int)) ?_
   refine PW.dn ?_
   refine PW.begin (P:=Tryz.prog) ?_
   refine PW.mv ?_
   refine PW.ro (KM.out.1.at_ 0).2.1 k uOp iOp ?_
   refine PW.ns bs ?_
   refine PW.ns r8 ?_
   refine PW.va v' ?_
   refine PW.dn ?_
   refine PW.begin (P:=Tryz.prog) ?_
   refine PW.mv ?_
   refine PW.va (.int .i64 (IntKind.i64.wrap ((i:Int)+1))) ?_
   rw[h2]
   go_wp2
   go_roundg (gk-1)
   case measure=>omega
   case rel=>exact ⟨i+1,oM,rfl,rfl,KF⟩
  ·have z:¬ (i:Int)<(n:Int):=oM
   obtain rfl:i=n:=oM
   rw[decide_eq_false z]
   refine wp_cond_false rfl ?_
   refine wp_exit ?_
   have bw:=H.out.1.trans (F.out.bl.mono H.out.1.size)
   obtain ⟨q6,c6,rfl,hO⟩:=F.out.opl
   have HC:=U.out.2.2.2 K A B i oM (fun j=>by rw[fK.out];omega) fL.out fB.out (by have:=fS.out i;omega) (fnB (sdF s)) (fnB_size _) q6 (some ⟨Z,0,none⟩) c6 32 wr hO (H.out.2.below F.out.bl)
   rw[show sumN B i-sumN A i=t i by have:=fS.out i;omega] at HC
   have S:=mk1 bw
   refine wp_seq (P:=Tryz.prog) ?_
   refine PW.begin ?_
   refine PW.mv ?_
   refine PW.mv ?_
   refine PW.ca HC ?_
   rintro e Q ⟨y,q1,c1,r,b1,v,T,rfl,O⟩
   refine hG Q.heap.size fun m f=>?_
   refine hG (Q.alloc (.cells zcl.toArray 29)) fun w2 D=>?_
   obtain ⟨cs,k⟩:=hE [Value.int .i64 i,.slice (some ⟨r,0,none⟩) 32 32,.int .u64 (t i:Int),.slice b1 v T]
   refine hG (w2.setCells m 0 cs) fun w3 I=>?_
   have N:cs.length=4:=by rw[← k.out];rfl
   have M2:=mk1 ((Mp.start Q).new f D)
   have M:=mk1 (M2.out.put 0 I rfl (by rw[N];rfl))
   have x0:cs[0]? = some (.int .i64 i):=by rw[← k.out];rfl
   have x2:cs[2]? = some (.int .u64 (t i:Int)):=by rw[← k.out];rfl
   have o1:cs.toArray.all (·.oneCell')=true:=by rw[← k.out];exact kR
   have iC:(Tryz.prog.info? 29).map (·.size)=some cs.length:=by rw[N];exact iCl
   obtain ⟨vc,E⟩:=hE (Value.agg #[.int .i64 i,.slice (some ⟨r,0,none⟩) 32 32,.int .u64 (t i:Int),.slice b1 v T])
   have l:Hid (.agg cs.toArray=vc):=by rw[← k.out,← E.out];rfl
   have a:=O w3 M.out.bl
   rw[E.out] at a ⊢
   have B3:=mk1 (S.out.trans ((y.trans (M.out.bl.mono y.size)).mono S.out.size))
   refine PW.mv ?_
   refine PW.va (.slice q1 i c1) ?_
   refine PW.va vc ?_
   refine PW.va (.int .i64 0) ?_
   refine PW.al f D ?_
   refine PW.va (.slice q1 i c1) ?_
   refine PW.st I l (M2.out.th 0 rfl (by rw[N];rfl)) iC o1 ?_
   refine PW.va (.int .i64 0) ?_
   refine PW.dn ?_
   refine wp_seq ?_
   refine PW.begin ?_
   refine PW.mv ?_
   refine PW.ro (M.out.at_ 0).2.1 l uCl iC ?_
   refine PW.gi a fun w4 L=>?_
   refine PW.va (.bool true) ?_
   refine PW.dn ?_
   have C:=mk1 (M.out.grow L)
   have B4:=mk1 (B3.out.trans (L.mono B3.out.size))
   have et:((t i:Int) == (t i:Int))=true:=by simp
   have ei:((i:Int) == (i:Int))=true:=by simp
   refine wp_seq ?_
   refine PW.begin ?_
   refine PW.mv ?_
   refine PW.va (.bool true) ?_
   refine PW.mv ?_
   refine PW.gd ?_
   refine PW.mv ?_
   refine PW.va (.bool true) ?_
   refine PW.mv ?_
   refine PW.gd ?_
   refine PW.va (.pointer (some ⟨m,2,none⟩)) ?_
   refine PW.gd ?_
   refine PW.ce ((C.out.at_ 0).2.1 2 _ x2) u64r ?_
   refine PW.gd ?_
   refine PW.mv ?_
   refine PW.gd ?_
   refine PW.va (.bool ((t i:Int) == (t i:Int))) ?_
   rw[et]
   refine PW.va (.bool true) ?_
   refine PW.mv ?_
   refine PW.gd ?_
   refine PW.va (.pointer (some ⟨m,0,none⟩)) ?_
   refine PW.gd ?_
   refine PW.ce ((C.out.at_ 0).2.1 0 _ x0) u3r ?_
   refine PW.gd ?_
   refine PW.mv ?_
   refine PW.gd ?_
   refine PW.va (.int .i64 i) ?_
   refine PW.gd ?_
   refine PW.va (.bool ((i:Int) == (i:Int))) ?_
   rw[ei]
   refine PW.va (.bool true) ?_
   refine PW.mv ?_
   refine PW.gd ?_
   refine PW.mv ?_
   refine PW.gd ?_
   refine PW.va (.int .i64 i) ?_
   refine PW.gd ?_
   refine PW.mv ?_
   refine PW.gd ?_
   refine PW.va (.int .i64 i) ?_
   refine PW.gd ?_
   refine PW.va (.bool ((i:Int) == (i:Int))) ?_
   rw[ei]
   refine PW.va (.bool true) ?_
   refine PW.va (.bool true) ?_
   refine PW.dn ?_
   refine wp_ret ?_
   go_ret
   exact ⟨_,rfl,B4.out,rfl⟩
end
section
open Go.RowKit Go.Sort Go.Deep
variable {P:Nat} [NeZero P] {N:Nat}
theorem fld:∃ (P:Nat) (_:NeZero P),Fld P:=by
 obtain ⟨P,f,j,i⟩:=EC.cur
 have g:P=Go.Proofs.YtlofhpkoaljmeaaGreat.p0:=by rw[j];decide +kernel
 have b:=gap0
 have k:2≤Go.Proofs.YtlofhpkoaljmeaaGreat.p0%18446744073709551616:=dK
 have e:Go.Proofs.YtlofhpkoaljmeaaGreat.p0/4%18446744073709551616<18446744073709551615:=dK
 have d:Go.Proofs.YtlofhpkoaljmeaaGreat.p0%4=3:=dK
 have c:7<Go.Proofs.YtlofhpkoaljmeaaGreat.p0:=dK
 rw[← g] at b k e d c
 exact ⟨P,f,⟨b,i,k,e,d,c⟩⟩
end
namespace EC
variable {P:Nat} [NeZero P]
def fo {α:Type} (x:Fin P) (f:Fin P→α):α:=
 match x.val with
 | 0=>f (Fin.ofNat P 0)
 | n+1=>f (Fin.ofNat P (n+1))
theorem fo_eq {α:Type} (x:Fin P) (f:Fin P→α):fo x f=f x:=by
 have hx:Fin.ofNat P x.val=x:=Fin.ext (Nat.mod_eq_of_lt x.isLt)
 unfold fo
 split
 ·next h=>rw[h] at hx;rw[hx]
 ·next n h=>rw[h] at hx;rw[hx]
def runs (u v:Fin P) (e:Nat):Nat→Fin P→Fin P→Fin P→Bool
 | 0,_,_,z=>decide (z=0)
 | k+1,x,y,z=>fo (twX x y) fun X=>fo (twY x y) fun Y=>fo (twZ y z) fun Z =>
  if e/2^k%2=1 then
   if Z=0 then false else
   fo (plAx X 1) fun d=>fo (plAy Y 1) fun g=>fo (plAx u Z) fun bx=>fo (plAy v Z) fun f =>
   if d=bx∧g=f then false else
   fo (plX d g bx f) fun a=>fo (plY d g bx f) fun b=>fo (plZ Z 1 d bx) fun c=>runs u v e k a b c
  else runs u v e k X Y Z
theorem one_ne (C:Cur P):(1:Fin P)≠0:=fun h=>C.two (by
 calc (2:Fin P)=2*1:=by grobner
  _=0:=by rw[h];grobner)
theorem runs_ok (C:Cur P) {u v:Fin P} (c:On (some (u,v))) (e:Nat):∀ (k m:Nat) (x y z:Fin P),Jac x y z (mul m (some (u,v)))→runs u v e k x y z=true→mul (m*2^k+e%2^k) (some (u,v))=none
 | 0,m,x,y,z,hj,h=>by
  have b:=of_decide_eq_true h
  rw[Nat.pow_zero,Nat.mod_one,Nat.mul_one,Nat.add_zero]
  exact hj.zero C b
 | k+1,m,x,y,z,hj,h=>by
  have p:=mul_on C c m
  have i:=hj.twice C p
  rw[← mul_add C c] at i
  have o:e%2^(k+1)=e/2^k%2*2^k+e%2^k:=by
   rw[Nat.pow_succ,Nat.mod_mul,Nat.mul_comm (2^k) (e/2^k%2),Nat.add_comm]
  have n:2^(k+1)=2*2^k:=by rw[Nat.pow_succ,Nat.mul_comm]
  unfold runs at h
  simp only[fo_eq] at h
  by_cases b:e/2^k%2=1
  ·rw[if_pos b] at h
   by_cases l:twZ y z=0
   ·rw[if_pos l] at h
    cases h
   ·rw[if_neg l] at h
    have j:Jac u v 1 (some (u,v)):=⟨one_ne C,by grobner,by grobner⟩
    rcases i.plus C (mul_on C c _) j c l (one_ne C) with ⟨f,g,-⟩|⟨f,g⟩
    ·rw[if_pos ⟨f,g⟩] at h
     cases h
    ·rw[if_neg f] at h
     have d:=runs_ok C c e k (m+m+1) _ _ _ g h
     rw[o,b,n]
     rw[show m*(2*2^k)+(1*2^k+e%2^k)=(m+m+1)*2^k+e%2^k by
      rw[Nat.add_mul,Nat.add_mul,← Nat.mul_assoc,Nat.mul_comm m 2,Nat.two_mul,Nat.add_mul];omega]
     exact d
  ·rw[if_neg b] at h
   have f:e/2^k%2=0:=oM
   have d:=runs_ok C c e k (m+m) _ _ _ i h
   rw[o,f,n]
   rw[show m*(2*2^k)+(0*2^k+e%2^k)=(m+m)*2^k+e%2^k by
    rw[← Nat.mul_assoc,Nat.mul_comm m 2,Nat.two_mul];omega]
   exact d
def pL:Nat:=115792089237316195423570985008687907853269984665640564039457584007908834671663
def nL:Nat:=115792089237316195423570985008687907852837564279074904382605163141518161494337
instance:NeZero pL:=⟨dK⟩
theorem runs_g:runs (P:=pL) (Fin.ofNat pL 55066263022277343669578718895168534326250603453777594175500187360389116729240) (Fin.ofNat pL 32670510020758816978083085130507043184471273380659243275938904335757337482424) nL 255 (Fin.ofNat pL 55066263022277343669578718895168534326250603453777594175500187360389116729240) (Fin.ofNat pL 32670510020758816978083085130507043184471273380659243275938904335757337482424) 1=true:=dK
theorem small_n:2*pL+1<3*nL:=dK
theorem high_n:1*2^255+nL%2^255=nL:=dK
theorem order (C:Cur P) (c:P=pL) (k:On (some (Fin.ofNat P 55066263022277343669578718895168534326250603453777594175500187360389116729240,Fin.ofNat P 32670510020758816978083085130507043184471273380659243275938904335757337482424))) {r:Pt P} (b:On r):mul nL r=none:=by
 subst c
 refine order_of C (n:=nL) NT.pN small_n k (fun h=>by cases h) ?_ b
 have h:=runs_ok C k nL 255 1 _ _ 1 (by
  show Jac _ _ 1 (add none _)
  rw[none_add]
  exact ⟨one_ne C,by grobner,by grobner⟩) runs_g
 rwa[high_n] at h
end EC
section
theorem p1_nL2:Go.Proofs.YtlofhpkoaljmeaaGreat.p1=EC.nL:=dK
variable {P:Nat} [NeZero P]
theorem order2 (C:Fld P) (r:EC.Pt P) (b:EC.On r):EC.mul Go.Proofs.YtlofhpkoaljmeaaGreat.p1 r=none:=by
 rw[p1_nL2]
 have k:P=EC.pL:=by
  rw[C.eq]
  rfl
 exact EC.order C.cur k (gG_on C) b
end
section
open Go.RowKit Go.Sort Go.Deep SPA
variable {P:Nat} [NeZero P] {N:Nat}
theorem ordPG:Ord Go.Proofs.YtlofhpkoaljmeaaGreat.p1:=⟨gap1,refP1,dK,dK⟩
theorem primePG:NT.IsP Go.Proofs.YtlofhpkoaljmeaaGreat.p1:=by
 rw[p1_nL2]
 exact NT.pN
theorem audit_all (s:ByteArray) (q:Option Addr) (n c:Nat) (w:World) (h:n=0∨∃ g o,q=some ⟨g,o,none⟩∧∀ i,i<n→∃ x y:Nat,x<18446744073709551616∧y<18446744073709551616∧w.cell? ⟨g,o+3*i+1,none⟩=some (.int .u64 x)∧w.cell? ⟨g,o+3*i+2,none⟩=some (.int .u64 y)) :
 Calls Tryz.prog 3 #[.string s,.slice q n c] w fun e w'=>e=.returned (.bool true)∧Below w.heap.size w w':=by
 obtain ⟨P,u,C⟩:=fld
 have a:NeZero Go.Proofs.YtlofhpkoaljmeaaGreat.p1:=⟨dK⟩
 have hx:∀ i,∃ z:Nat × Nat,z.1<18446744073709551616∧z.2<18446744073709551616∧(i<n→∀ g o,q=some ⟨g,o,none⟩→w.cell? ⟨g,o+3*i+1,none⟩=some (.int .u64 (z.1:Int))∧w.cell? ⟨g,o+3*i+2,none⟩=some (.int .u64 (z.2:Int))):=fun i=>by
  by_cases b:i<n
  ·rcases h with h|⟨g,o,rfl,h⟩
   ·omega
   ·obtain ⟨x,y,f,d,k⟩:=h i b
    refine ⟨(x,y),f,d,fun _ l j e=>?_⟩
    injection e with e
    injection e with e1 e2
    rw[← e1,← e2]
    exact k
  ·exact ⟨(0,0),by decide,by decide,fun h=>absurd h b⟩
 refine (audit_w s q n c (fun i=>(hx i).choose.1) (fun i=>(hx i).choose.2) w (fun i=>(hx i).choose_spec.1) (fun i=>(hx i).choose_spec.2.1) (fun p=>?_) fun K A B n f d k m r t l q j c sc w=>books C ordPG (order2 C) primePG dK n f K A B d k m r t l q j c sc w).mono ?_
 ·rcases h with h|⟨g,o,rfl,h⟩
  ·omega
  ·obtain ⟨x,y,-,-,k,-⟩:=h 0 p
   exact ⟨g,o,rfl,World.block_lt_of_cell? _ _ k,fun i b=>(hx i).choose_spec.2.2 b g o rfl⟩
 ·rintro e w' ⟨v,rfl,h,rfl⟩
  exact ⟨rfl,h⟩
end
/-
  THE ROW OF 'AuditTrue' round its walk: a text and a slice of structs (three integers).
-/
namespace auditTrue
open Go.ChangeShapes Go.WideShapes Go.ChangeAt Go.RowKit
open Go.ChangeMaps (open_string shut_string)
theorem own:ownKnob Tryz.prog.godebug=none:=kR
theorem laidOut:laidOutB Tryz.prog=true:=kR
theorem cellsSt:Tryz.prog.cellsOf 26=3:=kR
theorem cells3:Tryz.prog.cellsOf 3=1:=kR
theorem cells24:Tryz.prog.cellsOf 24=1:=kR
theorem rangeU {n:Int} (h:(Lit.int .u64 n).wf=true):∃ m:Nat,m<18446744073709551616∧n=(m:Int):=by
 simp only[Lit.wf,Bool.and_eq_true,decide_eq_true_eq] at h
 have e:IntKind.u64.min=0:=dC
 have e':IntKind.u64.max=18446744073709551615:=dC
 rw[e,e'] at h
 exact ⟨n.toNat,oM,oM⟩
theorem op_of {H:Type} {enc:TypeId × Value→H} {W:World} {n:Nat} {cs:List Value} {x:DataW H × List MemPlace} (h:DataW.trod enc Tryz.prog W 0 (fun _=>true) true n 26 cs=some x) :
 ∃ (d:Int) (a b:Nat),a<18446744073709551616∧b<18446744073709551616∧cs=[.int .i64 d,.int .u64 a,.int .u64 b]:=by
 obtain ⟨w,v,z,m,_,g,j,p,i⟩:=Go.Deep.trod_struct3 Tryz.underlying26 h
 rw[cellsSt] at g
 match cs,g with
 | [a,b,c],_ =>
  obtain ⟨t,e,_,_⟩:=DataW.trod_int Tryz.underlying3 j
  obtain ⟨y,k,_,l⟩:=DataW.trod_int Tryz.underlying24 p
  obtain ⟨A,f,_,o⟩:=DataW.trod_int Tryz.underlying24 i
  obtain ⟨q,u,rfl⟩:=rangeU l
  obtain ⟨r,s,rfl⟩:=rangeU o
  simp only[cells3,cells24,List.drop_zero,List.drop_succ_cons,List.take_succ_cons,List.take_zero,List.cons.injEq,and_true] at e k f
  exact ⟨t,q,r,u,s,by rw[e,k,f]⟩
theorem lifted (T:Os) (r:T.Started) (H:Type) (enc:TypeId × Value→H) :
 ReturnsInHanded {} Tryz.checked T 3 .any (Rows.auditTrueSpec.pre6 enc Tryz.prog Tryz.f3 Rows.auditTrueRow.domain false) (Rows.auditTrueSpec.post enc Tryz.prog Tryz.f3 false true false false):=by
 refine returnsInHanded_of_change (C:=Tryz.checked) own r kR Tryz.func3
  (ChangeSpec.witness6 (enc:=enc) (C:=Tryz.checked) false ⟨#[],#[.string ByteArray.empty,.slice none 0 0],[]⟩ 8 kR kR kR kR) ?_
 intro W Y args ds gs B u R U _
 have f:=u
 have J:=R
 obtain ⟨p,q,G,hV,rfl,h8,h2⟩:=R
 have hA:=G
 rw[Tryz.params3] at hA f
 obtain ⟨v0,h7,d0,h4,p0,q0,I,rfl,rfl,h0,r0⟩:=trodAll_cons hA
 obtain ⟨v1,h6,d1,h5,p1,q1,rfl,rfl,rfl,Q,r1⟩:=trodAll_cons r0
 obtain ⟨rfl,rfl,rfl⟩:=trodAll_nil r1
 obtain rfl:args=#[v0,v1]:=by cases args;simp_all
 obtain ⟨rfl,rfl⟩:=trodVars_none hV
 obtain ⟨a0,rfl,rfl,rfl,w0⟩:=open_string Tryz.underlying9 (f 0 9 v0 rfl rfl) h0
 obtain ⟨S,len1,z,rfl⟩:=okWide_slice Tryz.underlying22 (f 1 22 v1 rfl rfl)
 have X:=Q
 have P:∀ x∈p1,x.block<W.heap.size:=by obtain ⟨m,hm⟩:=X;exact DataW.trod_lt m _ _ _ hm
 have O:len1=0∨∃ g o,S=some ⟨g,o,none⟩∧∀ i,i<len1→∃ x y:Nat,x<18446744073709551616∧y<18446744073709551616∧W.cell? ⟨g,o+3*i+1,none⟩=some (.int .u64 x)∧W.cell? ⟨g,o+3*i+2,none⟩=some (.int .u64 y):=by
  obtain ⟨Z,hf⟩:=Q
  rcases Go.Deep.open_slice Tryz.underlying22 hf with ⟨k,_⟩|⟨a,l,c,m,n,D,Pl,k,_,hl,hm,A,_,hx⟩
  ·simp[Value.cells] at k
   obtain ⟨rfl,rfl,rfl⟩:=k
   exact Or.inl rfl
  ·simp[Value.cells] at k
   obtain ⟨rfl,rfl,rfl⟩:=k
   simp only[if_true] at A
   subst A
   by_cases L:len1=0
   ·exact Or.inl L
   rw[cellsSt] at hx
   obtain ⟨b,off,w⟩:=a
   obtain ⟨h3,K,E⟩:=hx 0 oM
   obtain ⟨_,N,s⟩:=World.cells?_some K
   obtain ⟨_,_,_,_,_,rfl⟩:=op_of E
   have t:w=none:=by simpa[Addr.add] using World.cell?_spot (s 0 oM)
   subst t
   refine Or.inr ⟨b,off,rfl,fun i hi=>?_⟩
   obtain ⟨cs,hc,ht⟩:=hx i oM
   obtain ⟨_,V,v⟩:=World.cells?_some hc
   obtain ⟨d,x,y,F,M,rfl⟩:=op_of ht
   have e:∀ j,j<3→W.cell? ⟨b,off+3*i+j,none⟩=[Value.int .i64 d,.int .u64 x,.int .u64 y][j]?:=fun j hj=>by
    have:=v j hj
    rw[Addr.add_mid,Addr.add_mid] at this
    rw[Nat.mul_comm 3 i]
    exact this
   exact ⟨x,y,F,M,e 1 dC,e 2 dC⟩
 refine (audit_all a0 S len1 z W O).mono fun e W' ⟨k,bel⟩=>?_
 subst k
 exact ⟨_,rfl,_,_,_,[],_,[],J,trodAll_mk1 (shut_bool Tryz.underlying4 _),(trodAll_cons_mk (shut_string Tryz.underlying9 w0) (trodAll_cons_mk (Below.trod laidOut kR (of_decide_eq_true kR) X bel P) trodAll_mk0)),rfl,bel.frame _,fun h=>by cases h⟩
theorem over:Rows.auditTrueRow.holds Tryz.pinned (OpenSpec.ofChange Rows.auditTrueSpec):=
 OpenClaim.holds_of_wide 3 Tryz.f3 rfl rfl rfl rfl rfl rfl rfl ⟨rfl,rfl,rfl,rfl,rfl⟩ rfl rfl rfl rfl rfl kR Tryz.func3 kR
  (of_decide_eq_true kR) (by unfold Func.isWrapper;first|(rw[if_pos dK];kernel_rfl)|(rw[if_neg dK];exact ⟨rfl,rfl⟩))
  (fun b k H enc _=>lifted b k H enc)
theorem proved:Rows.AuditTrueSaid:=
 over
end auditTrue
section
theorem auditTrue_holds:Rows.AuditTrueSaid:=auditTrue.proved
#print axioms auditTrue_holds
end
end Go.Proofs.YtlofhpkoaljmeaaGreat
