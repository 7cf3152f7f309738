import Derived.Deep.AppendSrc
import Derived.Lib.ConvBytes
import Derived.Laws.MathBits
import Derived.Deep.LoopGhost
import Derived.Test.YtlofhpkoaljmeaaGreatat4
set_option linter.unusedVariables false
set_option linter.constructorNameAsVariable false
set_option linter.unusedSimpArgs false
set_option maxRecDepth 1000000
set_option maxHeartbeats 4000000
namespace Go.Proofs.YtlofhpkoaljmeaaGreat
section
open Go.RowKit Go.Sort Go.Deep Go.Shelf
variable {P:Nat} [NeZero P] {N:Nat}
theorem pointsOf_c (k:ByteArray) (a:Option Addr) (m c:Nat) (w:World) :
 Calls Tryz.prog 68 #[.string k,.slice a m c] w (Ret fun e w'=>e=.func (.func 117) #[] #[.pointer (some ⟨w.heap.size,0,none⟩),.pointer (some ⟨w.heap.size+1,0,none⟩)]∧w'=(w.alloc (.cells #[.string k] 9)).alloc (.cells #[.slice a m c] 23)):=by
 go_enter Tryz.func68,Tryz.ntmps68
 go_wp2
 go_ret
 exact ⟨_,rfl,rfl,rfl⟩
noncomputable def hpt (P:Nat) [NeZero P] (k:ByteArray) (b:List UInt8):Fin P × Fin P:=(cands P k b 256).headD (gX P,gY P)
theorem cand_on {k:ByteArray} {b:List UInt8} {i:Nat} {x:Fin P × Fin P} (h:cand P k b i=some x):x.2*x.2=x.1*x.1*x.1+7:=by
 unfold cand at h
 split at h
 ·obtain ⟨y,c,rfl⟩:=Option.map_eq_some_iff.1 h
  exact rt_sq c
 ·cases h
theorem cands_on {k:ByteArray} {b:List UInt8} {n:Nat} {x:Fin P × Fin P} (h:x∈cands P k b n):x.2*x.2=x.1*x.1*x.1+7:=by
 unfold cands at h
 obtain ⟨i,-,c⟩:=List.mem_filterMap.1 h
 exact cand_on c
theorem hpt_on (C:Fld P) (k:ByteArray) (b:List UInt8):EC.On (.some (hpt P k b):EC.Pt P):=by
 unfold hpt
 cases h:cands P k b 256 with
 | nil=>exact gG_on C
 | cons x r=>exact on_of (x:=x.1) (y:=x.2) (cands_on (by rw[h];exact List.mem_cons_self))
theorem some_wr (C:Fld P) (q:Fin P × Fin P) (h:EC.On (.some q:EC.Pt P)):by33 q.1 q.2=wr (.some q:EC.Pt P):=by33_wr C ⟨rfl,rfl⟩ h
theorem hpt_wr (C:Fld P) (k:ByteArray) (b:List UInt8):by33 (hpt P k b).1 (hpt P k b).2=wr (.some (hpt P k b):EC.Pt P):=some_wr C _ (hpt_on C k b)
theorem firstOf_c (C:Fld P) (k:ByteArray) (a:Option Addr) (m c:Nat) (b:List UInt8) (w:World) (f:k.size≤1000000) (p:SP.PartOk w (.slice a m c) b) :
 Calls Tryz.prog 67 #[.func (.func 117) #[] #[.pointer (some ⟨w.heap.size,0,none⟩),.pointer (some ⟨w.heap.size+1,0,none⟩)]] ((w.alloc (.cells #[.string k] 9)).alloc (.cells #[.slice a m c] 23)) (Ret fun e w'=>Below w.heap.size w w'∧e=pv (hpt P k b).1 (hpt P k b).2):=by
 have j:=RG.Made.alloc w [.string k] 9
 have i:=RG.Made.alloc (w.alloc (.cells #[.string k] 9)) [.slice a m c] 23
 have d:Below w.heap.size w ((w.alloc (.cells #[.string k] 9)).alloc (.cells #[.slice a m c] 23)):=((Below.refl _ w).alloc (Nat.le_refl _) _).alloc (by rw[World.size_alloc];omega) _
 have q:((w.alloc (.cells #[.string k] 9)).alloc (.cells #[.slice a m c] 23)).heap.size=w.heap.size+2:=by rw[World.size_alloc,World.size_alloc]
 have o:((w.alloc (.cells #[.string k] 9)).alloc (.cells #[.slice a m c] 23)).cell? ⟨w.heap.size,0,none⟩=some (.string k):=by
  rw[World.cell?_of_block (a:=⟨w.heap.size,0,none⟩) (Below.heap_alloc _ _ _ (by rw[World.size_alloc];exact Nat.lt_succ_self _))]
  exact j.range 0 _ rfl
 have l:((w.alloc (.cells #[.string k] 9)).alloc (.cells #[.slice a m c] 23)).cell? ⟨w.heap.size+1,0,none⟩=some (.slice a m c):=by
  have:=i.range 0 _ rfl
  rwa[World.size_alloc] at this
 refine (first_c C _ (cands P k b 256) 256 _ (fun n=>iter_c C k (.slice a m c) b w.heap.size (w.heap.size+1) _ f o l oM oM (p.below d) n)).mono ?_
 rintro e w' ⟨v,rfl,g,rfl⟩
 exact ⟨_,rfl,d.trans (g.mono d.size),rfl⟩
theorem HashTo_c (C:Fld P) (k:ByteArray) (a:Option Addr) (m c:Nat) (b:List UInt8) (w:World) (i:k.size≤1000000) (x:SP.PartOk w (.slice a m c) b) :
 Calls Tryz.prog 184 #[.string k,.slice a m c] w (Ret fun e w'=>Below w.heap.size w w'∧OutP w (wr (.some (hpt P k b):EC.Pt P)) e w'):=by
 have u:=firstOf_c C k a m c b w i x
 have l:∀ w,Calls Tryz.prog 70 #[pv (hpt P k b).1 (hpt P k b).2] w (Ret fun e w'=>Below w.heap.size w w'∧BytesR w (by33 (hpt P k b).1 (hpt P k b).2) e w'):=bytes_c C _ _
 rw[hpt_wr C] at l
 go_enter Tryz.func184,Tryz.ntmps184
 go_wp2_with fail
 refine (pointsOf_c k a m c w).mono ?_
 rintro e z ⟨v,rfl,rfl,rfl⟩
 go_wp2_with fail
 refine u.mono ?_
 rintro e A ⟨v,rfl,q,rfl⟩
 have f:=mk1 (q)
 go_wp2_with fail
 refine (l _).mono ?_
 rintro e t ⟨v,rfl,o,g,d,rfl,s,n,j,p⟩
 have r:=mk1 (f.trans (o.mono f.size))
 have y:Hid (OutP w (wr (.some (hpt P k b):EC.Pt P)) (.tuple #[.slice (some ⟨g,0,none⟩) 33 d,.int .i64 0]) t):=⟨g,d,rfl,s,Nat.le_trans f.size n,j,p⟩
 go_wp2
 go_ret2
 exact ⟨_,rfl,r.out,y.out⟩
end
section
open Go.RowKit Go.Sort Go.Deep
variable {P:Nat} [NeZero P] {N:Nat}
theorem cHash_c (C:Fld P) (lb:ByteArray) (x:lb.size≤1000000) (p:Option Addr) (o q:Nat) (tx:List UInt8) (w:World) (I:SP.PartOk w (.slice p o q) tx) :
 Calls Tryz.prog 130 #[.string lb,.slice p o q] w (Ret fun e w'=>Below w.heap.size w w'∧e=pvl (wr (.some (hpt P lb tx):EC.Pt P))):=by
 obtain ⟨T,u⟩:=hE (wr (.some (hpt P lb tx):EC.Pt P))
 have s:T.size=33:=by rw[← u.out];exact wr_size _
 rw[u.out]
 have G:=mk1 (C)
 have H:=Hid.mk' I
 have HL:=Hid.mk' x
 obtain ⟨j,b⟩:=hE (w.alloc (.cells z33.toArray 51))
 have m:Hid (Row j w.heap.size z33∧Below w.heap.size w j):=by rw[← b.out];exact ⟨row_new w _ _,below1 w _⟩
 obtain ⟨d,r,t⟩:=Option.map_eq_some_iff.1 uCP
 have D:=mk2 r t
 go_enter Tryz.func130,Tryz.ntmps130
 go_wp2_with (refine wpList_op (v:=.pointer (some ⟨w.heap.size,0,none⟩)) (w':=j) rfl (.alloc 51) rfl ?_ ?_;(rw[← b.out];kernel_rfl))
 refine (HashTo_c G.out lb p o q tx j HL.out (H.below m.2)).mono ?_
 rintro e a ⟨K,rfl,f,g,E,rfl,-,-,F,z⟩
 rw[u.out] at z
 have l:=mk3 (m.1.below f) (m.2.trans (f.mono m.2.size)) (row_cp z F)
 have B:=arrCP g E
 obtain ⟨y,c⟩:=hE (a.setCells w.heap.size 0 (bl33 T))
 have k:=bl33_length s
 have A:Hid (Row y w.heap.size (bl33 T)∧Below w.heap.size w y):=by rw[← c.out];exact ⟨l.1.put (by rw[k];rfl),RG.below_setCells (Nat.le_refl _) _ _ _ l.2.1⟩
 obtain ⟨J,i⟩:=hE (Value.agg (bl33 T).toArray)
 have n:Hid ((Tryz.prog.info? 51).map (·.size)=some (bl33 T).length∧a.there w.heap.size 0 (bl33 T).toArray.size∧(Tryz.prog.info? 51).map (·.size)=some (bl33 T).toArray.size):=by
  have e:(bl33 T).toArray.size=33:=by rw[List.size_toArray];exact k
  refine ⟨by rw[k];exact infoCP,by rw[e];exact l.1.2.2,by rw[e];exact infoCP⟩
 go_wp2_with (first|(refine wpList_load_mid rfl 51 _ rfl g 0 ?_ (bl33 T) d ?_ ?_ ?_ ?_ ?_;rfl;exact l.2.2.2.1;exact D.1;exact D.2;exact n.1;rw[i.out])|(refine wpList_store_mid rfl 51 _ _ rfl w.heap.size 0 (bl33 T).toArray ?_ ?_ ?_ ?_ ?_ ?_;rfl;exact i.symm;exact n.2.1;exact n.2.2;exact bl33_one T;rw[show (bl33 T).toArray.toList=bl33 T from rfl,c.out]))
 refine bodyPost_ret (results_cell 4 51 rfl A.1 rfl uCP n.1) rfl ?_
 exact ⟨_,rfl,A.2,rfl⟩
end
section
open Go.RowKit Go.Sort Go.Deep
variable {P:Nat} [NeZero P] {N:Nat}
theorem of1_c:Gives 15 #[.int .u64 1] (nv 1):=by
 intro w
 go_enter Tryz.func15,Tryz.ntmps15
 refine RG.M.enter [(0,.v (.int .u64 1))] 6 kR ?_
 intro a0 c
 repeat refine wp_seq ?_
 refine c.T [.m 0] [(0,RG.z 4)] [] [RG.z 4] [0,2] ⟨RG.mk 0 44,trivial⟩ ?_
 intro k g e d
 repeat refine wp_seq ?_
 refine d.T [.x (.int .u64 1),.x (nv 1),.x (nv 1),.u 0] [] [(0,3,wn 1)] [wn 1] [2] ⟨RG.st,RG.st,RG.st,RG.pt i40,trivial⟩ ?_
 intro a2 f b
 refine wp_ret ?_
 refine bodyPost_ret (v:=nv 1) (RG.results_row b.st 2 44 rfl 0 _ rfl (b.at (s:=(.p 0 0))) u40 i40) b.sl.defers ?_
 exact ⟨_,rfl,b.st.bel.below,rfl⟩
def Sm (B:Nat) (W:World) (v:Value) (l:List (Nat × Bs)):Prop:=∃ g c,v=.slice (some ⟨g,0,none⟩) l.length c∧l.length≤c∧B≤g∧g<W.heap.size∧W.rangeAt g 0 (cellsT l)
theorem Sm.grow {B:Nat} {W W':World} {v:Value} {l:List (Nat × Bs)} (h:Sm B W v l) (k:Below W.heap.size W W'):Sm B W' v l:=by
 obtain ⟨g,c,i,d,f,b,e⟩:=h
 exact ⟨g,c,i,d,f,Nat.lt_of_lt_of_le b k.size,RG.range_below e k b⟩
theorem cellsT_one' (n:Nat) (a:Bs):cellsT [(n,a)]=wn n++bl33 a:=by rw[cellsT_cons];exact List.append_nil _
theorem Sm.one {B W k n} {w:World} {a:Bs} (h:Row w k (wn n++bl33 a)) (b:B≤k) (c:w=W):Sm B W (.slice (some ⟨k,0,none⟩) 1 1) [(n,a)]:=by
 subst c
 exact ⟨k,1,rfl,Nat.le_refl _,b,h.1,by rw[cellsT_one'];exact h.2.1⟩
section
variable (a:Bs) (w:World) (k1:Nat)
end
theorem infoT':(Tryz.prog.info? 124).map (fun i=>(i.size,i.bytes,i.zero.map fun z=>z.cells.size))=some (37,72,some 37):=kR
theorem growT_c (n:Nat) (v:n≤10000000) (w:World):Calls Tryz.prog 108 #[.slice none 0 0,.int .i64 n] w (Ret fun e w'=>Below w.heap.size w w'∧w'.ownsRow w.heap.size 124 37 e 0 []):=by
 by_cases q:n=0
 ·subst q
  go_enter Tryz.func108,Tryz.ntmps108
  go_wp2
  go_ret
  exact ⟨_,rfl,Below.refl _ _,World.ownsRow_nil _ _ _ _⟩
 ·obtain ⟨i,t,m⟩:=Option.map_eq_some_iff.1 infoT'
  simp only[Prod.mk.injEq] at m
  obtain ⟨u,o,r⟩:=m
  obtain ⟨z,s,j⟩:=Option.map_eq_some_iff.1 r
  have g:=Lib.run_append_nil_zeros (P:=Tryz.prog) w 82 3 82 124 i z .i64 .i64 undS undI t s n oM oM oM (by rw[o];omega)
  have d:=grownCap_ge w n 0 124
  have k:=grownCap_le_maxLen w n 0 124 (by unfold maxLen;omega)
  have b:(Builtin.zeroCells z.cells n++Builtin.zeroCells z.cells (grownCap w n 0 124-n)).size=grownCap w n 0 124*37:=by rw[Array.size_append,size_zeroCells,size_zeroCells,j];omega
  generalize grownCap w n 0 124=l at g d k b
  generalize Builtin.zeroCells z.cells n++Builtin.zeroCells z.cells (l-n)=cur at g b
  obtain ⟨f,c⟩:∃ f,Hid (w.drew.alloc (.cells cur 124)=f):=⟨_,rfl⟩
  rw[c.out] at g
  have p:=Hid.mk' g
  have K:Hid (Below w.heap.size w f∧f.ownsRow w.heap.size 124 37 (.slice (some ⟨w.heap.size,0,none⟩) 0 l) 0 []):=by
   rw[← c.out]
   exact ⟨(Below.refl _ _).drew.alloc (Nat.le_refl _) _,World.ownsRow_made w.drew cur l (Nat.le_refl _) k b⟩
  go_enter Tryz.func108,Tryz.ntmps108
  go_wp2_with (at_builtin;refine Lib.wpList_append_run _ rfl _ _ _ _ rfl _ _ rfl rfl _ _ p.out ?_)
  go_ret
  exact ⟨_,rfl,K.1,K.2⟩
theorem cellsT_app (l m:List (Nat × Bs)):cellsT (l++m)=cellsT l++cellsT m:=by unfold cellsT;rw[List.flatMap_append]
theorem cellsT_ok (l:List (Nat × Bs)):∀ u∈cellsT l,u.oneCell'=true:=fun u k=>by
 unfold cellsT at k
 obtain ⟨x,-,hx⟩:=List.mem_flatMap.1 k
 exact cells_one x.1 x.2 u hx
theorem cellsT_len:∀ {l:List (Nat × Bs)},(∀ x∈l,x.2.size=33)→(cellsT l).length=l.length*37
 | [],_=>rfl
 | x :: r,h=>by
  rw[cellsT_cons,List.length_append,row_len (h x List.mem_cons_self),cellsT_len fun y k=>h y (List.mem_cons_of_mem _ k),List.length_cons]
  omega
theorem own_appT {b B:Nat} {W:World} {v x:Value} {l m:List (Nat × Bs)} (d:W.ownsRow b 124 37 v l.length (cellsT l)) (o:∀ y∈m,y.2.size=33) (hx:Sm B W x m) (G:l.length+m.length≤1000000) (s:b≤W.heap.size) :
 ∃ e W',(Builtin.append_ #[82,82] 82 #[v,x]).run Tryz.prog W=.ok e W'∧W'.ownsRow b 124 37 e (l++m).length (cellsT (l++m))∧W.grownBy W' v.ownBlock:=by
 obtain ⟨i,a,g⟩:=Option.map_eq_some_iff.1 infoT'
 simp only[Prod.mk.injEq] at g
 obtain ⟨q,n,p⟩:=g
 obtain ⟨z,t,f⟩:=Option.map_eq_some_iff.1 p
 obtain ⟨k,c,rfl,E,F,e3,A⟩:=hx
 obtain ⟨e,W',D,w,r,-⟩:=run_append_own (P:=Tryz.prog) W b 82 82 124 i z 37 72 undS a t q n f dC v l.length (cellsT l) d ⟨k,0,none⟩ m.length c (cellsT m) (cellsT_len o)
  (fun j u C=>by
   have:=A j u C
   rw[Nat.zero_add] at this
   rw[add0];exact this) (cellsT_ok m) (by unfold maxLen;omega) oM s
 exact ⟨e,W',D,by rw[List.length_append,cellsT_app];exact w,r⟩
end
section
open Go.RowKit Go.Sort Go.Deep
variable {P:Nat} [NeZero P] {N:Nat}
theorem atS (k o n c i:Nat) (b:i<n) (w:World):(Instr.indexAt 148 (.slice (some ⟨k,o,none⟩) n c) (.int .i64 i)).run Tryz.prog w=.ok (.pointer (some ⟨k,o+1*i,none⟩)) w:=by
 go_simp
def catT (L:Nat→List (Nat × Bs)) (k:Nat):List (Nat × Bs):=(List.range k).flatMap L
theorem catT_succ (L:Nat→List (Nat × Bs)) (i:Nat):catT L (i+1)=catT L i++L i:=by
 unfold catT
 rw[List.range_succ,List.flatMap_append]
 simp
theorem catT_le (L:Nat→List (Nat × Bs)) {k m:Nat} (b:∀ j,j<k→(L j).length≤m):∀ i,i≤k→(catT L i).length≤m*i
 | 0,_=>Nat.le_refl _
 | i+1,hi=>by
  have d:=catT_le L b i oM
  have c:=b i oM
  rw[catT_succ,List.length_append,Nat.mul_succ]
  omega
theorem concatT_c (g k c:Nat) (L:Nat→List (Nat × Bs)) (E:k≤1000) (S:∀ j,j<k→(L j).length≤600) (B:∀ j,j<k→∀ x∈L j,x.2.size=33) (w:World) (N:g<w.heap.size) (V:∀ j,j<k→∃ x,w.cell? ⟨g,j,none⟩=some x∧Sm 0 w x (L j)) :
 Calls Tryz.prog 62 #[.slice (some ⟨g,0,none⟩) k c] w (Ret fun e w'=>Below w.heap.size w w'∧w'.ownsRow w.heap.size 124 37 e (catT L k).length (cellsT (catT L k))):=by
 have HL:=Hid.mk' V
 have s:=mk1 (catT_le L S)
 have Q:=Hid.mk' N
 have T:=Hid.mk' B
 go_enter Tryz.func62,Tryz.ntmps62
 go_wp2_with fail
 go_loopg [3,11] k (fun m s3 s11 W=>∃ i:Nat,i+m=k∧s11=.int .i64 i∧s3=.int .i64 ((catT L i).length:Int)∧w=W)
 case atStart=>exact ⟨0,oM,rfl,rfl,rfl⟩
 case round =>
  obtain ⟨i,U,rfl,rfl,rfl⟩:=hrel
  by_cases I:i<k
  ·have z:(i:Int)<(k:Int):=oM
   obtain ⟨x,K,hE⟩:=HL.out i I
   obtain ⟨G,F,rfl,r,-⟩:=hE
   have l:=atS g 0 k c i I
   rw[show 0+1*i=i by omega] at l
   have d:(catT L (i+1)).length=(catT L i).length+(L i).length:=by rw[catT_succ,List.length_append]
   have n:=s.out i oM
   have o:=s.out (i+1) oM
   obtain ⟨a,q⟩:=hE ((catT L i).length)
   obtain ⟨b,f⟩:=hE ((L i).length)
   rw[q.out] at d n
   rw[f.out] at d r
   rw[q.out]
   rw[f.out] at K
   go_wp2
   go_roundg (gk-1)
   case measure=>omega
   case rel=>exact ⟨i+1,oM,rfl,by rw[d,Int.natCast_add],rfl⟩
  ·have z:¬ (i:Int)<(k:Int):=oM
   obtain rfl:i=k:=oM
   go_wp2_with fail
   refine (growT_c (catT L i).length (by have:=s.out i (Nat.le_refl _);omega) w).mono ?_
   rintro e X ⟨v,rfl,n,t⟩
   have P:=mk2 n t
   go_wp2_with fail
   go_loopg [6,27] i (fun m s6 s27 W=>∃ j:Nat,j+m=i∧s27=.int .i64 j∧Hid (Below w.heap.size w W∧W.ownsRow w.heap.size 124 37 s6 (catT L j).length (cellsT (catT L j))))
   case atStart=>exact ⟨0,oM,rfl,P⟩
   case round =>
    obtain ⟨j,R,rfl,f⟩:=hrel
    by_cases C:j<i
    ·have A:(j:Int)<(i:Int):=oM
     obtain ⟨x,r,q⟩:=HL.out j C
     have K:wr.cell? ⟨g,j,none⟩=some x:=by rw[f.1.cell (p:=⟨g,j,none⟩) Q.out];exact r
     have hE:=q.grow f.1
     have o:=s.out (j+1) oM
     have d:(catT L (j+1)).length=(catT L j).length+(L j).length:=by rw[catT_succ,List.length_append]
     obtain ⟨J,W',M,u,H⟩:=own_appT f.2 (T j C) hE (by rw[← d];omega) f.1.size
     rw[← catT_succ] at u
     have O:Hid (Below w.heap.size w W'∧W'.ownsRow w.heap.size 124 37 J (catT L (j+1)).length (cellsT (catT L (j+1)))):=⟨f.1.grown H f.1.size (fun k E=>(f.2.lt k E).1),u⟩
     have D:=Hid.mk' M
     obtain ⟨G,F,rfl,-⟩:=hE
     have l:=atS g 0 i c j C
     rw[show 0+1*j=j by omega] at l
     clear M u H d o f q r
     go_wp2_with (first|(refine wpList_app (x:=u6) (y:=.slice (some ⟨G,0,none⟩) (L j).length F) (v:=J) (w':=W') rfl _ _ 82 rfl ?_ ?_ ?_ ?_;rfl;rfl;exact D.out)|fail)
     go_roundg (gk-1)
     case measure=>omega
     case rel=>exact ⟨j+1,oM,rfl,O⟩
    ·have A:¬ (j:Int)<(i:Int):=oM
     obtain rfl:j=i:=oM
     go_wp2
     go_ret
     exact ⟨_,rfl,f.1,f.2⟩
theorem owns_sm {W:World} {k:Nat} {v:Value} {l:List (Nat × Bs)} (h:W.ownsRow k 124 37 v l.length (cellsT l)) (m:0<l.length):Sm k W v l:=by
 have d:=fun {g:Nat}=>h.cells (g:=g)
 rcases h.2 with ⟨-,i⟩|⟨g,cap,cur,rfl,f,c,b,-⟩
 ·omega
 ·refine ⟨g,cap,rfl,b,f,(Array.getElem?_eq_some_iff.1 c).1,fun j u e=>?_⟩
  have:=d (g:=g) rfl j u e
  rw[add0] at this
  rw[Nat.zero_add]
  exact this
theorem sumPlus_c (B:Nat) (s t:Value) (l m:List (Nat × Bs)) (a:0<l.length) (P:l.length≤500) (Q:m.length≤500) (q:∀ x∈l,x.2.size=33) (p:∀ x∈m,x.2.size=33) (w:World) (H:Sm B w s l) (C:Sm B w t m) :
 Calls Tryz.prog 31 #[s,t] w (Ret fun e w'=>Below w.heap.size w w'∧Sm w.heap.size w' e (l++m)):=by
 have L:=a
 obtain ⟨f,c1,J,-⟩:=id H
 obtain ⟨r,c2,K,-⟩:=id C
 subst J
 subst K
 obtain ⟨b,k⟩:=hE (w.alloc (.cells #[.slice (some ⟨f,0,none⟩) l.length c1,.slice (some ⟨r,0,none⟩) m.length c2] 82))
 have I:Below w.heap.size w b:=by rw[← k.out];exact below1 _ _
 have z:w.heap.size<b.heap.size:=by rw[← k.out,World.size_alloc];omega
 have F:b.rangeAt w.heap.size 0 [.slice (some ⟨f,0,none⟩) l.length c1,.slice (some ⟨r,0,none⟩) m.length c2]:=by rw[← k.out];exact (RG.Made.alloc w [.slice (some ⟨f,0,none⟩) l.length c1,.slice (some ⟨r,0,none⟩) m.length c2] 82).range
 have M:=Hid.mk' (concatT_c w.heap.size 2 2 (fun j=>if j=0 then l else m) dC (fun j _=>by show (if j=0 then l else m).length≤600;split<;>omega) (fun j _=>by
  show ∀ x∈(if j=0 then l else m),x.2.size=33
  split
  ·exact q
  ·exact p) b z (fun j d=>by
  have y:∀ {v:Value} {l:List (Nat × Bs)},Sm B w v l→Sm 0 b v l:=fun h=>by
   obtain ⟨g,c,n,i,-,o,u⟩:=h.grow I
   exact ⟨g,c,n,i,Nat.zero_le _,o,u⟩
  have d:j=0∨j=1:=oM
  rcases d with rfl|rfl
  ·exact ⟨_,F 0 _ rfl,y H⟩
  ·exact ⟨_,F 1 _ rfl,y C⟩))
 have d:catT (fun j=>if j=0 then l else m) 2=l++m:=by rw[catT_succ,catT_succ];rfl
 have A:=Hid.mk' I
 have D:Hid (catT (fun j=>if j=0 then l else m) 2=l++m∧0<(l++m).length):=⟨d,by rw[List.length_append];omega⟩
 go_enter Tryz.func31,Tryz.ntmps31
 go_wp2_with fail
 rw[k.out]
 refine M.mono ?_
 rintro e E ⟨O,rfl,y,ho⟩
 rw[D.1] at ho
 have G:Hid (Below w.heap.size w E∧Sm w.heap.size E O (l++m)):=by
  obtain ⟨g,c,n,i,N,o,u⟩:=owns_sm ho D.2
  exact ⟨A.trans (y.mono A.size),g,c,n,i,Nat.le_trans A.size N,o,u⟩
 go_wp2
 go_ret
 exact ⟨_,rfl,G.1,G.2⟩
theorem Sm.point (C:Fld P) (O:Ord N) (b:∀ r:EC.Pt P,EC.On r→EC.mul N r=none) {B:Nat} {w:World} {v:Value} {l:List (Nat × Bs)} (h:Sm B w v l) (m:0<l.length) (q:l.length≤512) (D:∀ x∈l,x.1<N) (f:PtsL P l) :
 Calls Tryz.prog 33 #[v] w (Ret fun e w'=>Below w.heap.size w w'∧e=pvl (wr (sumL P l))):=by
 obtain ⟨g,c,rfl,-,-,s,z⟩:=h
 have d:∀ x∈l.map (·.2),x.size=33:=fun x hx=>by
  obtain ⟨y,k,rfl⟩:=List.mem_map.1 hx
  obtain ⟨X,-,e⟩:=f y k
  rw[e];exact wr_size _
 have i:∀ j (k:j<l.length),((l[j]?).getD (0,#[]))=l[j]:=fun j k=>by rw[List.getElem?_eq_getElem k];rfl
 have p:∀ j,j<l.length→EC.On (unwr P ((l[j]?).getD (0,#[])).2):=fun j k=>by rw[i j k];exact f.on C (List.getElem_mem k)
 refine (sumPoint_c C O b g l.length c m q (fun j=>((l[j]?).getD (0,#[])).1) (fun j=>unwr P ((l[j]?).getD (0,#[])).2) (fun j k=>by rw[i j k];exact D _ (List.getElem_mem k)) p w s (fun j k=>?_)).mono ?_
 ·rw[i j k]
  obtain ⟨X,a,n⟩:=f _ (List.getElem_mem k)
  rw[n,unwr_wr C a,← n]
  intro t u o
  have E:t<37:=by
   have:=(List.getElem?_eq_some_iff.1 o).1
   rw[row_len (d _ (List.mem_map.2 ⟨_,List.getElem_mem k,rfl⟩))] at this
   exact this
  have:=z (37*j+t) u (by rw[cellsT_at l d j k t E];exact o)
  rw[Nat.zero_add] at this
  exact this
 ·rintro e w' ⟨u,rfl,n,rfl⟩
  refine ⟨_,rfl,n,?_⟩
  rw[tot_sumL C l f _ (Nat.le_refl _),List.take_length]
theorem mul_twoB (C:Fld P) {a b:EC.Pt P} (c:EC.On a) (k:EC.On b):∀ n,EC.mul n (EC.add a b)=EC.add (EC.mul n a) (EC.mul n b)
 | 0=>rfl
 | n+1=>by
  show EC.add (EC.mul n (EC.add a b)) (EC.add a b)=EC.add (EC.add (EC.mul n a) a) (EC.add (EC.mul n b) b)
  rw[mul_twoB C c k n]
  exact C.cur.swap (EC.mul_on C.cur c n) (EC.mul_on C.cur k n) c k
def SmZ (B:Nat) (W:World) (v:Value) (l:List (Nat × Bs)):Prop:=(v=.slice none 0 0∧l=[])∨Sm B W v l
theorem SmZ.grow {B:Nat} {W W':World} {v:Value} {l:List (Nat × Bs)} (h:SmZ B W v l) (k:Below W.heap.size W W'):SmZ B W' v l:=by
 rcases h with h|h
 ·exact Or.inl h
 ·exact Or.inr (h.grow k)
theorem SmZ.form {B:Nat} {W:World} {v:Value} {l:List (Nat × Bs)} (h:SmZ B W v l):∃ q c,v=.slice q l.length c∧l.length≤c:=by
 rcases h with ⟨rfl,rfl⟩|⟨g,c,b,k,-⟩
 ·exact ⟨none,0,rfl,Nat.le_refl _⟩
 ·exact ⟨_,_,b,k⟩
theorem app_nn:∀ W:World,(Builtin.append_ #[82,82] 82 #[.slice none 0 0,.slice none 0 0]).run Tryz.prog W=.ok (.slice none 0 0) W:=fun W=>kR
theorem own_appZ {b B:Nat} {W:World} {v x:Value} {l m:List (Nat × Bs)} (k:W.ownsRow b 124 37 v l.length (cellsT l)) (d:∀ y∈m,y.2.size=33) (hx:SmZ B W x m) (n:l.length+m.length≤1000000) (e:b≤W.heap.size) :
 ∃ c W',(Builtin.append_ #[82,82] 82 #[v,x]).run Tryz.prog W=.ok c W'∧W'.ownsRow b 124 37 c (l++m).length (cellsT (l++m))∧W.grownBy W' v.ownBlock:=by
 rcases hx with ⟨rfl,rfl⟩|hx
 ·rw[List.append_nil]
  rcases id k.2 with ⟨rfl,q⟩|⟨g,cap,cur,rfl,s,o,r,-⟩
  ·exact ⟨_,_,app_nn W,k,⟨rfl,rfl,rfl,Nat.le_refl _,fun _ _ _=>rfl⟩⟩
  ·obtain ⟨i,f,p⟩:=Option.map_eq_some_iff.1 infoT'
   have:=run_append_room_src (P:=Tryz.prog) W 82 82 82 124 i undS f g 0 l.length cap (.slice none 0 0) 0 [] (Src.ofNil (e':=124) _ undS 0) oM (fun j c=>by cases c) (fun j c=>by cases c)
   exact ⟨_,_,this,k,⟨rfl,rfl,rfl,Nat.le_refl _,fun _ _ _=>rfl⟩⟩
 ·exact own_appT k d hx n e
theorem concatZ_c (g k c:Nat) (L:Nat→List (Nat × Bs)) (E:k≤1000) (S:∀ j,j<k→(L j).length≤600) (B:∀ j,j<k→∀ x∈L j,x.2.size=33) (w:World) (N:g<w.heap.size) (V:∀ j,j<k→∃ x,w.cell? ⟨g,j,none⟩=some x∧SmZ 0 w x (L j)) :
 Calls Tryz.prog 62 #[.slice (some ⟨g,0,none⟩) k c] w (Ret fun e w'=>Below w.heap.size w w'∧w'.ownsRow w.heap.size 124 37 e (catT L k).length (cellsT (catT L k))):=by
 have HL:=Hid.mk' V
 have s:=mk1 (catT_le L S)
 have Q:=Hid.mk' N
 have T:=Hid.mk' B
 go_enter Tryz.func62,Tryz.ntmps62
 go_wp2_with fail
 go_loopg [3,11] k (fun m s3 s11 W=>∃ i:Nat,i+m=k∧s11=.int .i64 i∧s3=.int .i64 ((catT L i).length:Int)∧w=W)
 case atStart=>exact ⟨0,oM,rfl,rfl,rfl⟩
 case round =>
  obtain ⟨i,U,rfl,rfl,rfl⟩:=hrel
  by_cases I:i<k
  ·have z:(i:Int)<(k:Int):=oM
   obtain ⟨x,K,hE⟩:=HL.out i I
   obtain ⟨G,F,rfl,r⟩:=hE.form
   have l:=atS g 0 k c i I
   rw[show 0+1*i=i by omega] at l
   have d:(catT L (i+1)).length=(catT L i).length+(L i).length:=by rw[catT_succ,List.length_append]
   have n:=s.out i oM
   have o:=s.out (i+1) oM
   obtain ⟨a,q⟩:∃ a,Hid ((catT L i).length=a):=⟨_,rfl⟩
   obtain ⟨b,f⟩:∃ b,Hid ((L i).length=b):=⟨_,rfl⟩
   rw[q.out] at d n
   rw[f.out] at d r
   rw[q.out]
   rw[f.out] at K
   go_wp2
   go_roundg (gk-1)
   case measure=>omega
   case rel=>exact ⟨i+1,oM,rfl,by rw[d,Int.natCast_add],rfl⟩
  ·have z:¬ (i:Int)<(k:Int):=oM
   obtain rfl:i=k:=oM
   go_wp2_with fail
   refine (growT_c (catT L i).length (by have:=s.out i (Nat.le_refl _);omega) w).mono ?_
   rintro e X ⟨v,rfl,n,t⟩
   have P:=mk2 n t
   go_wp2_with fail
   go_loopg [6,27] i (fun m s6 s27 W=>∃ j:Nat,j+m=i∧s27=.int .i64 j∧Hid (Below w.heap.size w W∧W.ownsRow w.heap.size 124 37 s6 (catT L j).length (cellsT (catT L j))))
   case atStart=>exact ⟨0,oM,rfl,P⟩
   case round =>
    obtain ⟨j,R,rfl,f⟩:=hrel
    by_cases C:j<i
    ·have A:(j:Int)<(i:Int):=oM
     obtain ⟨x,r,q⟩:=HL.out j C
     have K:wr.cell? ⟨g,j,none⟩=some x:=by rw[f.1.cell (p:=⟨g,j,none⟩) Q.out];exact r
     have hE:=q.grow f.1
     have o:=s.out (j+1) oM
     have d:(catT L (j+1)).length=(catT L j).length+(L j).length:=by rw[catT_succ,List.length_append]
     obtain ⟨J,W',M,u,H⟩:=own_appZ f.2 (T j C) hE (by rw[← d];omega) f.1.size
     rw[← catT_succ] at u
     have O:Hid (Below w.heap.size w W'∧W'.ownsRow w.heap.size 124 37 J (catT L (j+1)).length (cellsT (catT L (j+1)))):=⟨f.1.grown H f.1.size (fun k E=>(f.2.lt k E).1),u⟩
     have D:=Hid.mk' M
     obtain ⟨G,F,rfl,-⟩:=hE.form
     have l:=atS g 0 i c j C
     rw[show 0+1*j=j by omega] at l
     clear M u H d o f q r
     go_wp2_with (first|(refine wpList_app (x:=u6) (y:=.slice G (L j).length F) (v:=J) (w':=W') rfl _ _ 82 rfl ?_ ?_ ?_ ?_;rfl;rfl;exact D.out)|fail)
     go_roundg (gk-1)
     case measure=>omega
     case rel=>exact ⟨j+1,oM,rfl,O⟩
    ·have A:¬ (j:Int)<(i:Int):=oM
     obtain rfl:j=i:=oM
     go_wp2
     go_ret
     exact ⟨_,rfl,f.1,f.2⟩
theorem sumPlusZ_c (B:Nat) (s t:Value) (l m:List (Nat × Bs)) (a:0<(l++m).length) (O:l.length≤500) (P:m.length≤500) (q:∀ x∈l,x.2.size=33) (p:∀ x∈m,x.2.size=33) (w:World) (H:SmZ B w s l) (C:SmZ B w t m) :
 Calls Tryz.prog 31 #[s,t] w (Ret fun e w'=>Below w.heap.size w w'∧Sm w.heap.size w' e (l++m)):=by
 obtain ⟨f,c1,J,-⟩:=H.form
 obtain ⟨r,c2,K,-⟩:=C.form
 subst J
 subst K
 obtain ⟨b,k⟩:=hE (w.alloc (.cells #[.slice f l.length c1,.slice r m.length c2] 82))
 have I:Below w.heap.size w b:=by rw[← k.out];exact below1 _ _
 have z:w.heap.size<b.heap.size:=by rw[← k.out,World.size_alloc];omega
 have F:b.rangeAt w.heap.size 0 [.slice f l.length c1,.slice r m.length c2]:=by rw[← k.out];exact (RG.Made.alloc w [.slice f l.length c1,.slice r m.length c2] 82).range
 have L:=Hid.mk' (concatZ_c w.heap.size 2 2 (fun j=>if j=0 then l else m) dC (fun j _=>by show (if j=0 then l else m).length≤600;split<;>omega) (fun j _=>by
  show ∀ x∈(if j=0 then l else m),x.2.size=33
  split
  ·exact q
  ·exact p) b z (fun j d=>by
  have y:∀ {v:Value} {l:List (Nat × Bs)},SmZ B w v l→SmZ 0 b v l:=fun h=>by
   rcases h.grow I with h|⟨g,c,n,i,-,o,u⟩
   ·exact Or.inl h
   ·exact Or.inr ⟨g,c,n,i,Nat.zero_le _,o,u⟩
  have d:j=0∨j=1:=oM
  rcases d with rfl|rfl
  ·exact ⟨_,F 0 _ rfl,y H⟩
  ·exact ⟨_,F 1 _ rfl,y C⟩))
 have d:catT (fun j=>if j=0 then l else m) 2=l++m:=by rw[catT_succ,catT_succ];rfl
 have A:=Hid.mk' I
 have D:=mk2 d a
 go_enter Tryz.func31,Tryz.ntmps31
 go_wp2_with fail
 rw[k.out]
 refine L.mono ?_
 rintro e E ⟨N,rfl,y,ho⟩
 rw[D.1] at ho
 have G:Hid (Below w.heap.size w E∧Sm w.heap.size E N (l++m)):=by
  obtain ⟨g,c,n,i,M,o,u⟩:=owns_sm ho D.2
  exact ⟨A.trans (y.mono A.size),g,c,n,i,Nat.le_trans A.size M,o,u⟩
 go_wp2
 go_ret
 exact ⟨_,rfl,G.1,G.2⟩
theorem index_nil (w:World):Calls Tryz.prog 165 #[.slice none 0 0,.func (.func 110) #[] #[]] w (Ret fun e w'=>Below w.heap.size w w'∧e=.int .i64 (-1)):=by
 go_enter Tryz.func165,Tryz.ntmps165
 go_wp2
 go_loopg [8] 0 (fun q s8 W=>q=0∧s8=.int .i64 0∧W=w)
 case atStart=>exact ⟨rfl,rfl,rfl⟩
 case round =>
  obtain ⟨rfl,rfl,rfl⟩:=hrel
  go_wp2
  go_ret
  exact ⟨_,rfl,Below.refl _ _,rfl⟩
theorem delete_nil (w:World):Calls Tryz.prog 109 #[.slice none 0 0,.func (.func 110) #[] #[]] w (Ret fun e w'=>Below w.heap.size w w'∧e=.slice none 0 0):=by
 have b:=index_nil
 go_enter Tryz.func109,Tryz.ntmps109
 go_wp2_with fail
 refine (b w).mono ?_
 rintro e d ⟨v1,rfl,k,rfl⟩
 have c:=Hid.mk' k
 clear k b
 go_wp2
 go_ret
 exact ⟨_,rfl,c.out,rfl⟩
theorem merged_nil (w:World):Calls Tryz.prog 63 #[.slice none 0 0] w (Ret fun e w'=>Below w.heap.size w w'∧e=.slice none 0 0):=by
 have c:(Instr.makeMap 202 none).run Tryz.prog w=.ok (.map (some w.heap.size)) (w.alloc (.map #[] 0)):=kR
 obtain ⟨d,k⟩:∃ d,Hid (w.alloc (.map #[] 0)=d):=⟨_,rfl⟩
 rw[k.out] at c
 have f:Hid (Below w.heap.size w d):=by rw[← k.out];exact below1 w _
 have g:=Hid.mk' delete_nil
 clear k
 go_enter Tryz.func63,Tryz.ntmps63
 go_wp2
 clear c
 go_loopg [4,12] 0 (fun q s4 s12 W=>q=0∧s4=.slice none 0 0∧s12=.int .i64 0∧W=d)
 case atStart=>exact ⟨rfl,rfl,rfl,rfl⟩
 case round =>
  obtain ⟨rfl,rfl,rfl,rfl⟩:=hrel
  go_wp2_with fail
  refine (g wr).mono ?_
  rintro e j ⟨v2,rfl,b,rfl⟩
  have i:Hid (Below w.heap.size w j):=f.trans (b.mono f.size)
  clear b g f
  go_wp2
  go_ret
  exact ⟨_,rfl,i.out,rfl⟩
theorem point_nil (C:Fld P) (O:Ord N) (w:World):Calls Tryz.prog 33 #[.slice none 0 0] w (Ret fun e w'=>Below w.heap.size w w'∧e=pvl (wr (none:EC.Pt P))):=by
 refine (sumPoint_g C O (.slice none 0 0) w 0 dC (fun _=>0) (fun _=>none) (fun j b=>absurd b (Nat.not_lt_zero _)) (fun j b=>absurd b (Nat.not_lt_zero _)) fun W _=>(merged_nil W).mono ?_).mono ?_
 ·rintro e w' ⟨v,rfl,k,rfl⟩
  exact ⟨_,rfl,k,_,_,rfl,fun h=>absurd h (Nat.lt_irrefl _)⟩
 ·rintro e w' ⟨v,rfl,k,rfl⟩
  exact ⟨_,rfl,k,rfl⟩
end
section
open Go.RowKit Go.Sort Go.Deep
variable {P:Nat} [NeZero P] {N:Nat}
structure Kp (w:World) (W:World) (rs:List (Nat × List Value)):Prop where
 bl:Below w.heap.size w W
 rw:∀ x∈rs,Row W x.1 x.2
theorem Kp.grow {w W W':World} {rs:List (Nat × List Value)} (h:Kp w W rs) (k:Below W.heap.size W W'):Kp w W' rs:=⟨h.bl.trans (k.mono h.bl.size),fun x hx=>(h.rw x hx).below k⟩
theorem Kp.drew {w W:World} {rs:List (Nat × List Value)} (h:Kp w W rs):Kp w W.drew rs:=⟨h.bl.drew,h.rw⟩
theorem Kp.at {w W:World} {rs:List (Nat × List Value)} (h:Kp w W rs) {k:Nat} {c:List Value} (i:Nat) (b:rs[i]? = some (k,c)):Row W k c:=h.rw _ (List.mem_of_getElem? b)
def Nw (B:Nat) (c:List Value) (v:Value) (W:World):Prop:=∃ k,v=.pointer (some ⟨k,0,none⟩)∧B≤k∧Row W k c
section
variable (w:World) (k6 k8 k9 k10 x kk c z B0:Nat) (A F:Bs) (v1:Value)
def R5:Nat→Value→World→Prop
 | 0,v,_=>v=nv kk
 | 1,v,_=>v=pvl A
 | 2,v,_=>v=pvl F
 | 3,v,W=>Nw B0 z33 v W
 | _,_,_=>True
def Two (v:Value) (W:World):Prop:=∃ k y,v=.slice (some ⟨k,0,none⟩) 2 2∧k<W.heap.size∧W.cell? ⟨k,0,none⟩=some (.slice (some ⟨k9,0,none⟩) 33 33)∧W.cell? ⟨k,1,none⟩=some y∧El 32 W y (bx z)
def Ans (v:Value) (W:World):Prop:=W.ownsRow B0 5 1 v 65 ((F.toList++(bx z).toList).map encB)
def R7:Nat→Value→World→Prop
 | 0,v,_=>v=.slice (some ⟨k9,0,none⟩) 33 33
 | 1,v,_=>v=nv c
 | 2,v,_=>v=nv kk
 | 3,v,_=>v=nv x
 | 4,v,_=>v=nv z
 | 5,v,W=>El 32 W v (bx z)
 | 6,v,W=>Two k9 z v W
 | 7,v,W=>Ans z B0 F v W
 | 8,v,W=>Ans z B0 F v W
 | 9,v,_=>v=.int .i64 0
 | _,_,_=>True
end
end
section
open Go.RowKit Go.Sort Go.Deep
variable {P:Nat} [NeZero P] {N:Nat}
theorem results_ct {P:Program} {c:Func} {tmps:Array Value} {W:World} {k:Nat} {vs:List Value} {v:Value} (t u:Tmp) (T:TypeId) (i:c.results=#[.cell t T,.tmp u]) (h:Row W k vs) (l:tmps[t]? = some (.pointer (some ⟨k,0,none⟩))) (hv:tmps[u]? = some v)
 (b:(P.underlying T).map (·.isRow)=some true) (j:(P.info? T).map (·.size)=some vs.length):(results c tmps).run P W=.ok (.tuple #[.agg vs.toArray,v]) W:=by
 obtain ⟨d,b,hd⟩:=Option.map_eq_some_iff.1 b
 have g:=run_loadVar_mid (P:=P) W k 0 T vs d h.2.1 b hd j
 have e:tmps.getD t undef=.pointer (some ⟨k,0,none⟩):=by rw[Array.getD_eq_getD_getElem?,l];rfl
 have f:tmps.getD u undef=v:=by rw[Array.getD_eq_getD_getElem?,hv];rfl
 unfold results
 rw[i]
 simp only[Array.mapM_eq_mapM_toList,List.mapM_cons,List.mapM_nil,e,f,asAddr]
 simp[Sem.run_bind,g]
theorem bldCP (w:World):(Instr.build 51 #[]).run Tryz.prog w=.ok (.agg z33.toArray) w:=kR
theorem arrCPo (g o k:Nat) (w:World):(Instr.arrayAt 51 (.slice (some ⟨g,o,none⟩) 33 k)).run Tryz.prog w=.ok (.pointer (some ⟨g,o,none⟩)) w:=kR
theorem rd_33 {k:Bs} {p:Fin P × Fin P} (h:rd P k=some p):k.size=33:=by
 unfold rd at h
 split at h
 ·assumption
 ·cases h
theorem holds_rng {W:World} {g o:Nat} {b:Bs} (h:Holds encB W g o b):W.rangeAt g o (bl33 b):=fun j u c=>by
 unfold bl33 at c
 rw[List.getElem?_map] at c
 obtain ⟨x,hx,rfl⟩:=Option.map_eq_some_iff.1 c
 have k:j<b.size:=by have:=(List.getElem?_eq_some_iff.1 hx).1;simpa using this
 rw[(h j k).1,getElem!_pos b j k]
 rw[Array.getElem?_toList,Array.getElem?_eq_getElem k] at hx
 rw[Option.some.inj hx]
theorem cRead_y (C:Fld P) (v:Value) (k:Bs) (p:Fin P × Fin P) (w:World) (hv:Arg33 w v k) (a:rd P k=some p):Calls Tryz.prog 57 #[v] w (Ret fun e w'=>Below w.heap.size w w'∧e=.tuple #[pvl k,.bool true]):=by
 have E:=rd_33 a
 have J:Hid (∀ W,Below w.heap.size w W→Calls Tryz.prog 103 #[v] W (Ret fun e w'=>Below W.heap.size W w'∧e=.bool true)):=fun W I=>by
  have h:=gPoint_c C v k W (hv.below I)
  rw[a] at h
  exact h
 obtain ⟨q,n,cap,rfl,y,G⟩:=hv
 rw[E] at y
 subst y
 obtain ⟨g,o,rfl,-,H,L⟩:=G rfl
 have F:=mk2 (holds_rng L) H
 obtain ⟨m,i⟩:=hE (w.alloc (.cells z33.toArray 51))
 have f:Hid (Row m w.heap.size z33∧Below w.heap.size w m):=by rw[← i.out];exact ⟨row_new w _ _,below1 w _⟩
 obtain ⟨d,t,u⟩:=Option.map_eq_some_iff.1 uCP
 have D:=mk2 t u
 have K:=Hid.mk' E
 have B:=arrCPo g o cap
 go_enter Tryz.func57,Tryz.ntmps57
 go_wp2_with (first|(refine wpList_op (v:=.pointer (some ⟨w.heap.size,0,none⟩)) (w':=m) rfl (.alloc 51) rfl ?_ ?_;(rw[← i.out];kernel_rfl))|fail)
 refine (J m f.2).mono ?_
 rintro e z ⟨N,rfl,c,rfl⟩
 have r:=mk3 (f.1.below c) (f.2.trans (c.mono f.2.size)) (RG.range_below F.1 (f.2.trans (c.mono f.2.size)) F.2)
 obtain ⟨x,j⟩:=hE (z.setCells w.heap.size 0 (bl33 k))
 have b:=bl33_length K.out
 have A:Hid (Row x w.heap.size (bl33 k)∧Below w.heap.size w x):=by rw[← j.out];exact ⟨r.1.put (by rw[b];rfl),RG.below_setCells (Nat.le_refl _) _ _ _ r.2.1⟩
 obtain ⟨M,l⟩:=hE (Value.agg (bl33 k).toArray)
 have s:Hid ((Tryz.prog.info? 51).map (·.size)=some (bl33 k).length∧z.there w.heap.size 0 (bl33 k).toArray.size∧(Tryz.prog.info? 51).map (·.size)=some (bl33 k).toArray.size):=by
  have e:(bl33 k).toArray.size=33:=by rw[List.size_toArray];exact b
  refine ⟨by rw[b];exact infoCP,by rw[e];exact r.1.2.2,by rw[e];exact infoCP⟩
 go_wp2_with (first|(refine wpList_load_mid rfl 51 _ rfl g o ?_ (bl33 k) d ?_ ?_ ?_ ?_ ?_;rfl;exact r.2.2;exact D.1;exact D.2;exact s.1;rw[l.out])|(refine wpList_store_mid rfl 51 _ _ rfl w.heap.size 0 (bl33 k).toArray ?_ ?_ ?_ ?_ ?_ ?_;rfl;exact l.symm;exact s.2.1;exact s.2.2;exact bl33_one k;rw[show (bl33 k).toArray.toList=bl33 k from rfl,j.out])|fail)
 refine bodyPost_ret (results_ct 2 3 51 rfl A.1 rfl rfl uCP s.1) rfl ?_
 exact ⟨_,rfl,A.2,rfl⟩
theorem cRead_n (C:Fld P) (v:Value) (l:Bs) (w:World) (hv:Arg33 w v l) (r:rd P l=none):Calls Tryz.prog 57 #[v] w (Ret fun e w'=>Below w.heap.size w w'∧e=.tuple #[.agg z33.toArray,.bool false]):=by
 have s:Hid (∀ W,Below w.heap.size w W→Calls Tryz.prog 103 #[v] W (Ret fun e w'=>Below W.heap.size W w'∧e=.bool false)):=fun W q=>by
  have h:=gPoint_c C v l W (hv.below q)
  rw[r] at h
  exact h
 obtain ⟨f,k⟩:=hE (w.alloc (.cells z33.toArray 51))
 have g:Hid (Row f w.heap.size z33∧Below w.heap.size w f):=by rw[← k.out];exact ⟨row_new w _ _,below1 w _⟩
 obtain ⟨p,d⟩:=hE (Value.agg z33.toArray)
 have t:Hid (z33.toArray.all (·.oneCell')=true):=by show _=_;decide +kernel
 go_enter Tryz.func57,Tryz.ntmps57
 go_wp2_with (first|(refine wpList_op (v:=.pointer (some ⟨w.heap.size,0,none⟩)) (w':=f) rfl (.alloc 51) rfl ?_ ?_;(rw[← k.out];kernel_rfl))|fail)
 refine (s f g.2).mono ?_
 rintro e i ⟨u,rfl,c,rfl⟩
 have j:=mk2 (g.1.below c) (g.2.trans (c.mono g.2.size))
 obtain ⟨m,b⟩:=hE (i.setCells w.heap.size 0 z33)
 have n:Hid (Row m w.heap.size z33∧Below w.heap.size w m):=by rw[← b.out];exact ⟨j.1.put rfl,RG.below_setCells (Nat.le_refl _) _ _ _ j.2⟩
 have o:=Hid.mk' (bldCP i)
 rw[d.out] at o
 go_wp2_with (first|(refine wpList_bld (v:=p) (w':=i) rfl 51 _ rfl #[] ?_ ?_ ?_;kernel_rfl;exact o.out)|(refine wpList_store_mid rfl 51 _ _ rfl w.heap.size 0 z33.toArray ?_ ?_ ?_ ?_ ?_ ?_;rfl;exact d.symm;exact j.1.2.2;exact infoCP;exact t.out;rw[show z33.toArray.toList=z33 from rfl,b.out])|fail)
 refine bodyPost_ret (results_ct 2 3 51 rfl n.1 rfl rfl uCP infoCP) rfl ?_
 exact ⟨_,rfl,n.2,rfl⟩
theorem atP (k o n c i:Nat) (b:i<n) (w:World):(Instr.indexAt 83 (.slice (some ⟨k,o,none⟩) n c) (.int .i64 i)).run Tryz.prog w=.ok (.pointer (some ⟨k,o+33*i,none⟩)) w:=by
 go_simp
theorem mkPL (N:Nat) (f:N≤512):∃ C0:List Value,C0.length=33*N∧∀ w:World,(Instr.makeSlice 83 (.int .i64 N) (.int .i64 N)).run Tryz.prog w=.ok (.slice (some ⟨w.heap.size,0,none⟩) N N) (w.alloc (.cells C0.toArray 51)):=by
 have g:Tryz.prog.underlying 83=some (.slice 51):=kR
 have j:(Tryz.prog.info? 51).map (fun i=>(i.size,decide (i.bytes≤4000),i.zero.isSome))=some (33,true,true):=kR
 obtain ⟨i,b,k⟩:=Option.map_eq_some_iff.1 j
 simp only[Prod.mk.injEq,decide_eq_true_eq] at k
 obtain ⟨n,e,m⟩:=k
 obtain ⟨z,d⟩:=Option.isSome_iff_exists.1 m
 refine ⟨(madeCells z.cells (N*33)).toList,by rw[Array.length_toList,size_madeCells,Nat.mul_comm],fun w=>?_⟩
 have c:(i.bytes:Int)*(N:Int)≤281474976710656:=by
  have:i.bytes*N≤4000*512:=Nat.mul_le_mul e f
  have l:((i.bytes*N:Nat):Int)≤281474976710656:=oM
  rwa[Int.natCast_mul] at l
 have:=run_make (P:=Tryz.prog) w 83 51 i z g b d .i64 .i64 (N:Int) (N:Int) oM oM c oM
 rw[Int.toNat_natCast,n] at this
 rw[Array.toArray_toList]
 exact this
structure Az (w W:World) (K k i:Nat) (L:Nat→Bs):Prop where
 bl:Below w.heap.size w W
 lt:K<W.heap.size
 th:W.there K 0 (33*k)
 rw:∀ j,j<i→W.rangeAt K (33*j) (bl33 (L j))
theorem Az.grow {w W W':World} {K k i:Nat} {L:Nat→Bs} (h:Az w W K k i L) (b:Below W.heap.size W W'):Az w W' K k i L:=
 ⟨h.bl.trans (b.mono h.bl.size),Nat.lt_of_lt_of_le h.lt b.size,RG.there_below h.th b h.lt,fun j c=>RG.range_below (h.rw j c) b h.lt⟩
theorem Az.put {w W:World} {K k i:Nat} {L:Nat→Bs} (h:Az w W K k i L) (d:w.heap.size≤K) (g:i<k) (c:∀ j,j≤i→(L j).size=33):Az w (W.setCells K (33*i) (bl33 (L i))) K k (i+1) L:=by
 refine ⟨RG.below_setCells d _ _ _ h.bl,by rw[RG.setCells_size];exact h.lt,World.there_setCells h.th _ _ _,fun j f=>?_⟩
 by_cases b:j=i
 ·subst b
  refine World.rangeAt_setCells_same W K _ _ fun t e=>?_
  rw[bl33_length (c j (Nat.le_refl _))] at e
  have:=h.th (33*j+t) oM
  rwa[Nat.zero_add] at this
 ·exact World.rangeAt_setCells_apart (h.rw j oM) K _ _ (Or.inr (Or.inl (by rw[bl33_length (c j oM)];omega)))
def AllR (P:Nat) [NeZero P] (w:World) (k:Nat) (L:Nat→Bs) (e:Value) (w':World):Prop:=
 Below w.heap.size w w'∧(((∀ j,j<k→∃ p,rd P (L j)=some p)∧∃ K,e=.tuple #[.slice (some ⟨K,0,none⟩) k k,.bool true]∧w.heap.size≤K∧K<w'.heap.size∧∀ j,j<k→w'.rangeAt K (33*j) (bl33 (L j)))∨((∃ j,j<k∧rd P (L j)=none)∧e=.tuple #[.slice none 0 0,.bool false]))
def AllRt (P:Nat) [NeZero P] (w:World) (k:Nat) (L:Nat→Bs) (e:Value) (w':World):Prop:=
 Below w.heap.size w w'∧(((∀ j,j<k→∃ p,rd P (L j)=some p)∧∃ K,e=.tuple #[.slice (some ⟨K,0,none⟩) k k,.bool true]∧w.heap.size≤K∧K<w'.heap.size∧w'.there K 0 (33*k)∧∀ j,j<k→w'.rangeAt K (33*j) (bl33 (L j)))∨((∃ j,j<k∧rd P (L j)=none)∧e=.tuple #[.slice none 0 0,.bool false]))
theorem allP_x (C:Fld P) (D o k c:Nat) (hk:k≤512) (L:Nat→Bs) (w:World) (hg:D<w.heap.size) (hL:∀ j,j<k→∃ v,w.cell? ⟨D,o+j,none⟩=some v∧Arg33 w v (L j)) :
 Calls Tryz.prog 56 #[.func (.func 57) #[] #[],.slice (some ⟨D,o,none⟩) k c] w (Ret (AllRt P w k L)):=by
 obtain ⟨C0,Q,R⟩:=mkPL k hk
 have s:=R w
 obtain ⟨w1,A⟩:=hE (w.alloc (.cells C0.toArray 51))
 rw[A.out] at s
 have HM:=Hid.mk' s
 have K1:Hid (Az w w1 w.heap.size k 0 L):=by
  have hR:Row w1 w.heap.size C0:=by rw[← A.out];exact row_new w _ _
  refine ⟨by rw[← A.out];exact below1 _ _,hR.1,by rw[← Q];exact hR.2.2,fun j U=>oM⟩
 have S:Hid (Fld P∧(∀ j,j<k→∃ v,w.cell? ⟨D,o+j,none⟩=some v∧Arg33 w v (L j))∧D<w.heap.size):=⟨C,hL,hg⟩
 obtain ⟨d,I,N⟩:=Option.map_eq_some_iff.1 uCP
 have HD:=mk2 I N
 have HO:Hid (z33.toArray.all (·.oneCell')=true):=by show _=_;decide +kernel
 clear I N C hL hg R Q A
 go_enter Tryz.func56,Tryz.ntmps56
 go_wp2
 clear s
 go_loopg [16] k (fun m s16 W=>∃ i:Nat,i+m=k∧s16=.int .i64 i∧Hid (Az w W w.heap.size k i L∧∀ j,j<i→∃ p,rd P (L j)=some p))
 case atStart=>exact ⟨0,oM,rfl,K1.out,fun j U=>oM⟩
 case round =>
  obtain ⟨i,h0,rfl,x⟩:=hrel
  by_cases K:i<k
  ·have Y:(i:Int)<(k:Int):=oM
   obtain ⟨v,O,J⟩:=S.2.1 i K
   have hc:wr.cell? ⟨D,o+i,none⟩=some v:=by rw[x.1.bl.cell (p:=⟨D,o+i,none⟩) S.2.2];exact O
   have HA:Hid (Arg33 wr v (L i)):=J.below x.1.bl
   have X:=atB D o k c i K
   rw[show o+1*i=o+i by omega] at X
   clear O J
   obtain ⟨b,z⟩:∃ b,Hid (L i=b):=⟨_,rfl⟩
   rw[z.out] at HA
   obtain ⟨g,f⟩:∃ g:Nat,True:=⟨0,trivial⟩
   clear f g
   cases M:rd P b with
   | none =>
    go_wp2_with fail
    refine (cRead_n S.1 v b wr HA.out M).mono ?_
    rintro e a ⟨vv,rfl,F,rfl⟩
    obtain ⟨vz,l⟩:=hE (Value.agg z33.toArray)
    rw[l.out]
    obtain ⟨g,f⟩:=hE (a.heap.size)
    obtain ⟨y,n⟩:=hE (a.alloc (.cells z33.toArray 51))
    obtain ⟨G,u⟩:=hE (y.setCells g 0 z33)
    have E:Hid (Row y g z33∧Below w.heap.size w y∧w.heap.size≤g):=by
     have r:=x.1.bl.trans (F.mono x.1.bl.size)
     rw[← n.out,← f.out]
     exact ⟨row_new a _ _,r.alloc r.size _,r.size⟩
    have B:Hid (Below w.heap.size w G):=by rw[← u.out];exact RG.below_setCells E.2.2 _ _ _ E.2.1
    have r:Hid (i<k∧rd P (L i)=none):=⟨K,by rw[z.out];exact M⟩
    go_wp2_with (first|(refine wpList_op (v:=.pointer (some ⟨g,0,none⟩)) (w':=y) rfl (.alloc 51) rfl ?_ ?_;(rw[← n.out,← f.out];kernel_rfl))|(refine wpList_store_mid rfl 51 _ _ rfl g 0 z33.toArray ?_ ?_ ?_ ?_ ?_ ?_;rfl;exact l.symm;exact E.1.2.2;exact infoCP;exact HO.out;rw[show z33.toArray.toList=z33 from rfl,u.out])|fail)
    go_ret2
    exact ⟨_,rfl,B.out,Or.inr ⟨⟨i,r.out⟩,rfl⟩⟩
   | some p =>
    have hs:=rd_33 M
    go_wp2_with fail
    refine (cRead_y S.1 v b p wr HA.out M).mono ?_
    rintro e a ⟨vv,rfl,F,rfl⟩
    obtain ⟨vz,l⟩:=hE (pvl b)
    rw[l.out]
    have r:=bl33_length hs
    have Z:(bl33 b).toArray.size=33:=by rw[List.size_toArray];exact r
    obtain ⟨g,f⟩:=hE (a.heap.size)
    obtain ⟨y,n⟩:=hE (a.alloc (.cells z33.toArray 51))
    obtain ⟨G,u⟩:=hE (y.setCells g 0 (bl33 b))
    obtain ⟨W4,H⟩:=hE (G.setCells w.heap.size (33*i) (bl33 b))
    have A1:=x.1.grow F
    have E:Hid (Row y g z33∧Below a.heap.size a y):=by
     rw[← n.out,← f.out]
     exact ⟨row_new a _ _,below1 _ _⟩
    have T:Hid (Row G g (bl33 b)∧Az w G w.heap.size k i L):=by
     rw[← u.out]
     exact ⟨E.1.put (by rw[r];rfl),A1.grow (RG.below_setCells (by rw[f.out];exact Nat.le_refl _) _ _ _ E.2)⟩
    have K4:Hid (Az w W4 w.heap.size k (i+1) L∧∀ j,j<i+1→∃ p,rd P (L j)=some p):=by
     have B:∀ j,j<i+1→∃ p,rd P (L j)=some p:=fun j U=>by
      by_cases V:j=i
      ·subst V;exact ⟨p,by rw[z.out];exact M⟩
      ·exact x.2 j oM
     have h:=T.2.put (Nat.le_refl _) K (fun j U=>by obtain ⟨q,V⟩:=B j oM;exact rd_33 V)
     rw[z.out,H.out] at h
     exact ⟨h,B⟩
    have B:Hid ((Tryz.prog.info? 51).map (·.size)=some (bl33 b).length∧(Tryz.prog.info? 51).map (·.size)=some (bl33 b).toArray.size∧y.there g 0 (bl33 b).toArray.size∧G.there w.heap.size (33*i) (bl33 b).toArray.size):=by
     rw[r,Z]
     refine ⟨infoCP,infoCP,E.1.2.2,fun t V=>?_⟩
     have:=T.2.th (33*i+t) oM
     rwa[Nat.zero_add] at this
    have V:=atP w.heap.size 0 k k i K
    go_wp2_with (first|(refine wpList_op (v:=.pointer (some ⟨g,0,none⟩)) (w':=y) rfl (.alloc 51) rfl ?_ ?_;(rw[← n.out,← f.out];kernel_rfl))|(refine wpList_store_mid rfl 51 _ _ rfl g 0 (bl33 b).toArray ?_ ?_ ?_ ?_ ?_ ?_;rfl;exact l.symm;exact B.2.2.1;exact B.2.1;exact bl33_one b;rw[show (bl33 b).toArray.toList=bl33 b from rfl,u.out])|(refine wpList_load_mid rfl 51 _ rfl g 0 ?_ (bl33 b) d ?_ ?_ ?_ ?_ ?_;rfl;exact T.1.2.1;exact HD.1;exact HD.2;exact B.1;rw[show Value.agg (bl33 b).toArray=vz from l.out])|(refine wpList_store_mid rfl 51 _ _ rfl w.heap.size (33*i) (bl33 b).toArray ?_ ?_ ?_ ?_ ?_ ?_;rfl;exact l.symm;exact B.2.2.2;exact B.2.1;exact bl33_one b;rw[show (bl33 b).toArray.toList=bl33 b from rfl,H.out])|fail)
    go_roundg (gk-1)
    case measure=>omega
    case rel=>exact ⟨i+1,oM,rfl,K4⟩
  ·have Y:¬ (i:Int)<(k:Int):=oM
   obtain rfl:i=k:=oM
   go_wp2
   go_ret2
   exact ⟨_,rfl,x.1.bl,Or.inl ⟨x.2,w.heap.size,rfl,Nat.le_refl _,x.1.lt,x.1.th,x.1.rw⟩⟩
theorem allP_t (C:Fld P) (b k c:Nat) (g:k≤512) (L:Nat→Bs) (w:World) (d:b<w.heap.size) (f:∀ j,j<k→∃ v,w.cell? ⟨b,j,none⟩=some v∧Arg33 w v (L j)) :
 Calls Tryz.prog 56 #[.func (.func 57) #[] #[],.slice (some ⟨b,0,none⟩) k c] w (Ret (AllRt P w k L)):=allP_x C b 0 k c g L w d fun j e=>by rw[Nat.zero_add];exact f j e
theorem allP_c (C:Fld P) (b k c:Nat) (f:k≤512) (L:Nat→Bs) (w:World) (i:b<w.heap.size) (p:∀ j,j<k→∃ v,w.cell? ⟨b,j,none⟩=some v∧Arg33 w v (L j)) :
 Calls Tryz.prog 56 #[.func (.func 57) #[] #[],.slice (some ⟨b,0,none⟩) k c] w (Ret (AllR P w k L)):=by
 refine (allP_t C b k c f L w i p).mono ?_
 rintro e w' ⟨v,rfl,o,h⟩
 refine ⟨_,rfl,o,?_⟩
 rcases h with ⟨n,K,d,m,g,-,l⟩|h
 ·exact Or.inl ⟨n,K,d,m,g,l⟩
 ·exact Or.inr h
end
section
open Go.RowKit Go.Sort Go.Deep
variable {P:Nat} [NeZero P] {N:Nat}
theorem opp1_c (O:Ord N) {a:Nat} (b:a<N):Gives 37 #[nv a] (nv (sMi N 0 a)):=by
 intro w
 have h:=sMin_c O 0 a O.pos b
 generalize sMi N 0 a=m at h ⊢
 go_enter Tryz.func37,Tryz.ntmps37
 refine RG.M.enter [(0,.v (nv a))] 6 kR ?_
 intro a0 c
 repeat refine wp_seq ?_
 refine c.T [.m 0,.m 1] [(0,wn a),(1,RG.z 4)] [] [wn a,RG.z 4] [1,2] ⟨RG.mk 0 44,RG.mk 1 44,trivial⟩ ?_
 intro e f j g d
 repeat refine wp_seq ?_
 refine d.T [.x (nv 0),.x (nv a),.c (nv m),.u 1] [] [(1,3,wn m)] [wn a,wn m] [2] ⟨RG.st,RG.ld u40 i40,RG.cl h,RG.pt i40,trivial⟩ ?_
 intro a2 i k
 refine wp_ret ?_
 refine bodyPost_ret (v:=nv m) (RG.results_row k.st 2 44 rfl 1 _ rfl (k.at (s:=(.p 1 0))) u40 i40) k.sl.defers ?_
 exact ⟨_,rfl,k.st.bel.below,rfl⟩
theorem mkTL (N:Nat) (f:N≤512):∃ C0:List Value,C0.length=37*N∧∀ w:World,(Instr.makeSlice 82 (.int .i64 N) (.int .i64 N)).run Tryz.prog w=.ok (.slice (some ⟨w.heap.size,0,none⟩) N N) (w.alloc (.cells C0.toArray 124)):=by
 have g:(Tryz.prog.info? 124).map (fun i=>(i.size,decide (i.bytes≤4000),i.zero.isSome))=some (37,true,true):=kR
 obtain ⟨i,b,k⟩:=Option.map_eq_some_iff.1 g
 simp only[Prod.mk.injEq,decide_eq_true_eq] at k
 obtain ⟨m,e,l⟩:=k
 obtain ⟨z,d⟩:=Option.isSome_iff_exists.1 l
 refine ⟨(madeCells z.cells (N*37)).toList,by rw[Array.length_toList,size_madeCells,Nat.mul_comm],fun w=>?_⟩
 have c:(i.bytes:Int)*(N:Int)≤281474976710656:=by
  have:i.bytes*N≤4000*512:=Nat.mul_le_mul e f
  have j:((i.bytes*N:Nat):Int)≤281474976710656:=oM
  rwa[Int.natCast_mul] at j
 have:=run_make (P:=Tryz.prog) w 82 124 i z undS b d .i64 .i64 (N:Int) (N:Int) oM oM c oM
 rw[Int.toNat_natCast,m] at this
 rw[Array.toArray_toList]
 exact this
theorem cells_row {W:World} {g:Nat} {l:List (Nat × Bs)} (k:∀ x∈l.map (·.2),x.size=33) (d:W.rangeAt g 0 (cellsT l)) (j:Nat) (b:j<l.length):W.rangeAt g (37*j) (wn (l[j]).1++bl33 (l[j]).2):=fun t u c=>by
 have e:t<37:=by
  have:=(List.getElem?_eq_some_iff.1 c).1
  rw[row_len (k _ (List.mem_map.2 ⟨_,List.getElem_mem b,rfl⟩))] at this
  exact this
 have:=d (37*j+t) u (by rw[cellsT_at l k j b t e];exact c)
 rw[Nat.zero_add] at this
 exact this
theorem rows_cells {W:World} {g:Nat} {l:List (Nat × Bs)} (k:∀ x∈l.map (·.2),x.size=33) (i:∀ j (b:j<l.length),W.rangeAt g (37*j) (wn (l[j]).1++bl33 (l[j]).2)):W.rangeAt g 0 (cellsT l):=fun t u f=>by
 have d:t<l.length*37:=by
  have:=(List.getElem?_eq_some_iff.1 f).1
  rwa[cellsT_len fun x hx=>k _ (List.mem_map.2 ⟨x,hx,rfl⟩)] at this
 have b:t/37<l.length:=Nat.div_lt_of_lt_mul oM
 have m:t%37<37:=Nat.mod_lt _ dC
 have e:37*(t/37)+t%37=t:=Nat.div_add_mod _ _
 have c:=cellsT_at l k (t/37) b (t%37) m
 rw[e,f] at c
 have:=i (t/37) b (t%37) u c.symm
 rw[e] at this
 rw[Nat.zero_add]
 exact this
def tmT (N n:Nat) (x:Nat × Bs):Nat × Bs:=(sTi N n x.1,x.2)
structure Tz (w W:World) (N n K k3 i:Nat) (l:List (Nat × Bs)):Prop where
 bl:Below w.heap.size w W
 lt:K<W.heap.size
 ne:k3≠K
 th:W.there K 0 (37*l.length)
 r3:Row W k3 (wn n)
 rw:∀ j (hj:j<l.length),j<i→W.rangeAt K (37*j) (wn (tmT N n (l[j])).1++bl33 (tmT N n (l[j])).2)
theorem Tz.grow {w W W':World} {n K c i:Nat} {l:List (Nat × Bs)} (h:Tz w W N n K c i l) (k:Below W.heap.size W W'):Tz w W' N n K c i l:=
 ⟨h.bl.trans (k.mono h.bl.size),Nat.lt_of_lt_of_le h.lt k.size,h.ne,RG.there_below h.th k h.lt,h.r3.below k,fun j d b=>RG.range_below (h.rw j d b) k h.lt⟩
theorem Tz.drew {w W:World} {n K k i:Nat} {l:List (Nat × Bs)} (h:Tz w W N n K k i l):Tz w W.drew N n K k i l:=⟨h.bl.drew,h.lt,h.ne,h.th,h.r3,h.rw⟩
theorem Tz.put {w W:World} {n K d i:Nat} {l:List (Nat × Bs)} (h:Tz w W N n K d i l) (f:w.heap.size≤K) (o:i<l.length) (c:∀ x∈l.map (·.2),x.size=33):Tz w (W.setCells K (37*i) (wn (tmT N n (l[i])).1++bl33 (tmT N n (l[i])).2)) N n K d (i+1) l:=by
 have b:∀ (j:Nat) (k:j<l.length),(wn (tmT N n (l[j])).1++bl33 (tmT N n (l[j])).2).length=37:=fun j k=>row_len (c _ (List.mem_map.2 ⟨_,List.getElem_mem k,rfl⟩))
 refine ⟨RG.below_setCells f _ _ _ h.bl,by rw[RG.setCells_size];exact h.lt,h.ne,World.there_setCells h.th _ _ _,⟨by rw[RG.setCells_size];exact h.r3.1,World.rangeAt_setCells_apart h.r3.2.1 K _ _ (Or.inl h.ne),World.there_setCells h.r3.2.2 _ _ _⟩,fun j k g=>?_⟩
 by_cases e:j=i
 ·subst e
  refine World.rangeAt_setCells_same W K _ _ fun t m=>?_
  rw[b j k] at m
  have:=h.th (37*j+t) oM
  rwa[Nat.zero_add] at this
 ·exact World.rangeAt_setCells_apart (h.rw j k oM) K _ _ (Or.inr (Or.inl (by rw[b j k];omega)))
section
variable (w:World) (n K k3 k7 i s m:Nat) (p:Bs) (l:List (Nat × Bs))
def Rt:Nat→Value→World→Prop
 | 0,v,_=>v=.slice (some ⟨K,0,none⟩) l.length l.length
 | 1,v,_=>v=.int .i64 i
 | 2,v,_=>v=nv n
 | 3,v,_=>v=.pointer (some ⟨k7,0,none⟩)
 | 4,v,_=>v=nv s
 | 5,v,_=>v=nv m
 | 6,v,_=>v=.pointer (some ⟨k7,4,none⟩)
 | 7,v,_=>v=pvl p
 | 8,v,_=>v=tvl m p
 | 9,v,_=>v=.pointer (some ⟨K,0+37*i,none⟩)
 | _,_,_=>True
def Gt (N:Nat):RG.Gw:=⟨Rt n K k7 i s m p l,fun W=>Tz w W N n K k3 i l∧Row W k7 (wn s++bl33 p),fun j v W W' k h=>by
 match j,h with
 | 0,h=>exact h
 | 1,h=>exact h
 | 2,h=>exact h
 | 3,h=>exact h
 | 4,h=>exact h
 | 5,h=>exact h
 | 6,h=>exact h
 | 7,h=>exact h
 | 8,h=>exact h
 | 9,h=>exact h
 | _+10,_=>trivial,fun W W' k h=>⟨h.1.grow k,h.2.below k⟩⟩
end
theorem sumTimes_c (O:Ord N) {n:Nat} (hn:n<N) (B:Nat) (s:Value) (l:List (Nat × Bs)) (hl:l.length≤512) (h9:∀ x∈l.map (·.2),x.size=33) (Y:∀ x∈l,x.1<N) (w:World) (hS:Sm B w s l) :
 Calls Tryz.prog 149 #[s,nv n] w (Ret fun e w'=>Below w.heap.size w w'∧Sm w.heap.size w' e (l.map (tmT N n))):=by
 obtain ⟨g,c,rfl,hc,-,hg,hr⟩:=hS
 have HB:=Hid.mk' (boxS n w)
 obtain ⟨C,r⟩:∃ C,Hid (w.alloc (.cells (wn n).toArray 44)=C):=⟨_,rfl⟩
 rw[r.out] at HB
 obtain ⟨G,D⟩:∃ k,Hid (w.heap.size=k):=⟨_,rfl⟩
 obtain ⟨K,hK⟩:∃ k,Hid (C.heap.size=k):=⟨_,rfl⟩
 have e1:K=G+1:=by rw[← hK.out,← D.out,← r.out,World.size_alloc]
 obtain ⟨C0,h7,h8⟩:=mkTL l.length hl
 have I:=h8 C
 obtain ⟨X,F⟩:∃ X,Hid (C.alloc (.cells C0.toArray 124)=X):=⟨_,rfl⟩
 rw[F.out,hK.out] at I
 rw[D.out] at HB
 have K2:Hid (Tz w X N n K G 0 l):=by
  have f:Row C G (wn n):=by rw[← r.out,← D.out];exact row_new w _ _
  have b1:Below w.heap.size w C:=by rw[← r.out];exact below1 _ _
  have o:Below C.heap.size C X:=by rw[← F.out];exact below1 _ _
  have d:Row X K C0:=by rw[← F.out,← hK.out];exact row_new C _ _
  exact ⟨b1.trans (o.mono b1.size),d.1,oM,by rw[← h7];exact d.2.2,f.below o,fun j hj q=>oM⟩
 have A:Hid (Ord N∧n<N∧(∀ x∈l.map (·.2),x.size=33)∧(∀ x∈l,x.1<N)∧g<w.heap.size∧w.rangeAt g 0 (cellsT l)∧w.heap.size≤K):=⟨O,hn,h9,Y,hg,hr,by rw[D.out];omega⟩
 obtain ⟨d',h6,h3⟩:=Option.map_eq_some_iff.1 uT
 have HD:Hid (Tryz.prog.underlying 124=some d'∧d'.isRow=true):=⟨h6,h3⟩
 obtain ⟨vn,hq⟩:∃ v,Hid (nv n=v):=⟨_,rfl⟩
 rw[hq.out] at HB ⊢
 clear h6 h3 O hn h9 Y hg hr h8 h7 r F hK D e1
 go_enter Tryz.func149,Tryz.ntmps149
 go_wp2_with (first|(refine wpList_box (u:=vn) (v:=.pointer (some ⟨G,0,none⟩)) (w':=C) rfl 44 (.tmp 1) rfl ?_ ?_ ?_;rfl;exact HB.out)|fail)
 clear I
 go_loopg [13] l.length (fun m s13 W=>∃ i:Nat,i+m=l.length∧s13=.int .i64 i∧Hid (Tz w W N n K G i l))
 case atStart=>exact ⟨0,oM,rfl,K2⟩
 case round =>
  clear K2 HB
  obtain ⟨i,k0,rfl,T⟩:=hrel
  by_cases o:i<l.length
  ·have hm:(i:Int)<(l.length:Int):=oM
   obtain ⟨s,L⟩:∃ s,Hid ((l[i]'o).1=s):=⟨(l[i]'o).1,(rfl:(l[i]'o).1=(l[i]'o).1)⟩
   obtain ⟨p,S⟩:∃ p,Hid ((l[i]'o).2=p):=⟨(l[i]'o).2,(rfl:(l[i]'o).2=(l[i]'o).2)⟩
   have E:Hid (p.size=33):=by rw[← S.out];exact A.2.2.1 _ (List.mem_map.2 ⟨_,List.getElem_mem o,rfl⟩)
   have hk:Hid (s<N):=by rw[← L.out];exact A.2.2.2.1 _ (List.getElem_mem o)
   have B0:Hid (wr.rangeAt g (37*i) (wn s++bl33 p)):=by
    have h:=RG.range_below (cells_row A.2.2.1 A.2.2.2.2.2.1 i o) T.bl A.2.2.2.2.1
    rw[L.out,S.out] at h
    exact h
   obtain ⟨q,H⟩:∃ k,Hid (wr.heap.size=k):=⟨_,rfl⟩
   obtain ⟨P,J⟩:∃ P,Hid (wr.alloc (.cells zT.toArray 124)=P):=⟨_,rfl⟩
   obtain ⟨W2,M⟩:∃ W2,Hid (P.setCells q 0 (wn s++bl33 p)=W2):=⟨_,rfl⟩
   have f:(wn s++bl33 p).length=37:=row_len E.out
   have F1:Hid (Row P q zT∧Below wr.heap.size wr P):=by rw[← J.out,← H.out];exact ⟨row_new wr _ _,below1 wr _⟩
   have F2:Hid (Row W2 q (wn s++bl33 p)∧Tz w W2 N n K G i l):=by
    rw[← M.out]
    exact ⟨F1.1.put (by rw[f];rfl),T.grow (RG.below_setCells (by rw[H.out];exact Nat.le_refl _) _ _ _ F1.2)⟩
   have hs:Hid ((Tryz.prog.info? 124).map (·.size)=some (wn s++bl33 p).length):=by show _=_;rw[f];exact iT
   have h0:Hid ((Tryz.prog.info? 124).map (·.size)=some (wn s++bl33 p).toArray.size∧P.there q 0 (wn s++bl33 p).toArray.size):=by
    have e:(wn s++bl33 p).toArray.size=37:=by rw[List.size_toArray];exact f
    rw[e];exact ⟨iT,F1.1.2.2⟩
   have he:Hid ((wn s++bl33 p).toArray.all (·.oneCell')=true):=by
    show _=_
    rw[Array.all_eq_true']
    intro u Z
    exact cells_one s p u (List.mem_toArray.1 Z)
   have hw:=atT g 0 l.length c i o
   obtain ⟨vt,h5⟩:∃ v,Hid (Value.agg (wn s++bl33 p).toArray=v):=⟨_,rfl⟩
   have HL:Hid (i<l.length):=o
   clear f T F1
   go_wp2_with (first|(refine wpList_load_mid rfl 124 _ rfl g (37*i) ?_ (wn s++bl33 p) d' ?_ ?_ ?_ ?_ ?_;rfl;exact B0.out;exact HD.1;exact HD.2;exact hs.out;rw[h5.out])|(refine wpList_op (v:=.pointer (some ⟨q,0,none⟩)) (w':=P) rfl (.alloc 124) rfl ?_ ?_;(rw[← J.out,← H.out];kernel_rfl))|(refine wpList_store_mid rfl 124 _ _ rfl q 0 (wn s++bl33 p).toArray ?_ ?_ ?_ ?_ ?_ ?_;rfl;exact h5.symm;exact h0.2;exact h0.1;exact he.out;rw[show (wn s++bl33 p).toArray.toList=wn s++bl33 p from rfl,M.out])|fail)
   clear J M H
   refine (Gt w n K G q i s (sTi N n s) p l N).last 10 kR kR kR ⟨
    RG.gw_val fun a W d=>⟨[(5,.slice (some ⟨K,0,none⟩) l.length l.length)],.slice (some ⟨K,0,none⟩) l.length l.length,W,⟨d.o 5 kR,trivial⟩,kR,Below.refl _ _,rfl⟩,
    RG.gw_val fun a W d=>⟨[(6,.int .i64 i)],.int .i64 i,W,⟨d.o 6 kR,trivial⟩,kR,Below.refl _ _,rfl⟩,
    RG.gw_load 44 3 rfl Go.Proofs.YtlofhpkoaljmeaaGreat.u40 fun a W d=>⟨G,0,wn n,d.o 3 kR,d.b.1.r3.2.1,i40,rfl⟩,
    RG.gw_val fun a W d=>⟨[(7,.pointer (some ⟨q,0,none⟩))],.pointer (some ⟨q,0,none⟩),W,⟨d.o 7 kR,trivial⟩,kR,Below.refl _ _,rfl⟩,
    RG.gw_load 44 21 rfl Go.Proofs.YtlofhpkoaljmeaaGreat.u40 fun a W d=>⟨q,0,wn s,d.n 3 21 kR kR,range_front d.b.2.2.1,i40,rfl⟩,
    RG.gw_call fun a W d=>⟨[(20,nv n),(22,nv s)],26,#[nv n,nv s],⟨d.n 2 20 kR kR,d.n 4 22 kR kR,trivial⟩,kR,(sTim_c A.1 n s A.2.1 hk.out W).mono (by
     rintro e W' ⟨u,rfl,Q,rfl⟩
     exact ⟨_,rfl,Q,rfl⟩)⟩,
    RG.gw_val fun a W d=>⟨[(7,.pointer (some ⟨q,0,none⟩))],.pointer (some ⟨q,4,none⟩),W,⟨d.o 7 kR,trivial⟩,kR,Below.refl _ _,rfl⟩,
    RG.gw_load 51 24 rfl uCP fun a W d=>⟨q,4,bl33 p,d.n 6 24 kR kR,range_back (xs:=wn s) d.b.2.2.1,by rw[bl33_length E.out];exact infoCP,rfl⟩,
    RG.gw_val fun a W d=>⟨[(23,nv (sTi N n s)),(25,pvl p)],tvl (sTi N n s) p,W,⟨d.n 5 23 kR kR,d.n 7 25 kR kR,trivial⟩,by
     rw[Prod.mk.injEq]
     refine ⟨kR,?_⟩
     refine Eq.trans (b:=((Instr.build 124 #[(0,nv (sTi N n s)),(1,pvl p)]) >>= fun v=>pure (Next.value v)).run Tryz.prog W) kR ?_
     rw[Sem.run_bind,bldT E.out]
     rfl,Below.refl _ _,rfl⟩,
    RG.gw_val fun a W d=>⟨[(18,.slice (some ⟨K,0,none⟩) l.length l.length),(19,.int .i64 i)],.pointer (some ⟨K,0+37*i,none⟩),W,⟨d.n 0 18 kR kR,d.n 1 19 kR kR,trivial⟩,by
     rw[Prod.mk.injEq]
     refine ⟨kR,?_⟩
     show ((Instr.indexAt 82 (.slice (some ⟨K,0,none⟩) l.length l.length) (.int .i64 i)) >>= fun v=>pure (Next.value v)).run Tryz.prog W=_
     rw[Sem.run_bind,atT K 0 l.length l.length i HL.out]
     rfl,Below.refl _ _,rfl⟩,trivial⟩ ⟨F2.2.drew,F2.1⟩ ?_
   intro V W3 R Q
   have ha:V 8=tvl (sTi N n s) p:=R 8 dC
   have h4:V 9=.pointer (some ⟨K,0+37*i,none⟩):=R 9 dC
   have d:(wn (sTi N n s)++bl33 p).length=37:=row_len E.out
   obtain ⟨W4,U⟩:∃ W4,Hid (W3.setCells K (37*i) (wn (sTi N n s)++bl33 p)=W4):=⟨_,rfl⟩
   have K4:Hid (Tz w W4 N n K G (i+1) l):=by
    have h:=Q.1.put A.2.2.2.2.2.2 HL.out A.2.2.1
    have e:tmT N n (l[i]'HL.out)=(sTi N n s,p):=by
     have h1:=L.out
     have h2:=S.out
     unfold tmT
     rw[h1,h2]
    rw[e] at h
    rw[← U.out]
    exact h
   have HT:Hid (W3.there K (37*i) (wn (sTi N n s)++bl33 p).toArray.size∧(Tryz.prog.info? 124).map (·.size)=some (wn (sTi N n s)++bl33 p).toArray.size∧(wn (sTi N n s)++bl33 p).toArray.all (·.oneCell')=true):=by
    have e:(wn (sTi N n s)++bl33 p).toArray.size=37:=by rw[List.size_toArray];exact d
    refine ⟨fun t ht=>?_,by rw[e];exact iT,?_⟩
    ·rw[e] at ht
     have:=Q.1.th (37*i+t) (by have:=HL.out;omega)
     rwa[Nat.zero_add] at this
    ·rw[Array.all_eq_true']
     intro u Z
     exact cells_one _ p u (List.mem_toArray.1 Z)
   dsimp only[RG.putV,Nat.reduceAdd,List.take,List.drop]
   simp only[Act.put,List.setIfInBounds_toArray,List.set_cons_succ,List.set_cons_zero]
   obtain ⟨vz,Z⟩:∃ v,Hid (tvl (sTi N n s) p=v):=⟨_,rfl⟩
   rw[ha,h4,Z.out,Nat.zero_add]
   clear R Q ha h4 d F2
   generalize V 0=s0
   generalize V 1=s1
   generalize V 2=s2
   generalize V 3=s3
   generalize V 4=s4
   generalize V 5=s5
   generalize V 6=s6
   generalize V 7=s7
   go_wp2_with (first|(refine wpList_store_mid rfl 124 _ _ rfl K (37*i) (wn (sTi N n s)++bl33 p).toArray ?_ ?_ ?_ ?_ ?_ ?_;rfl;exact Z.symm;exact HT.1;exact HT.2.1;exact HT.2.2;rw[show (wn (sTi N n s)++bl33 p).toArray.toList=wn (sTi N n s)++bl33 p from rfl,U.out])|fail)
   go_roundg (gk-1)
   case measure=>omega
   case rel=>exact ⟨i+1,oM,rfl,K4⟩
  ·have hm:¬ (i:Int)<(l.length:Int):=oM
   obtain rfl:i=l.length:=oM
   have d:Hid (Below w.heap.size w wr∧Sm w.heap.size wr (.slice (some ⟨K,0,none⟩) l.length l.length) (l.map (tmT N n))):=by
    refine ⟨T.bl,K,l.length,by rw[List.length_map],by rw[List.length_map];exact Nat.le_refl _,A.2.2.2.2.2.2,T.lt,rows_cells (fun x hx=>?_) fun j hj=>?_⟩
    ·obtain ⟨y,q,rfl⟩:=List.mem_map.1 hx
     obtain ⟨z,f,rfl⟩:=List.mem_map.1 q
     exact A.2.2.1 _ (List.mem_map.2 ⟨z,f,rfl⟩)
    ·rw[List.getElem_map]
     rw[List.length_map] at hj
     exact T.rw j hj hj
   clear T
   go_wp2
   go_ret
   exact ⟨_,rfl,d.1,d.2⟩
end
namespace SPA
structure Md (N:Nat) [NeZero N] (M:Type) where
 ad:M→M→M
 zo:M
 ac:(Fin N)→M→M
 comm:∀ a b,ad a b=ad b a
 assoc:∀ a b c,ad (ad a b) c=ad a (ad b c)
 zadd:∀ a,ad zo a=a
 acAd:∀ r a b,ac r (ad a b)=ad (ac r a) (ac r b)
 adAc:∀ r s a,ac (r+s) a=ad (ac r a) (ac s a)
 acAc:∀ r s a,ac r (ac s a)=ac (r*s) a
 acOne:∀ a,ac 1 a=a
 zac:∀ a,ac 0 a=zo
variable {N:Nat} [NeZero N] {M:Type}
namespace Md
variable (D:Md N M)
theorem addz (a:M):D.ad a D.zo=a:=by rw[D.comm,D.zadd]
theorem swap (a b c d:M):D.ad (D.ad a b) (D.ad c d)=D.ad (D.ad a c) (D.ad b d):=by
 rw[D.assoc,← D.assoc b,D.comm b c,D.assoc c,← D.assoc]
theorem acz (r:(Fin N)):D.ac r D.zo=D.zo:=by
 have h:=D.zac D.zo
 rw[← h,D.acAc,show r*0=(0:(Fin N)) by grind]
def sm (f:Nat→M):Nat→M
 | 0=>D.zo
 | n+1=>D.ad (sm f n) (f n)
theorem sm_congr {f g:Nat→M}:∀ n,(∀ i,i<n→f i=g i)→D.sm f n=D.sm g n
 | 0,_=>rfl
 | n+1,h=>by
  show D.ad _ _=D.ad _ _
  rw[sm_congr n fun i k=>h i oM,h n oM]
theorem sm_ad (f g:Nat→M):∀ n,D.sm (fun i=>D.ad (f i) (g i)) n=D.ad (D.sm f n) (D.sm g n)
 | 0=>(D.zadd _).symm
 | n+1=>by
  show D.ad _ _=D.ad (D.ad _ _) (D.ad _ _)
  rw[sm_ad f g n,D.swap]
theorem sm_ac (r:(Fin N)) (f:Nat→M):∀ n,D.sm (fun i=>D.ac r (f i)) n=D.ac r (D.sm f n)
 | 0=>(D.acz r).symm
 | n+1=>by
  show D.ad _ _=D.ac r (D.ad _ _)
  rw[sm_ac r f n,D.acAd]
theorem sm_two (f:Nat→M) (n:Nat):∀ m,D.sm f (n+m)=D.ad (D.sm f n) (D.sm (fun i=>f (n+i)) m)
 | 0=>(D.addz _).symm
 | m+1=>by
  show D.ad (D.sm f (n+m)) _=D.ad _ (D.ad _ _)
  rw[sm_two f n m,D.assoc]
  rfl
instance:Std.Associative D.ad:=⟨D.assoc⟩
instance:Std.Commutative D.ad:=⟨D.comm⟩
def dt (a:Nat→(Fin N)) (g:Nat→M) (n:Nat):M:=D.sm (fun i=>D.ac (a i) (g i)) n
theorem dt_two (a:Nat→(Fin N)) (g:Nat→M) (n m:Nat):D.dt a g (n+m)=D.ad (D.dt a g n) (D.dt (fun i=>a (n+i)) (fun i=>g (n+i)) m):=D.sm_two _ n m
theorem dt_mix (x y:(Fin N)) (b:x*y=1) (a c:Nat→(Fin N)) (g k:Nat→M) (n:Nat) :
 D.dt (fun i=>x*a i+y*c i) (fun i=>D.ad (D.ac y (g i)) (D.ac x (k i))) n
  = D.ad (D.ad (D.ac (x*x) (D.dt a k n)) (D.ad (D.dt a g n) (D.dt c k n))) (D.ac (y*y) (D.dt c g n)):=by
 unfold dt
 rw[← D.sm_ac,← D.sm_ac,← D.sm_ad,← D.sm_ad,← D.sm_ad]
 refine D.sm_congr n fun i _=>?_
 rw[D.acAd,D.acAc,D.acAc,D.acAc,D.acAc,show (x*a i+y*c i)*y=a i+y*y*c i by grind,show (x*a i+y*c i)*x=x*x*a i+c i by grind,D.adAc,D.adAc]
 ac_rfl
theorem dt_ad (a c:Nat→(Fin N)) (g:Nat→M) (n:Nat):D.dt (fun i=>a i+c i) g n=D.ad (D.dt a g n) (D.dt c g n):=by
 unfold dt
 rw[← D.sm_ad]
 exact D.sm_congr n fun i _=>D.adAc _ _ _
theorem dt_ac (r:(Fin N)) (a:Nat→(Fin N)) (g:Nat→M) (n:Nat):D.dt (fun i=>r*a i) g n=D.ac r (D.dt a g n):=by
 unfold dt
 rw[← D.sm_ac]
 exact D.sm_congr n fun i _=>(D.acAc _ _ _).symm
end Md
def own (N:Nat) [NeZero N]:Md N (Fin N) where
 ad:=(·+·)
 zo:=0
 ac:=(·*·)
 comm:=by grind
 assoc:=by grind
 zadd:=by grind
 acAd:=by grind
 adAc:=by grind
 acAc:=by grind
 acOne:=by grind
 zac:=by grind
namespace Md
variable (D:Md N M)
def pr (a b:Nat→(Fin N)) (n:Nat):(Fin N):=(own N).dt a b n
def hd (a b:Nat→(Fin N)) (g h:Nat→M) (u:M) (n:Nat):M:=D.ad (D.ad (D.dt a g n) (D.dt b h n)) (D.ac (pr a b n) u)
def lf (a b:Nat→(Fin N)) (g h:Nat→M) (u:M) (n:Nat):M:=D.hd a (fun i=>b (n+i)) (fun i=>g (n+i)) h u n
def rt (a b:Nat→(Fin N)) (g h:Nat→M) (u:M) (n:Nat):M:=D.hd (fun i=>a (n+i)) b g (fun i=>h (n+i)) u n
def fS (x y:(Fin N)) (n:Nat) (a:Nat→(Fin N)) (i:Nat):(Fin N):=x*a i+y*a (n+i)
def fP (x y:(Fin N)) (n:Nat) (g:Nat→M) (i:Nat):M:=D.ad (D.ac x (g i)) (D.ac y (g (n+i)))
theorem halved (x y:(Fin N)) (k:x*y=1) (a b:Nat→(Fin N)) (g h:Nat→M) (u:M) (n:Nat) :
 D.hd (fS x y n a) (fS y x n b) (D.fP y x n g) (D.fP x y n h) u n
  = D.ad (D.ad (D.ac (x*x) (D.lf a b g h u n)) (D.hd a b g h u (n+n))) (D.ac (y*y) (D.rt a b g h u n)):=by
 have d:=D.dt_mix x y k a (fun i=>a (n+i)) g (fun i=>g (n+i)) n
 have c:=D.dt_mix y x (by rw[← k];grind) b (fun i=>b (n+i)) h (fun i=>h (n+i)) n
 have e3:=(own N).dt_mix x y k a (fun i=>a (n+i)) b (fun i=>b (n+i)) n
 unfold lf rt hd pr
 rw[show D.dt (fS x y n a) (D.fP y x n g) n=_ from d,show D.dt (fS y x n b) (D.fP x y n h) n=_ from c,show (own N).dt (fS x y n a) (fS y x n b) n=_ from e3,D.dt_two,D.dt_two,(own N).dt_two]
 simp only[D.acAd,D.acAc]
 rw[show (own N).ad ((own N).ad ((own N).ac (x*x) ((own N).dt a (fun i=>b (n+i)) n)) ((own N).ad ((own N).dt a b n) ((own N).dt (fun i=>a (n+i)) (fun i=>b (n+i)) n))) ((own N).ac (y*y) ((own N).dt (fun i=>a (n+i)) b n))
  = (x*x*(own N).dt a (fun i=>b (n+i)) n+(own N).ad ((own N).dt a b n) ((own N).dt (fun i=>a (n+i)) (fun i=>b (n+i)) n))+y*y*(own N).dt (fun i=>a (n+i)) b n from rfl,D.adAc,D.adAc]
 ac_rfl
def pv {S:Type} (ch:S→M→M→S × (Fin N)) (iv:(Fin N)→(Fin N)) (u:M):Nat→S→(Nat→(Fin N))→(Nat→(Fin N))→(Nat→M)→(Nat→M)→List (M × M) × (Fin N) × (Fin N)
 | 0,_,a,b,_,_=>([],a 0,b 0)
 | t+1,s,a,b,g,h =>
  let L:=D.lf a b g h u (2^t)
  let T:=D.rt a b g h u (2^t)
  let c:=ch s L T
  let r:=pv ch iv u t c.1 (fS c.2 (iv c.2) (2^t) a) (fS (iv c.2) c.2 (2^t) b) (D.fP (iv c.2) c.2 (2^t) g) (D.fP c.2 (iv c.2) (2^t) h)
  ((L,T) :: r.1,r.2)
def vf {S:Type} (ch:S→M→M→S × (Fin N)) (iv:(Fin N)→(Fin N)) (u:M) (a b:(Fin N)):List (M × M)→S→M→(Nat→M)→(Nat→M)→Prop
 | [],_,p,g,h=>p=D.ad (D.ad (D.ac a (g 0)) (D.ac b (h 0))) (D.ac (a*b) u)
 | (L,T) :: l,s,p,g,h =>
  let c:=ch s L T
  let x:=c.2
  let y:=iv x
  vf ch iv u a b l c.1 (D.ad (D.ad (D.ac (x*x) L) p) (D.ac (y*y) T)) (D.fP y x (2^l.length) g) (D.fP x y (2^l.length) h)
theorem hd_one (a b:Nat→(Fin N)) (g h:Nat→M) (u:M):D.hd a b g h u 1=D.ad (D.ad (D.ac (a 0) (g 0)) (D.ac (b 0) (h 0))) (D.ac (a 0*b 0) u):=by
 show D.ad (D.ad (D.ad D.zo _) (D.ad D.zo _)) (D.ac ((0:(Fin N))+a 0*b 0) u)=_
 rw[D.zadd,D.zadd,show (0:(Fin N))+a 0*b 0=a 0*b 0 by grind]
structure Rg (R:Type) where
 l:Nat→R
 m:Nat→R
 s:Nat→R
 q:Nat→R
 Y:Nat→R
 W:Nat→R
 T:Nat→R
 z:R
 x:R
def Rg.Ok (r:Rg (Fin N)) (n:Nat):Prop:=∀ i,i<n→r.l i*r.m i=0∧r.m i=r.l i-1∧r.Y i*r.W i=1
def Rg.a0 (r:Rg (Fin N)) (i:Nat):(Fin N):=r.l i-r.z
def Rg.b0 (r:Rg (Fin N)) (i:Nat):(Fin N):=r.Y i*(r.m i+r.z)+r.z*r.z*r.T i
def Rg.b1 (r:Rg (Fin N)) (i:Nat):(Fin N):=r.Y i*r.q i
def Rg.a (r:Rg (Fin N)) (i:Nat):(Fin N):=r.a0 i+r.s i*r.x
def Rg.b (r:Rg (Fin N)) (i:Nat):(Fin N):=r.b0 i+r.b1 i*r.x
def Rg.sY (r:Rg (Fin N)) (n:Nat):(Fin N):=(own N).sm r.Y n
def Rg.sT (r:Rg (Fin N)) (n:Nat):(Fin N):=(own N).sm r.T n
def Rg.v (r:Rg (Fin N)) (n:Nat):(Fin N):=pr r.l r.T n
def Rg.d (r:Rg (Fin N)) (n:Nat):(Fin N):=(r.z-r.z*r.z)*r.sY n-r.z*r.z*r.z*r.sT n
def Rg.t1 (r:Rg (Fin N)) (n:Nat):(Fin N):=pr r.a0 r.b1 n+pr r.s r.b0 n
def Rg.t2 (r:Rg (Fin N)) (n:Nat):(Fin N):=pr r.s r.b1 n
theorem pr_succ (a b:Nat→(Fin N)) (n:Nat):pr a b (n+1)=pr a b n+a n*b n:=rfl
theorem Rg.t0 (r:Rg (Fin N)):∀ n,r.Ok n→pr r.a0 r.b0 n=r.z*r.z*r.v n+r.d n
 | 0,_=>by
  show (0:(Fin N))=r.z*r.z*0+((r.z-r.z*r.z)*0-r.z*r.z*r.z*0)
  grind
 | n+1,h=>by
  have c:=t0 r n fun i f=>h i oM
  obtain ⟨d,k,_⟩:=h n oM
  have e:r.v (n+1)=r.v n+r.l n*r.T n:=rfl
  have b:r.d (n+1)=(r.z-r.z*r.z)*(r.sY n+r.Y n)-r.z*r.z*r.z*(r.sT n+r.T n):=rfl
  have e3:r.d n=(r.z-r.z*r.z)*r.sY n-r.z*r.z*r.z*r.sT n:=rfl
  rw[pr_succ,c,e,b,e3]
  unfold Rg.a0 Rg.b0
  rw[k] at d ⊢
  generalize r.v n=A,r.sY n=B,r.sT n=C,r.l n=l,r.Y n=y,r.T n=t,r.z=z at *
  grind
theorem Rg.tt (r:Rg (Fin N)):∀ n,pr r.a r.b n=pr r.a0 r.b0 n+r.t1 n*r.x+r.t2 n*r.x*r.x
 | 0=>by
  show (0:(Fin N))=0+(0+0)*r.x+0*r.x*r.x
  grind
 | n+1=>by
  have c:=tt r n
  have d:r.t1 (n+1)=(pr r.a0 r.b1 n+r.a0 n*r.b1 n)+(pr r.s r.b0 n+r.s n*r.b0 n):=rfl
  have k:r.t2 (n+1)=pr r.s r.b1 n+r.s n*r.b1 n:=rfl
  have e3:r.t1 n=pr r.a0 r.b1 n+pr r.s r.b0 n:=rfl
  have b:r.t2 n=pr r.s r.b1 n:=rfl
  rw[pr_succ,c,d,k,e3,b,pr_succ]
  show _+(r.a0 n+r.s n*r.x)*(r.b0 n+r.b1 n*r.x)=_
  generalize pr r.a0 r.b0 n=A,pr r.a0 r.b1 n=B,pr r.s r.b0 n=C,pr r.s r.b1 n=E,r.a0 n=a0,r.b0 n=b0,r.s n=s,r.b1 n=b1,r.x=x
  grind
def cm (H G:M) (c r:(Fin N)):M:=D.ad (D.ac c H) (D.ac r G)
theorem sums_right (r:Rg (Fin N)) (n:Nat) (h:r.Ok n) (H G:M) (k t1 t2:(Fin N)) :
 D.cm H G (pr r.a r.b n) (t1*r.x+t2*(r.x*r.x)+r.z*r.z*k)
  = D.ad (D.ad (D.ac (r.z*r.z) (D.cm H G (r.v n) k)) (D.ac (r.d n) H)) (D.ad (D.ac r.x (D.cm H G (r.t1 n) t1)) (D.ac (r.x*r.x) (D.cm H G (r.t2 n) t2))):=by
 rw[r.tt,r.t0 n h]
 unfold cm
 simp only[D.acAd,D.acAc]
 rw[show r.z*r.z*r.v n+r.d n+r.t1 n*r.x+r.t2 n*r.x*r.x=r.z*r.z*r.v n+r.d n+r.x*r.t1 n+r.x*r.x*r.t2 n by grind,
  show t1*r.x+t2*(r.x*r.x)+r.z*r.z*k=r.x*t1+r.x*r.x*t2+r.z*r.z*k by grind]
 simp only[D.adAc]
 ac_rfl
theorem dt_congr {a c:Nat→(Fin N)} {g k:Nat→M} (n:Nat) (h:∀ i,i<n→D.ac (a i) (g i)=D.ac (c i) (k i)):D.dt a g n=D.dt c k n:=D.sm_congr n h
theorem a_dt (r:Rg (Fin N)) (g:Nat→M) (n:Nat):D.dt r.a g n=D.ad (D.ad (D.dt r.l g n) (D.ac r.x (D.dt r.s g n))) (D.dt (fun _=>-r.z) g n):=by
 rw[← D.dt_ac,← D.dt_ad,← D.dt_ad]
 refine D.dt_congr n fun i _=>?_
 show D.ac (r.l i-r.z+r.s i*r.x) _=_
 rw[show r.l i-r.z+r.s i*r.x=r.l i+r.x*r.s i+-r.z by grind]
theorem b_dt (r:Rg (Fin N)) (k:Nat→M) (n:Nat) (h:r.Ok n):D.dt r.b (fun i=>D.ac (r.W i) (k i)) n
 = D.ad (D.ad (D.dt r.m k n) (D.ac r.x (D.dt r.q k n))) (D.dt (fun i=>r.z+r.z*r.z*(r.T i*r.W i)) k n):=by
 rw[← D.dt_ac,← D.dt_ad,← D.dt_ad]
 refine D.dt_congr n fun i b=>?_
 obtain ⟨_,_,c⟩:=h i b
 rw[D.acAc]
 show D.ac ((r.Y i*(r.m i+r.z)+r.z*r.z*r.T i+r.Y i*r.q i*r.x)*r.W i) _=_
 rw[show (r.Y i*(r.m i+r.z)+r.z*r.z*r.T i+r.Y i*r.q i*r.x)*r.W i=r.m i+r.x*r.q i+(r.z+r.z*r.z*(r.T i*r.W i)) by
  generalize r.Y i=y,r.W i=w,r.m i=m,r.q i=q,r.T i=t,r.z=z,r.x=x at *
  grind]
theorem point_right (r:Rg (Fin N)) (n:Nat) (h:r.Ok n) (G:M) (g k:Nat→M) (U:M) (al b w:(Fin N)) :
 D.ad (D.ad (D.ad (D.ad (D.ad (D.ac al G) (D.ad (D.dt r.l g n) (D.dt r.m k n))) (D.ac r.x (D.ad (D.ac b G) (D.ad (D.dt r.s g n) (D.dt r.q k n))))) (D.ac (-(al+b*r.x)) G))
  (D.ad (D.dt (fun _=>-r.z) g n) (D.dt (fun i=>r.z+r.z*r.z*(r.T i*r.W i)) k n))) (D.ac (pr r.a r.b n*w) U)
  = D.hd r.a r.b g (fun i=>D.ac (r.W i) (k i)) (D.ac w U) n:=by
 unfold hd
 rw[D.a_dt,D.b_dt r k n h,D.acAc]
 simp only[D.acAd,D.acAc]
 have e:D.ad (D.ac al G) (D.ad (D.ac (r.x*b) G) (D.ac (-(al+b*r.x)) G))=D.zo:=by
  rw[← D.adAc,← D.adAc,show al+(r.x*b+-(al+b*r.x))=(0:(Fin N)) by grind,D.zac]
 generalize D.ac al G=A at *
 generalize D.ac (r.x*b) G=B at *
 generalize D.ac (-(al+b*r.x)) G=E at *
 refine Eq.trans ?_ (D.zadd _)
 rw[← e]
 ac_rfl
end Md
end SPA
section
open SPA
variable {P:Nat} [NeZero P] {N:Nat} [NeZero N]
abbrev OnP (P:Nat) [NeZero P]:={p:EC.Pt P // EC.On p}
def ptMd (C:Fld P) (k:∀ r:EC.Pt P,EC.On r→EC.mul N r=none):Md N (OnP P) where
 ad a b:=⟨EC.add a.1 b.1,C.cur.on a.2 b.2⟩
 zo:=⟨none,EC.none_on⟩
 ac r a:=⟨EC.mul r.val a.1,EC.mul_on C.cur a.2 _⟩
 comm a b:=Subtype.ext (C.cur.comm a.2 b.2)
 assoc a b c:=Subtype.ext (C.cur.assoc a.2 b.2 c.2)
 zadd _:=rfl
 acAd r a b:=Subtype.ext (mul_twoB C a.2 b.2 _)
 adAc r s a:=Subtype.ext (by
  show EC.mul (r+s).val a.1=_
  rw[Fin.val_add,mul_mod C k a.2,EC.mul_add C.cur a.2])
 acAc r s a:=Subtype.ext (by
  show _=EC.mul (r*s).val a.1
  rw[Fin.val_mul,mul_mod C k a.2,Nat.mul_comm,EC.mul_mul C.cur a.2])
 acOne a:=Subtype.ext (by
  show EC.mul (1:Fin N).val a.1=_
  rw[show (1:Fin N).val=1%N from rfl,mul_mod C k a.2]
  rfl)
 zac a:=Subtype.ext (by
  show EC.mul (0:Fin N).val a.1=_
  rw[show (0:Fin N).val=0%N from rfl,mul_mod C k a.2]
  rfl)
omit [NeZero N] in
theorem pl_val (a b:Fin N):(a+b).val=sPl N a.val b.val:=Fin.val_add a b
omit [NeZero N] in
theorem ti_val (a b:Fin N):(a*b).val=sTi N a.val b.val:=Fin.val_mul a b
omit [NeZero N] in
theorem mi_val (a b:Fin N):(a-b).val=sMi N a.val b.val:=by
 rw[Fin.sub_def]
 show (N-b.val+a.val)%N=(a.val+N-b.val)%N
 have:=b.isLt
 rw[show N-b.val+a.val=a.val+N-b.val by omega]
omit [NeZero N] in
theorem ne_val (a:Fin N):(-a).val=sMi N 0 a.val:=by
 rw[Fin.neg_def]
 show (N-a.val)%N=(0+N-a.val)%N
 rw[Nat.zero_add]
def ivF (a:Fin N):Fin N:=⟨sIn N a.val,Nat.mod_lt _ (Nat.pos_of_neZero N)⟩
theorem iv_mul (h:NT.IsP N) (a:Fin N) (b:a.val≠0):a*ivF a=1:=by
 apply Fin.ext
 have k:=h.1
 have hd:¬ N ∣ a.val:=fun hd=>by
  have:=Nat.le_of_dvd oM hd
  have:=a.isLt
  omega
 rw[Fin.val_mul,show (ivF a).val=a.val^(N-2)%N from rfl,Nat.mul_mod_mod,← Nat.pow_succ',show (N-2).succ=N-1 by omega,h.fermat1 a.val hd]
 show 1=1%N
 rw[Nat.mod_eq_of_lt oM]
end
section
open SPA
variable {P:Nat} [NeZero P] {N:Nat} [NeZero N]
structure Tl (N:Nat) (l:List (Nat × Bs)) (X:OnP P):Prop where
 pts:PtsL P l
 lt:∀ x∈l,x.1<N
 sum:sumL P l=X.1
omit [NeZero N] in
theorem sumL_app (C:Fld P):∀ {l m:List (Nat × Bs)},PtsL P l→PtsL P m→sumL P (l++m)=EC.add (sumL P l) (sumL P m)
 | [],_,_,_=>rfl
 | x :: r,m,h,hm=>by
  have k:PtsL P r:=fun z b=>h z (List.mem_cons_of_mem _ b)
  show EC.add (EC.mul x.1 (unwr P x.2)) (sumL P (r++m))=EC.add (EC.add _ _) _
  rw[sumL_app C k hm]
  exact (C.cur.assoc (EC.mul_on C.cur (h.on C List.mem_cons_self) _) (sumL_on C k) (sumL_on C hm)).symm
omit [NeZero N] in
theorem sumL_tm (C:Fld P) (k:∀ r:EC.Pt P,EC.On r→EC.mul N r=none) (n:Nat):∀ {l:List (Nat × Bs)},PtsL P l→sumL P (l.map (tmT N n))=EC.mul n (sumL P l)
 | [],_=>(EC.mul_none n).symm
 | x :: r,h=>by
  have b:PtsL P r:=fun z c=>h z (List.mem_cons_of_mem _ c)
  have hx:=h.on C (x:=x) List.mem_cons_self
  show EC.add (EC.mul (sTi N n x.1) (unwr P x.2)) (sumL P (r.map (tmT N n)))=EC.mul n (EC.add (EC.mul x.1 (unwr P x.2)) (sumL P r))
  rw[sumL_tm C k n b,mul_twoB C (EC.mul_on C.cur hx _) (sumL_on C b)]
  unfold sTi
  rw[mul_mod C k hx,Nat.mul_comm,EC.mul_mul C.cur hx]
section
variable (C:Fld P) (hord:∀ r:EC.Pt P,EC.On r→EC.mul N r=none)
theorem Tl.nil:Tl N [] (ptMd C hord).zo:=⟨fun _ h=>(List.not_mem_nil h).elim,fun _ h=>(List.not_mem_nil h).elim,rfl⟩
theorem Tl.app {l m:List (Nat × Bs)} {X Y:OnP P} (h:Tl N l X) (k:Tl N m Y):Tl N (l++m) ((ptMd C hord).ad X Y):=
 ⟨fun x hx=>(List.mem_append.1 hx).elim (h.pts x) (k.pts x),fun x hx=>(List.mem_append.1 hx).elim (h.lt x) (k.lt x),by
  rw[sumL_app C h.pts k.pts,h.sum,k.sum]
  rfl⟩
theorem Tl.tm {l:List (Nat × Bs)} {X:OnP P} (h:Tl N l X) (n:Fin N):Tl N (l.map (tmT N n.val)) ((ptMd C hord).ac n X):=
 ⟨fun x hx=>by
  obtain ⟨y,k,rfl⟩:=List.mem_map.1 hx
  exact h.pts y k,fun x hx=>by
  obtain ⟨y,k,rfl⟩:=List.mem_map.1 hx
  exact Nat.mod_lt _ (Nat.pos_of_neZero N),by
  rw[sumL_tm C hord n.val h.pts,h.sum]
  rfl⟩
omit [NeZero N] in
theorem Tl.one (C:Fld P) (k:1<N) (X:OnP P):Tl N [(1,wr X.1)] X:=
 ⟨fun x hx=>⟨X.1,X.2,by rw[List.mem_singleton.1 hx]⟩,fun x hx=>by rw[List.mem_singleton.1 hx];exact k,by
  show EC.add (EC.mul 1 (unwr P (wr X.1))) none=_
  rw[unwr_wr C X.2,EC.add_none]
  rfl⟩
def cmbT (N:Nat) (a:Nat→Nat) (T:Nat→List (Nat × Bs)):Nat→List (Nat × Bs)
 | 0=>[]
 | n+1=>cmbT N a T n++(T n).map (tmT N (a n))
theorem cmbT_tl {a:Nat→Fin N} {T:Nat→List (Nat × Bs)} {g:Nat→OnP P}:∀ n,(∀ i,i<n→Tl N (T i) (g i))→Tl N (cmbT N (fun i=>(a i).val) T n) ((ptMd C hord).dt a g n)
 | 0,_=>Tl.nil C hord
 | n+1,h=>(cmbT_tl n fun i k=>h i oM).app C hord ((h n oM).tm C hord (a n))
theorem cmbT_len (N:Nat) (a:Nat→Nat) {T:Nat→List (Nat × Bs)} {c:Nat}:∀ n,(∀ i,i<n→(T i).length=c)→(cmbT N a T n).length=c*n
 | 0,_=>rfl
 | n+1,h=>by
  show (cmbT N a T n++_).length=_
  rw[List.length_append,List.length_map,cmbT_len N a n (fun i k=>h i oM),h n oM,Nat.mul_succ]
def fldT (N x y n:Nat) (T:Nat→List (Nat × Bs)) (i:Nat):List (Nat × Bs):=(T i).map (tmT N x)++(T (n+i)).map (tmT N y)
theorem fldT_tl {T:Nat→List (Nat × Bs)} {g:Nat→OnP P} (x y:Fin N) (n:Nat) (h:∀ i,i<n+n→Tl N (T i) (g i)) (i:Nat) (k:i<n):Tl N (fldT N x.val y.val n T i) ((ptMd C hord).fP x y n g i):=
 ((h i oM).tm C hord x).app C hord ((h (n+i) oM).tm C hord y)
theorem fldT_len (N x y n:Nat) {T:Nat→List (Nat × Bs)} {c:Nat} (h:∀ i,i<n+n→(T i).length=c) (i:Nat) (k:i<n):(fldT N x y n T i).length=c+c:=by
 unfold fldT
 rw[List.length_append,List.length_map,List.length_map,h i oM,h (n+i) oM]
end
end
section
open SPA
variable {N:Nat} [NeZero N]
def pwF (x:Fin N):Nat→Fin N
 | 0=>1
 | i+1=>pwF x i*x
theorem pwF_iv {x y:Fin N} (h:x*y=1):∀ i,pwF x i*pwF y i=1
 | 0=>by
  show (1:Fin N)*1=1
  grobner
 | i+1=>by
  have k:=pwF_iv h i
  show pwF x i*x*(pwF y i*y)=1
  generalize pwF x i=a at *
  generalize pwF y i=b at *
  grobner
def ofF (N:Nat) [NeZero N] (n:Nat):Fin N:=⟨n%N,Nat.mod_lt _ (Nat.pos_of_neZero N)⟩
theorem ofF_add (a b:Nat):ofF N (a+b)=ofF N a+ofF N b:=Fin.ext (by
 rw[Fin.val_add]
 show (a+b)%N=(a%N+b%N)%N
 rw[Nat.add_mod])
theorem ofF_mul (a b:Nat):ofF N (a*b)=ofF N a*ofF N b:=Fin.ext (by
 rw[Fin.val_mul]
 show (a*b)%N=(a%N*(b%N))%N
 rw[Nat.mul_mod])
theorem ofF_zero:ofF N 0=0:=Fin.ext rfl
theorem ofF_one:ofF N 1=1:=Fin.ext rfl
theorem pw_two:∀ i,pwF (ofF N 2) i=ofF N (2^i)
 | 0=>ofF_one.symm
 | i+1=>by
  show pwF (ofF N 2) i*ofF N 2=_
  rw[pw_two i,← ofF_mul,Nat.pow_succ]
def btF (N:Nat) [NeZero N] (v i:Nat):Fin N:=ofF N (v/2^i%2)
theorem bt_sum (v:Nat):∀ n,Md.pr (btF N v) (pwF (ofF N 2)) n=ofF N (v%2^n)
 | 0=>by
  rw[Nat.pow_zero,Nat.mod_one]
  exact ofF_zero.symm
 | n+1=>by
  rw[Md.pr_succ,bt_sum v n,pw_two]
  show _+ofF N _*_=_
  rw[← ofF_mul,← ofF_add,Nat.pow_succ,Nat.mod_mul,Nat.mul_comm (2^n)]
theorem two_sum:∀ n,(SPA.own N).sm (pwF (ofF N 2)) n=ofF N (2^n-1)
 | 0=>ofF_zero.symm
 | n+1=>by
  show (SPA.own N).sm _ n+_=_
  rw[two_sum n,pw_two,← ofF_add]
  have:=Nat.pow_pos (n:=n) (show 0<2 by decide)
  rw[show 2^n-1+2^n=2^(n+1)-1 by rw[Nat.pow_succ];omega]
theorem bt_or (v i:Nat):btF N v i=0∨btF N v i=1:=by
 unfold btF
 rcases Nat.mod_two_eq_zero_or_one (v/2^i) with h|h<;>rw[h]
 ·exact Or.inl ofF_zero
 ·exact Or.inr ofF_one
def rgF (v:Nat) (s q:Nat→Fin N) (y k z x:Fin N):Md.Rg (Fin N):=⟨btF N v,fun i=>btF N v i-1,s,q,pwF y,pwF k,pwF (ofF N 2),z,x⟩
theorem rgF_ok (v:Nat) (s q:Nat→Fin N) {y k:Fin N} (z x:Fin N) (h:y*k=1) (n:Nat):(rgF v s q y k z x).Ok n:=fun i _=>⟨by
 show btF N v i*(btF N v i-1)=0
 rcases bt_or (N:=N) v i with e|e<;>rw[e]<;>grobner,rfl,pwF_iv h i⟩
theorem rgF_v (v:Nat) (s q:Nat→Fin N) (y k z x:Fin N) (n:Nat) (hv:v<2^n):(rgF v s q y k z x).v n=ofF N v:=by
 show Md.pr (btF N v) (pwF (ofF N 2)) n=_
 rw[bt_sum,Nat.mod_eq_of_lt hv]
theorem rgF_d (v:Nat) (s q:Nat→Fin N) (y k z x:Fin N) (n:Nat):(rgF v s q y k z x).d n=(z-z*z)*(SPA.own N).sm (pwF y) n-z*z*z*ofF N (2^n-1):=by
 show _-z*z*z*(SPA.own N).sm (pwF (ofF N 2)) n=_
 rw[two_sum]
 rfl
end
namespace SPA
variable {N:Nat} [NeZero N] {M:Type}
namespace Md
variable (D:Md N M)
theorem own_neg (p:M):D.ad p (D.ac (-1) p)=D.zo:=by
 have h:=D.adAc 1 (-1) p
 rw[show (1:(Fin N))+-1=0 by grind,D.zac,D.acOne] at h
 exact h.symm
theorem sub_zo (e p:M):D.ad e (D.ac (-1) p)=D.zo↔p=e:=by
 constructor
 ·intro h
  have k:D.ad (D.ad e (D.ac (-1) p)) p=D.ad D.zo p:=by rw[h]
  rw[D.assoc,D.comm _ p,D.own_neg,D.addz,D.zadd] at k
  exact k.symm
 ·rintro rfl
  exact D.own_neg p
theorem inv_uniq {a b c:(Fin N)} (k:a*b=1) (d:a*c=1):b=c:=by
 have:b=(a*b)*c+b*(1-a*c):=by grind
 rw[k,d] at this
 grind
structure Vs (S M:Type) where
 s:S
 p:M
 g:Nat→M
 h:Nat→M
structure Ps (S R M:Type) where
 s:S
 a:Nat→R
 b:Nat→R
 g:Nat→M
 h:Nat→M
section
variable {S:Type} (ch:S→M→M→S × (Fin N)) (iv:(Fin N)→(Fin N)) (u:M)
def vstep (n:Nat) (L T:M) (v:Vs S M):Vs S M:=
 let c:=ch v.s L T
 ⟨c.1,D.ad (D.ad (D.ac (c.2*c.2) L) v.p) (D.ac (iv c.2*iv c.2) T),D.fP (iv c.2) c.2 n v.g,D.fP c.2 (iv c.2) n v.h⟩
def vst (t:Nat) (L T:Nat→M) (v:Vs S M):Nat→Vs S M
 | 0=>v
 | i+1=>D.vstep ch iv (2^(t-(i+1))) (L i) (T i) (vst t L T v i)
def pL (n:Nat) (q:Ps S (Fin N) M):M:=D.lf q.a q.b q.g q.h u n
def pT (n:Nat) (q:Ps S (Fin N) M):M:=D.rt q.a q.b q.g q.h u n
def pstep (n:Nat) (q:Ps S (Fin N) M):Ps S (Fin N) M:=
 let c:=ch q.s (D.pL u n q) (D.pT u n q)
 ⟨c.1,fS c.2 (iv c.2) n q.a,fS (iv c.2) c.2 n q.b,D.fP (iv c.2) c.2 n q.g,D.fP c.2 (iv c.2) n q.h⟩
def pst (t:Nat) (q:Ps S (Fin N) M):Nat→Ps S (Fin N) M
 | 0=>q
 | i+1=>D.pstep ch iv u (2^(t-(i+1))) (pst t q i)
def pLi (t:Nat) (q:Ps S (Fin N) M) (i:Nat):M:=D.pL u (2^(t-(i+1))) (D.pst ch iv u t q i)
def pTi (t:Nat) (q:Ps S (Fin N) M) (i:Nat):M:=D.pT u (2^(t-(i+1))) (D.pst ch iv u t q i)
def hdP (n:Nat) (q:Ps S (Fin N) M):M:=D.hd q.a q.b q.g q.h u n
theorem beside (k:∀ s L T,(ch s L T).2*iv (ch s L T).2=1) (t:Nat) (q:Ps S (Fin N) M):∀ i,i≤t →
 D.vst ch iv t (D.pLi ch iv u t q) (D.pTi ch iv u t q) ⟨q.s,D.hdP u (2^t) q,q.g,q.h⟩ i
  = ⟨(D.pst ch iv u t q i).s,D.hdP u (2^(t-i)) (D.pst ch iv u t q i),(D.pst ch iv u t q i).g,(D.pst ch iv u t q i).h⟩
 | 0,_=>rfl
 | i+1,hi=>by
  have b:=beside k t q i oM
  show D.vstep ch iv _ _ _ (D.vst ch iv t _ _ _ i)=_
  rw[b]
  have e:2^(t-i)=2^(t-(i+1))+2^(t-(i+1)):=by
   rw[show t-i=t-(i+1)+1 by omega,Nat.pow_succ]
   omega
  show (⟨_,_,_,_⟩:Vs S M)=⟨(D.pstep ch iv u _ (D.pst ch iv u t q i)).s,D.hdP u _ (D.pstep ch iv u _ (D.pst ch iv u t q i)),(D.pstep ch iv u _ (D.pst ch iv u t q i)).g,(D.pstep ch iv u _ (D.pst ch iv u t q i)).h⟩
  unfold pLi pTi
  generalize D.pst ch iv u t q i=r
  rw[e]
  have h:=D.halved _ _ (k r.s (D.pL u (2^(t-(i+1))) r) (D.pT u (2^(t-(i+1))) r)) r.a r.b r.g r.h u (2^(t-(i+1)))
  congr 1
  exact h.symm
def vend (a b:(Fin N)) (v:Vs S M):Prop:=v.p=D.ad (D.ad (D.ac a (v.g 0)) (D.ac b (v.h 0))) (D.ac (a*b) u)
theorem found (k:∀ s L T,(ch s L T).2*iv (ch s L T).2=1) (t:Nat) (q:Ps S (Fin N) M) :
 D.vend u ((D.pst ch iv u t q t).a 0) ((D.pst ch iv u t q t).b 0) (D.vst ch iv t (D.pLi ch iv u t q) (D.pTi ch iv u t q) ⟨q.s,D.hdP u (2^t) q,q.g,q.h⟩ t):=by
 rw[D.beside ch iv u k t q t (Nat.le_refl _),Nat.sub_self]
 exact D.hd_one _ _ _ _ u
end
end Md
end SPA
section
open SPA
variable {N:Nat} [NeZero N]
theorem iv_sq (h:NT.IsP N) (x:Fin N) (hx:x.val≠0) (k:(x*x).val≠0):ivF (x*x)=ivF x*ivF x:=by
 refine Md.inv_uniq (iv_mul h _ k) ?_
 have e:=iv_mul h x hx
 grobner
end
section
open SPA
variable {P:Nat} [NeZero P] {N:Nat} [NeZero N]
def oneF (a:Fin N):Fin N:=if a=0 then 1 else a
theorem oneF_ne (h:1<N) (a:Fin N):(oneF a).val≠0:=by
 unfold oneF
 split
 ·show 1%N≠0
  rw[Nat.mod_eq_of_lt h]
  decide
 ·rename_i h0
  exact fun e=>h0 (Fin.ext (e.trans (Nat.zero_mod N).symm))
def saidF (k b:List UInt8) (L X Y:Bs):Bs:=SP.sayL (SP.sayL L k X.toList) b Y.toList
def askF (N:Nat) [NeZero N] (L:Bs):Fin N:=oneF (ofF N (cha N L))
def wentF (L:Bs):Bs:=SP.askedL L [99,104,97,108,108,101,110,103,101]
def chF (N:Nat) [NeZero N] (L:Bs) (X Y:OnP P):Bs × Fin N:=
 let k:=saidF [108,101,102,116] [114,105,103,104,116] L (wr X.1) (wr Y.1)
 (wentF k,askF N k)
theorem askF_ne (h:1<N) (L:Bs):(askF N L).val≠0:=by
 unfold askF
 exact oneF_ne h _
theorem chF_two (L:Bs) (X Y:OnP P):∃ k,(chF N L X Y).2=askF N k:=by
 unfold chF
 dsimp only
 exact ⟨_,rfl⟩
theorem chF_iv (h:NT.IsP N) (L:Bs) (X Y:OnP P):(chF N L X Y).2*ivF (chF N L X Y).2=1:=by
 obtain ⟨k,e⟩:=chF_two (N:=N) L X Y
 rw[e]
 have:=askF_ne h.1 k
 generalize askF N k=a at *
 exact iv_mul h a this
theorem chF_sq (h:NT.IsP N) (L:Bs) (X Y:OnP P):((chF N L X Y).2*(chF N L X Y).2).val≠0:=fun e=>by
 have d:=chF_iv h L X Y
 have c:(chF N L X Y).2*(chF N L X Y).2=0:=Fin.ext (e.trans (Nat.zero_mod N).symm)
 generalize (chF N L X Y).2=x at *
 generalize ivF x=y at *
 have b:(1:Fin N)=0:=by grobner
 have k:1%N=0%N:=congrArg Fin.val b
 have:=h.1
 rw[Nat.mod_eq_of_lt oM,Nat.zero_mod] at k
 exact absurd k dC
theorem foundF (C:Fld P) (k:∀ r:EC.Pt P,EC.On r→EC.mul N r=none) (h:NT.IsP N) (u:OnP P) (t:Nat) (q:Md.Ps Bs (Fin N) (OnP P)) :
 (ptMd C k).vend u (((ptMd C k).pst (chF N) ivF u t q t).a 0) (((ptMd C k).pst (chF N) ivF u t q t).b 0)
  ((ptMd C k).vst (chF N) ivF t ((ptMd C k).pLi (chF N) ivF u t q) ((ptMd C k).pTi (chF N) ivF u t q) ⟨q.s,(ptMd C k).hdP u (2^t) q,q.g,q.h⟩ t):=
 (ptMd C k).found (chF N) ivF u (chF_iv h) t q
end
namespace SPA
variable {N:Nat} [NeZero N] {M:Type}
namespace Md
variable (D:Md N M)
theorem step_pro (a b p:M):D.ad (D.ad p a) b=D.ad (D.ad a p) b:=by ac_rfl
end Md
end SPA
section
open SPA
variable {P:Nat} [NeZero P] {N:Nat} [NeZero N]
theorem Tl.pt (C:Fld P) (k:∀ r:EC.Pt P,EC.On r→EC.mul N r=none) (n:Fin N) (X:OnP P):Tl N [(n.val,wr X.1)] ((ptMd C k).ac n X):=
 ⟨fun x hx=>⟨X.1,X.2,by rw[List.mem_singleton.1 hx]⟩,fun x hx=>by rw[List.mem_singleton.1 hx];exact n.isLt,by
  show EC.add (EC.mul n.val (unwr P (wr X.1))) none=_
  rw[unwr_wr C X.2,EC.add_none]
  rfl⟩
structure Gd (N n c:Nat) (T:Nat→List (Nat × Bs)) (g:Nat→OnP P):Prop where
 tl:∀ i,i<n→Tl N (T i) (g i)
 len:∀ i,i<n→(T i).length=c
section
variable (C:Fld P) (hord:∀ r:EC.Pt P,EC.On r→EC.mul N r=none)
theorem Gd.fold {n c:Nat} {T:Nat→List (Nat × Bs)} {g:Nat→OnP P} (h:Gd N (n+n) c T g) (x y:Fin N):Gd N n (c+c) (fldT N x.val y.val n T) ((ptMd C hord).fP x y n g):=
 ⟨fun i k=>fldT_tl C hord x y n h.tl i k,fun i k=>fldT_len N x.val y.val n h.len i k⟩
theorem Gd.cmb {n c:Nat} {T:Nat→List (Nat × Bs)} {g:Nat→OnP P} (h:Gd N n c T g) (a:Nat→Fin N):Tl N (cmbT N (fun i=>(a i).val) T n) ((ptMd C hord).dt a g n)∧(cmbT N (fun i=>(a i).val) T n).length=c*n:=
 ⟨cmbT_tl C hord n h.tl,cmbT_len N _ n h.len⟩
omit [NeZero N] in
theorem Gd.low {n m c:Nat} {T:Nat→List (Nat × Bs)} {g:Nat→OnP P} (h:Gd N (n+m) c T g):Gd N n c T g:=⟨fun i k=>h.tl i oM,fun i k=>h.len i oM⟩
omit [NeZero N] in
theorem Gd.high {n m c:Nat} {T:Nat→List (Nat × Bs)} {g:Nat→OnP P} (h:Gd N (n+m) c T g):Gd N m c (fun i=>T (n+i)) (fun i=>g (n+i)):=⟨fun i k=>h.tl (n+i) oM,fun i k=>h.len (n+i) oM⟩
def hidT (N:Nat) (a b:Nat→Nat) (p:Nat) (G H:Nat→List (Nat × Bs)) (U:List (Nat × Bs)) (n:Nat):List (Nat × Bs):=cmbT N a G n++cmbT N b H n++U.map (tmT N p)
theorem hid_tl {n c d:Nat} {G H:Nat→List (Nat × Bs)} {U:List (Nat × Bs)} {g h:Nat→OnP P} {u:OnP P} (hG:Gd N n c G g) (k:Gd N n c H h) (e:Tl N U u) (hd:U.length=d) (a b:Nat→Fin N) :
 Tl N (hidT N (fun i=>(a i).val) (fun i=>(b i).val) (Md.pr a b n).val G H U n) ((ptMd C hord).hd a b g h u n)∧(hidT N (fun i=>(a i).val) (fun i=>(b i).val) (Md.pr a b n).val G H U n).length=c*n+c*n+d:=by
 refine ⟨((hG.cmb C hord a).1.app C hord (k.cmb C hord b).1).app C hord (e.tm C hord _),?_⟩
 unfold hidT
 rw[List.length_append,List.length_append,List.length_map,cmbT_len N _ n hG.len,cmbT_len N _ n k.len,hd]
end
end
section
open Go.RowKit Go.Sort Go.Deep
variable {P:Nat} [NeZero P] {N:Nat}
def BL (W:World) (q:Option Addr) (n:Nat) (X:Nat→List UInt8):Prop:=0<n→∃ g,q=some ⟨g,0,none⟩∧g<W.heap.size∧∀ i,i<n→∃ a l c,W.cell? ⟨g,i,none⟩=some (.slice a l c)∧SP.PartOk W (.slice a l c) (X i)
structure Ar (w W:World) (K e n i:Nat) (R:Nat→List Value):Prop where
 bl:Below w.heap.size w W
 lt:K<W.heap.size
 th:W.there K 0 (e*n)
 rw:∀ j,j<i→W.rangeAt K (e*j) (R j)
theorem Ar.grow {w W W':World} {K e n i:Nat} {R:Nat→List Value} (h:Ar w W K e n i R) (k:Below W.heap.size W W'):Ar w W' K e n i R:=
 ⟨h.bl.trans (k.mono h.bl.size),Nat.lt_of_lt_of_le h.lt k.size,RG.there_below h.th k h.lt,fun j b=>RG.range_below (h.rw j b) k h.lt⟩
theorem Ar.put {w W:World} {K e n i:Nat} {R:Nat→List Value} (h:Ar w W K e n i R) (c:w.heap.size≤K) (d:i<n) (b:∀ j,j≤i→(R j).length=e):Ar w (W.setCells K (e*i) (R i)) K e n (i+1) R:=by
 refine ⟨RG.below_setCells c _ _ _ h.bl,by rw[RG.setCells_size];exact h.lt,World.there_setCells h.th _ _ _,fun j l=>?_⟩
 by_cases k:j=i
 ·subst k
  refine World.rangeAt_setCells_same W K _ _ fun t f=>?_
  rw[b j (Nat.le_refl _)] at f
  have g:e*j+e≤e*n:=by
   have:=Nat.mul_le_mul_left e (Nat.succ_le_of_lt d)
   rwa[Nat.mul_succ] at this
  have:=h.th (e*j+t) oM
  rwa[Nat.zero_add] at this
 ·have g:e*j+e≤e*i:=by
   have:=Nat.mul_le_mul_left e (show j+1≤i by omega)
   rwa[Nat.mul_succ] at this
  exact World.rangeAt_setCells_apart (h.rw j oM) K _ _ (Or.inr (Or.inl (by rw[b j oM];omega)))
theorem mkArr {T E:TypeId} {e:Nat} (p:Tryz.prog.underlying T=some (.slice E)) (o:(Tryz.prog.info? E).map (fun i=>(i.size,decide (i.bytes≤4000),i.zero.isSome))=some (e,true,true)) (n:Nat) (m:n≤512):∃ C0:List Value,C0.length=e*n∧∀ w:World,(Instr.makeSlice T (.int .i64 n) (.int .i64 n)).run Tryz.prog w=.ok (.slice (some ⟨w.heap.size,0,none⟩) n n) (w.alloc (.cells C0.toArray E)):=by
 obtain ⟨i,b,k⟩:=Option.map_eq_some_iff.1 o
 simp only[Prod.mk.injEq,decide_eq_true_eq] at k
 obtain ⟨g,c,f⟩:=k
 obtain ⟨z,l⟩:=Option.isSome_iff_exists.1 f
 refine ⟨(madeCells z.cells (n*e)).toList,by rw[Array.length_toList,size_madeCells,Nat.mul_comm],fun w=>?_⟩
 have j:(i.bytes:Int)*(n:Int)≤281474976710656:=by
  have:i.bytes*n≤4000*512:=Nat.mul_le_mul c m
  have d:((i.bytes*n:Nat):Int)≤281474976710656:=oM
  rwa[Int.natCast_mul] at d
 have:=run_make (P:=Tryz.prog) w T E i z p b l .i64 .i64 (n:Int) (n:Int) oM oM j oM
 rw[Int.toNat_natCast,g] at this
 rw[Array.toArray_toList]
 exact this
theorem Ar.new {w k:World} {K e n:Nat} {C0:List Value} {E:TypeId} (R:Nat→List Value) (d:C0.length=e*n) (b:w.alloc (.cells C0.toArray E)=k) (c:w.heap.size=K):Ar w k K e n 0 R:=by
 subst c
 have hR:Row k w.heap.size C0:=by rw[← b];exact row_new w _ _
 exact ⟨by rw[← b];exact below1 _ _,hR.1,by rw[← d];exact hR.2.2,fun j f=>absurd f (Nat.not_lt_zero _)⟩
theorem sScalarK_c (O:Ord N) (r:Nat) (L:Bs) (k:ByteArray) (w:World) (n:k.size≤1048576) (D:Holds encB w r 0 L) (H:L.size=32) :
 Calls Tryz.prog 206 #[.agg #[.pointer (some ⟨r,0,none⟩)],.string k] w (Ret fun e w'=>SP.Only r 0 32 w w'∧Holds encB w' r 0 (SP.askedL L k.data.toList)∧e=nv (redu N (SP.askL L k.data.toList 64))):=by
 obtain ⟨A,x⟩:=hE (SP.askL L k.data.toList 64)
 obtain ⟨q,f⟩:∃ q,Hid (SP.askedL L k.data.toList=q):=⟨_,rfl⟩
 rw[f.out]
 have J:q.size=32:=by rw[← f.out];exact SP.askedL_size _ _
 have u:A.size=64:=by rw[← x.out];exact SP.askL_size _ _ _
 rw[x.out]
 have t:=Holds.lt D oM
 obtain ⟨g,c⟩:∃ g,Hid ((w.alloc (.cells #[.pointer (some ⟨r,0,none⟩)] 157)).alloc (.cells #[.int .u64 0,.int .u64 0,.int .u64 0,.int .u64 0] 44)=g):=⟨_,rfl⟩
 have B:Hid (Row g (w.heap.size+1) [.int .u64 0,.int .u64 0,.int .u64 0,.int .u64 0]∧Below w.heap.size w g∧Holds encB g r 0 L):=by
  rw[← c.out]
  have b:Below w.heap.size w ((w.alloc (.cells #[.pointer (some ⟨r,0,none⟩)] 157)).alloc (.cells #[.int .u64 0,.int .u64 0,.int .u64 0,.int .u64 0] 44)):=(below1 w _).alloc (by rw[World.size_alloc];omega) _
  have hR:=row_new (w.alloc (.cells #[.pointer (some ⟨r,0,none⟩)] 157)) [.int .u64 0,.int .u64 0,.int .u64 0,.int .u64 0] 44
  rw[World.size_alloc] at hR
  exact ⟨hR,b,Holds.below D b t⟩
 clear D
 go_enter Tryz.func206,Tryz.ntmps206
 go_wp2_with fail
 rw[c.out]
 clear c
 refine (SP.Ask_yes r L k 64 g n dC B.2.2 H).mono ?_
 rintro e I ⟨K,rfl,M,G,d,p⟩
 rw[x.out] at p
 rw[f.out] at d
 have y:=Holds.lt d oM
 have i:=mk4 (B.1.only G oM) ((SP.Only.of_below B.2.1 rfl t).trans G) p d
 go_wp2_with fail
 refine (reduced_c O K A u I (Holds.lt i.2.2.1 oM) i.2.2.1).mono ?_
 rintro e F ⟨v,rfl,b,rfl⟩
 have s:=mk3 (i.1.below b) (i.2.1.trans (SP.Only.of_below b rfl (Nat.lt_of_lt_of_le t i.2.1.size))) (Holds.below i.2.2.2 b y)
 obtain ⟨m,E⟩:=hE (redu N A)
 rw[E.out]
 obtain ⟨C,o⟩:=hE (F.setCells (w.heap.size+1) 0 (wn m))
 have z:Hid (Row C (w.heap.size+1) (wn m)∧SP.Only r 0 32 w C∧Holds encB C r 0 q):=by
  rw[← o.out]
  refine ⟨s.1.put rfl,only_setCells s.2.1 t oM _,fun j l=>?_⟩
  have e:=RG.setCells_other (w.heap.size+1) (wn m) 0 F r oM
  rw[World.cell?_of_block (a:=⟨r,0+j,none⟩) e,World.frozen?_of_block (a:=⟨r,0+j,none⟩) e]
  exact s.2.2 j l
 obtain ⟨P,l⟩:=hE (nv m)
 rw[l.out]
 go_wp2_with (refine wpList_store_mid rfl 44 _ _ rfl (w.heap.size+1) 0 (wn m).toArray ?_ ?_ ?_ ?_ ?_ ?_;rfl;exact l.symm;exact s.1.2.2;exact i40;exact wn_one m;rw[show (wn m).toArray.toList=wn m from rfl,o.out])
 refine bodyPost_ret (results_cell 4 44 rfl z.1 rfl u40 i40) rfl ?_
 exact ⟨_,rfl,z.2.1,z.2.2,by rw[E.out];rfl⟩
theorem row_same {W W':World} {k:Nat} {vs:List Value} (h:Row W k vs) (c:W.heap.size≤W'.heap.size) (e:W'.heap[k]? = W.heap[k]?):Row W' k vs:=
 ⟨Nat.lt_of_lt_of_le h.1 c,fun j v b=>by rw[World.cell?_of_block (a:=⟨k,0+j,none⟩) e];exact h.2.1 j v b,fun j b=>by rw[World.cell?_of_block (a:=⟨k,0+j,none⟩) e,World.frozen?_of_block (a:=⟨k,0+j,none⟩) e];exact h.2.2 j b⟩
structure Wk (w W:World) (k7 r:Nat) (L:Bs):Prop where
 bl:Below w.heap.size w W
 r7:Row W k7 [.pointer (some ⟨r,0,none⟩)]
 lg:Holds encB W r 0 L
 lr:w.heap.size≤r
 n7:k7≠r
theorem uS4:Tryz.prog.underlying 143=some (.slice 44):=kR
theorem iS4:(Tryz.prog.info? 44).map (fun i=>(i.size,decide (i.bytes≤4000),i.zero.isSome))=some (4,true,true):=kR
end
section
open Go.RowKit Go.Sort Go.Deep
variable {Q Q':Nat→Prop} {W W':World} {v:Value} {l:List (Nat × Bs)} {n:Nat}
structure Kq (Q:Nat→Prop) (W W':World):Prop where
 size:W.heap.size≤W'.heap.size
 block:∀ g,Q g→g<W.heap.size→W'.heap[g]? = W.heap[g]?
theorem Kq.of_below (k:Below W.heap.size W W'):Kq Q W W':=⟨k.size,fun g _ h=>k.block g h⟩
theorem Kq.of_only {r o m:Nat} (k:SP.Only r o m W W') (b:∀ g,Q g→g≠r):Kq Q W W':=⟨k.size,fun g d c=>k.block g c (b g d)⟩
theorem Kq.range {g o:Nat} {vs:List Value} (h:Kq Q W W') (d:Q g) (b:g<W.heap.size) (k:W.rangeAt g o vs):W'.rangeAt g o vs:=fun j v c=>by
 rw[World.cell?_of_block (a:=⟨g,o+j,none⟩) (h.block g d b)]
 exact k j v c
theorem Kq.cell {g o:Nat} {x:Value} (h:Kq Q W W') (c:Q g) (b:g<W.heap.size) (k:W.cell? ⟨g,o,none⟩=some x):W'.cell? ⟨g,o,none⟩=some x:=by
 rw[World.cell?_of_block (a:=⟨g,o,none⟩) (h.block g c b)]
 exact k
def SmQ (Q:Nat→Prop) (W:World) (v:Value) (l:List (Nat × Bs)):Prop:=∃ g c,v=.slice (some ⟨g,0,none⟩) l.length c∧l.length≤c∧Q g∧g<W.heap.size∧W.rangeAt g 0 (cellsT l)
theorem SmQ.sm (h:SmQ Q W v l):Sm 0 W v l:=by
 obtain ⟨g,c,d,k,-,b⟩:=h
 exact ⟨g,c,d,k,Nat.zero_le _,b⟩
theorem Sm.q {B:Nat} (h:Sm B W v l):SmQ (B≤·) W v l:=h
theorem SmQ.mono (h:SmQ Q W v l) (k:∀ g,Q g→Q' g):SmQ Q' W v l:=by
 obtain ⟨g,c,f,b,d,e⟩:=h
 exact ⟨g,c,f,b,k g d,e⟩
theorem SmQ.keep (h:SmQ Q W v l) (d:Kq Q W W'):SmQ Q W' v l:=by
 obtain ⟨g,c,i,e,k,b,f⟩:=h
 exact ⟨g,c,i,e,k,Nat.lt_of_lt_of_le b d.size,d.range k b f⟩
def SLq (Q:Nat→Prop) (W:World) (v:Value) (n:Nat) (a:Nat→Nat):Prop:=∃ g o c,v=.slice (some ⟨g,o,none⟩) n c∧n≤c∧Q g∧g<W.heap.size∧∀ j,j<n→W.rangeAt g (o+4*j) (wn (a j))
theorem SLq.mono {a:Nat→Nat} (h:SLq Q W v n a) (k:∀ g,Q g→Q' g):SLq Q' W v n a:=by
 obtain ⟨g,o,c,f,b,d,e⟩:=h
 exact ⟨g,o,c,f,b,k g d,e⟩
theorem SLq.keep {a:Nat→Nat} (h:SLq Q W v n a) (d:Kq Q W W'):SLq Q W' v n a:=by
 obtain ⟨g,o,c,l,e,k,b,i⟩:=h
 exact ⟨g,o,c,l,e,k,Nat.lt_of_lt_of_le b d.size,fun j f=>d.range k b (i j f)⟩
theorem SLq.congr {a b:Nat→Nat} (h:SLq Q W v n a) (e:∀ j,j<n→a j=b j):SLq Q W v n b:=by
 obtain ⟨g,o,c,m,d,i,l,f⟩:=h
 exact ⟨g,o,c,m,d,i,l,fun j k=>by rw[← e j k];exact f j k⟩
def GLq (Q:Nat→Prop) (W:World) (v:Value) (n:Nat) (T:Nat→List (Nat × Bs)):Prop:=∃ g o c,v=.slice (some ⟨g,o,none⟩) n c∧n≤c∧Q g∧g<W.heap.size∧∀ j,j<n→∃ x,W.cell? ⟨g,o+j,none⟩=some x∧SmQ Q W x (T j)
theorem GLq.mono {T:Nat→List (Nat × Bs)} (h:GLq Q W v n T) (k:∀ g,Q g→Q' g):GLq Q' W v n T:=by
 obtain ⟨g,o,c,p,b,l,m,f⟩:=h
 refine ⟨g,o,c,p,b,k g l,m,fun j e=>?_⟩
 obtain ⟨x,d,i⟩:=f j e
 exact ⟨x,d,i.mono k⟩
theorem GLq.keep {T:Nat→List (Nat × Bs)} (h:GLq Q W v n T) (k:Kq Q W W'):GLq Q W' v n T:=by
 obtain ⟨g,o,c,p,e,b,d,l⟩:=h
 refine ⟨g,o,c,p,e,b,Nat.lt_of_lt_of_le d k.size,fun j i=>?_⟩
 obtain ⟨x,f,m⟩:=l j i
 exact ⟨x,k.cell b d f,m.keep k⟩
structure GRq (Q:Nat→Prop) (W:World) (v:Value) (n:Nat) (G H:Nat→List (Nat × Bs)) (U:List (Nat × Bs)):Prop where
 ex:∃ vg vh vu,v=.agg #[vg,vh,vu]∧GLq Q W vg n G∧GLq Q W vh n H∧SmQ Q W vu U
theorem GRq.mono {G H:Nat→List (Nat × Bs)} {U:List (Nat × Bs)} (h:GRq Q W v n G H U) (k:∀ g,Q g→Q' g):GRq Q' W v n G H U:=by
 obtain ⟨e,d,i,j,b,f,c⟩:=h.ex
 exact ⟨e,d,i,j,b.mono k,f.mono k,c.mono k⟩
theorem GRq.keep {G H:Nat→List (Nat × Bs)} {U:List (Nat × Bs)} (h:GRq Q W v n G H U) (k:Kq Q W W'):GRq Q W' v n G H U:=by
 obtain ⟨e,d,g,i,b,f,c⟩:=h.ex
 exact ⟨e,d,g,i,b.keep k,f.keep k,c.keep k⟩
structure TOk (N:Nat) (l:List (Nat × Bs)):Prop where
 sz:∀ x∈l,x.2.size=33
 lt:∀ x∈l,x.1<N
theorem TOk.szm {N:Nat} (h:TOk N l):∀ x∈l.map (·.2),x.size=33:=fun x hx=>by
 obtain ⟨y,k,rfl⟩:=List.mem_map.1 hx
 exact h.sz y k
theorem TOk.app {N:Nat} {m:List (Nat × Bs)} (h:TOk N l) (k:TOk N m):TOk N (l++m):=⟨fun x hx=>(List.mem_append.1 hx).elim (h.sz x) (k.sz x),fun x hx=>(List.mem_append.1 hx).elim (h.lt x) (k.lt x)⟩
theorem TOk.tm {N:Nat} (c:0<N) (h:TOk N l) (k:Nat):TOk N (l.map (tmT N k)):=⟨fun x hx=>by
 obtain ⟨y,b,rfl⟩:=List.mem_map.1 hx
 exact h.sz y b,fun x hx=>by
 obtain ⟨y,b,rfl⟩:=List.mem_map.1 hx
 exact Nat.mod_lt _ c⟩
theorem TOk.nil {N:Nat}:TOk N []:=⟨fun _ h=>(List.not_mem_nil h).elim,fun _ h=>(List.not_mem_nil h).elim⟩
theorem Tl.ok {P:Nat} [NeZero P] {N:Nat} {X:OnP P} (h:Tl N l X):TOk N l:=⟨fun x hx=>by
 obtain ⟨X,-,e⟩:=h.pts x hx
 rw[e];exact wr_size _,h.lt⟩
theorem cmbT_ok {N:Nat} (k:0<N) {a:Nat→Nat} {T:Nat→List (Nat × Bs)}:∀ n,(∀ i,i<n→TOk N (T i))→TOk N (cmbT N a T n)
 | 0,_=>TOk.nil
 | n+1,h=>(cmbT_ok k n fun i b=>h i oM).app ((h n oM).tm k _)
end
namespace RG
open Go Go.RowKit
variable {P:Program} {ops:Array Oper} {Q:Exit→Act→World→Prop} {w:World} {a0:Act} {F:Flow}
theorem dep_ready {L:Array Bool} {i j:Nat} {o:Oper} (ho:ops[i]? = some o) (k:∀ e∈o.after,Region.binds .any e=true→on L e.on=true) (c:depOn ops i j=true):on L j=true:=by
 unfold depOn at c
 rw[ho] at c
 obtain ⟨e,d,b⟩:=Array.any_eq_true'.1 c
 simp only[Bool.and_eq_true,beq_iff_eq] at b
 have:=k e d b.1
 rw[b.2] at this
 exact this
end RG
namespace RG
open Go Go.RowKit
structure S1 where
 p:Value→World→Prop
 st:∀ v w w',Below w.heap.size w w'→p v w→p v w'
def pE (v:Value):S1:=⟨fun x _=>x=v,fun _ _ _ _ h=>h⟩
def pA:S1:=⟨fun _ _=>True,fun _ _ _ _ h=>h⟩
def pM (Q:Nat→Prop) (l:List (Nat × Bs)):S1:=⟨fun v w=>SmQ Q w v l,fun _ _ _ k h=>h.keep (Kq.of_below k)⟩
def pS (Q:Nat→Prop) (n:Nat) (a:Nat→Nat):S1:=⟨fun v w=>SLq Q w v n a,fun _ _ _ k h=>h.keep (Kq.of_below k)⟩
def pG (Q:Nat→Prop) (n:Nat) (T:Nat→List (Nat × Bs)):S1:=⟨fun v w=>GLq Q w v n T,fun _ _ _ k h=>h.keep (Kq.of_below k)⟩
def pR (Q:Nat→Prop) (n:Nat) (G H:Nat→List (Nat × Bs)) (U:List (Nat × Bs)):S1:=⟨fun v w=>GRq Q w v n G H U,fun _ _ _ k h=>h.keep (Kq.of_below k)⟩
def pI (T:TypeId) (p:S1):S1:=⟨fun v w=>∃ x,v=.iface T x∧p.p x w,fun _ w w' k ⟨x,c,b⟩=>⟨x,c,p.st x w w' k b⟩⟩
def pN (B:Nat) (cs:List Value):S1:=⟨fun v w=>∃ k,v=.pointer (some ⟨k,0,none⟩)∧B≤k∧Row w k cs,fun _ _ _ b ⟨k,d,c,e⟩=>⟨k,d,c,e.below b⟩⟩
def nth:List S1→Nat→S1
 | [],_=>pA
 | x :: _,0=>x
 | _ :: r,k+1=>nth r k
def gwL (L:List S1) (B:World→Prop) (k:∀ w w',Below w.heap.size w w'→B w→B w'):Gw:=⟨fun i=>(nth L i).p,B,fun i=>(nth L i).st,k⟩
variable {P:Program} {ops:Array Oper} {Q:Exit→Act→World→Prop} {w:World} {a0:Act} {G:Gw} {k:Nat} {o:Oper}
theorem gw_v (b:List (Tmp × Value)) (v:Value) (d:∀ a W,PreG G ops a0 k o a W→AllE a b) (hR:∀ W,G.R k v W) (e:∀ W,(seenT (b.map (·.1)) o,(execOp (evo (evl b)) o).run P W)=(true,.ok (.value v) W):=by intro _;kernel_rfl):CertF P Q G.flow ops a0 k o:=
 gw_val fun a W c=>⟨b,v,W,d a W c,e W,Below.refl _ _,hR W⟩
theorem gw_o (t:Tmp) (v b:Value) (e:a0.eval (.tmp t)=v) (hR:∀ W,G.R k b W) (hf:freeF ops k t=true:=by kernel_rfl) (d:∀ W,(seenT [t] o,(execOp (evo (evl [(t,v)])) o).run P W)=(true,.ok (.value b) W):=by intro _;kernel_rfl):CertF P Q G.flow ops a0 k o:=
 gw_v [(t,v)] b (fun a W c=>⟨(c.o t hf).trans e,trivial⟩) hR d
theorem gw_n (j:Nat) (t:Tmp) (v b:Value) (e:∀ x W,G.R j x W→x=v) (hR:∀ W,G.R k b W) (hd:(depB o j,dstOf ops j)=(true,some t):=by kernel_rfl) (d:∀ W,(seenT [t] o,(execOp (evo (evl [(t,v)])) o).run P W)=(true,.ok (.value b) W):=by intro _;kernel_rfl):CertF P Q G.flow ops a0 k o:=
 gw_v [(t,v)] b (fun a W c=>⟨e _ W (c.n j t (congrArg Prod.fst hd) (congrArg Prod.snd hd)),trivial⟩) hR d
theorem gw_m (j:Nat) (t:Tmp) (f:Value→Value) (hR:∀ x W,G.R j x W→G.R k (f x) W) (hd:(depB o j,dstOf ops j)=(true,some t):=by kernel_rfl) (c:∀ v W,(seenT [t] o,(execOp (evo (evl [(t,v)])) o).run P W)=(true,.ok (.value (f v)) W):=by intro _ _;kernel_rfl):CertF P Q G.flow ops a0 k o:=
 gw_val fun a W b=>⟨[(t,a.eval (.tmp t))],_,W,⟨rfl,trivial⟩,c _ W,Below.refl _ _,hR _ W (b.n j t (congrArg Prod.fst hd) (congrArg Prod.snd hd))⟩
theorem gw_x (j:Nat) (t:Tmp) (c:Nat) (b:Tmp) (v u e:Value) (I:Sem Value) (l:∀ W,I.run P W=.ok e W) (i:∀ x W,G.R j x W→x=v) (f:∀ x W,G.R c x W→x=u) (hR:∀ W,G.R k e W) (hd:((depB o j,dstOf ops j),(depB o c,dstOf ops c))=((true,some t),(true,some b)):=by kernel_rfl) (d:(seenT [t,b] o,execOp (evo (evl [(t,v),(b,u)])) o)=(true,I >>= fun v=>pure (Next.value v)):=by kernel_rfl):CertF P Q G.flow ops a0 k o:=
 gw_val fun a W g=>⟨[(t,v),(b,u)],e,W,⟨i _ W (g.n j t (congrArg (·.1.1) hd) (congrArg (·.1.2) hd)),f _ W (g.n c b (congrArg (·.2.1) hd) (congrArg (·.2.2) hd)),trivial⟩,by
  rw[Prod.mk.injEq] at d ⊢
  refine ⟨d.1,?_⟩
  rw[d.2,Sem.run_bind,l W]
  rfl,Below.refl _ _,hR W⟩
theorem gw_y (j:Nat) (t:Tmp) (v c:Value) (I:Sem Value) (f:∀ W,I.run P W=.ok c W) (e:∀ x W,G.R j x W→x=v) (hR:∀ W,G.R k c W) (hd:(depB o j,dstOf ops j)=(true,some t):=by kernel_rfl) (b:(seenT [t] o,execOp (evo (evl [(t,v)])) o)=(true,I >>= fun v=>pure (Next.value v)):=by kernel_rfl):CertF P Q G.flow ops a0 k o:=
 gw_val fun a W d=>⟨[(t,v)],c,W,⟨e _ W (d.n j t (congrArg Prod.fst hd) (congrArg Prod.snd hd)),trivial⟩,by
  rw[Prod.mk.injEq] at b ⊢
  refine ⟨b.1,?_⟩
  rw[b.2,Sem.run_bind,f W]
  rfl,Below.refl _ _,hR W⟩
theorem gw_l1 (T:TypeId) (j:Nat) (t:Tmp) (g off:Nat) (x:Value) (f:(P.underlying T).map (·.isRow)=some false) (e:∀ x W,G.R j x W→x=.pointer (some ⟨g,off,none⟩)) (d:∀ W,G.B W→W.cell? ⟨g,off,none⟩=some x) (hR:∀ W,G.R k x W) (hd:(depB o j,dstOf ops j)=(true,some t):=by kernel_rfl) (ho:o.op=.load T (.tmp t):=by rfl):CertF P Q G.flow ops a0 k o:=
 cf_val fun a W b=>by
  have c:=pre_of b
  refine ⟨x,W,?_,Below.refl _ _,hR W⟩
  unfold execOp
  rw[ho]
  dsimp only
  rw[e _ W (c.n j t (congrArg Prod.fst hd) (congrArg Prod.snd hd)),Sem.run_bind,run_load1 (d W c.b) f]
  rfl
theorem gw_lr (T:TypeId) (j:Nat) (t:Tmp) (g off:Nat) (cs:List Value) (e:(P.underlying T).map (·.isRow)=some true) (f:(P.info? T).map (·.size)=some cs.length) (d:∀ x W,G.R j x W→x=.pointer (some ⟨g,off,none⟩)) (c:∀ W,G.B W→W.rangeAt g off cs) (hR:∀ W,G.R k (.agg cs.toArray) W) (hd:(depB o j,dstOf ops j)=(true,some t):=by kernel_rfl) (ho:o.op=.load T (.tmp t):=by rfl):CertF P Q G.flow ops a0 k o:=
 gw_load T t ho e fun a W b=>⟨g,off,cs,d _ W (b.n j t (congrArg Prod.fst hd) (congrArg Prod.snd hd)),c W b.b,f,hR W⟩
theorem gw_lo (T:TypeId) (t:Tmp) (g off:Nat) (cs:List Value) (e:(P.underlying T).map (·.isRow)=some true) (f:(P.info? T).map (·.size)=some cs.length) (c:a0.eval (.tmp t)=.pointer (some ⟨g,off,none⟩)) (d:∀ W,G.B W→W.rangeAt g off cs) (hR:∀ W,G.R k (.agg cs.toArray) W) (hf:freeF ops k t=true:=by kernel_rfl) (ho:o.op=.load T (.tmp t):=by rfl):CertF P Q G.flow ops a0 k o:=
 gw_load T t ho e fun a W b=>⟨g,off,cs,(b.o t hf).trans c,d W b.b,f,hR W⟩
theorem gw_lo1 (T:TypeId) (t:Tmp) (g off:Nat) (x:Value) (f:(P.underlying T).map (·.isRow)=some false) (d:a0.eval (.tmp t)=.pointer (some ⟨g,off,none⟩)) (e:∀ W,G.B W→W.cell? ⟨g,off,none⟩=some x) (hR:∀ W,G.R k x W) (hf:freeF ops k t=true:=by kernel_rfl) (ho:o.op=.load T (.tmp t):=by rfl):CertF P Q G.flow ops a0 k o:=
 cf_val fun a W b=>by
  have c:=pre_of b
  refine ⟨x,W,?_,Below.refl _ _,hR W⟩
  unfold execOp
  rw[ho]
  dsimp only
  rw[c.o t hf,d,Sem.run_bind,run_load1 (e W c.b) f]
  rfl
theorem gw_a (cs:List Value) (T:TypeId) (hR:∀ W W':World,Row W' W.heap.size cs→G.B W→G.R k (.pointer (some ⟨W.heap.size,0,none⟩)) W') (c:∀ W,(seenT [] o,(execOp (evo (evl [])) o).run P W)=(true,.ok (.value (.pointer (some ⟨W.heap.size,0,none⟩))) (W.alloc (.cells cs.toArray T))):=by intro _;kernel_rfl):CertF P Q G.flow ops a0 k o:=
 gw_val fun a W b=>⟨[],_,_,trivial,c W,below1 W _,hR W _ (row_new W cs T) b.b⟩
theorem gw_c0 (f:FuncId) (args:Array Value) (d:∀ W,G.B W→Calls P f args W (Ret fun e W'=>Below W.heap.size W W'∧G.R k e W')) (c:∀ W,(seenT [] o,(execOp (evo (evl [])) o).run P W)=(true,.ok (.enter f args) W):=by intro _;kernel_rfl):CertF P Q G.flow ops a0 k o:=
 gw_call fun a W b=>⟨[],f,args,trivial,c W,d W b.b⟩
theorem gw_c1 (j:Nat) (t:Tmp) (f:FuncId) (args:Value→Array Value) (d:∀ x W,G.R j x W→G.B W→Calls P f (args x) W (Ret fun e W'=>Below W.heap.size W W'∧G.R k e W')) (hd:(depB o j,dstOf ops j)=(true,some t):=by kernel_rfl) (c:∀ x W,(seenT [t] o,(execOp (evo (evl [(t,x)])) o).run P W)=(true,.ok (.enter f (args x)) W):=by intro _ _;kernel_rfl):CertF P Q G.flow ops a0 k o:=
 gw_call fun a W b=>⟨[(t,a.eval (.tmp t))],f,_,⟨rfl,trivial⟩,c _ W,d _ W (b.n j t (congrArg Prod.fst hd) (congrArg Prod.snd hd)) b.b⟩
theorem gw_c2 (j:Nat) (t:Tmp) (c:Nat) (b:Tmp) (f:FuncId) (args:Value→Value→Array Value) (i:∀ x y W,G.R j x W→G.R c y W→G.B W→Calls P f (args x y) W (Ret fun e W'=>Below W.heap.size W W'∧G.R k e W')) (hd:((depB o j,dstOf ops j),(depB o c,dstOf ops c))=((true,some t),(true,some b)):=by kernel_rfl) (g:∀ x y W,(seenT [t,b] o,(execOp (evo (evl [(t,x),(b,y)])) o).run P W)=(true,.ok (.enter f (args x y)) W):=by intro _ _ _;kernel_rfl):CertF P Q G.flow ops a0 k o:=
 gw_call fun a W d=>⟨[(t,a.eval (.tmp t)),(b,a.eval (.tmp b))],f,_,⟨rfl,rfl,trivial⟩,g _ _ W,i _ _ W (d.n j t (congrArg (·.1.1) hd) (congrArg (·.1.2) hd)) (d.n c b (congrArg (·.2.1) hd) (congrArg (·.2.2) hd)) d.b⟩
theorem gw_c3 (j:Nat) (t:Tmp) (g:Nat) (d:Tmp) (c:Nat) (b:Tmp) (f:FuncId) (args:Value→Value→Value→Array Value) (m:∀ x y z W,G.R j x W→G.R g y W→G.R c z W→G.B W→Calls P f (args x y z) W (Ret fun e W'=>Below W.heap.size W W'∧G.R k e W')) (hd:((depB o j,dstOf ops j),(depB o g,dstOf ops g),(depB o c,dstOf ops c))=((true,some t),(true,some d),(true,some b)):=by kernel_rfl) (l:∀ x y z W,(seenT [t,d,b] o,(execOp (evo (evl [(t,x),(d,y),(b,z)])) o).run P W)=(true,.ok (.enter f (args x y z)) W):=by intro _ _ _ _;kernel_rfl):CertF P Q G.flow ops a0 k o:=
 gw_call fun a W i=>⟨[(t,a.eval (.tmp t)),(d,a.eval (.tmp d)),(b,a.eval (.tmp b))],f,_,⟨rfl,rfl,rfl,trivial⟩,l _ _ _ W,m _ _ _ W (i.n j t (congrArg (·.1.1) hd) (congrArg (·.1.2) hd)) (i.n g d (congrArg (·.2.1.1) hd) (congrArg (·.2.1.2) hd)) (i.n c b (congrArg (·.2.2.1) hd) (congrArg (·.2.2.2) hd)) i.b⟩
theorem gw_iv (T:TypeId) (j:Nat) (t:Tmp) (c:Nat) (b:Tmp) (p:S1) (f:FuncId) (g:∀ x W,G.R j x W→(pI T p).p x W) (l:∀ x y W,p.p x W→G.R c y W→G.B W→Calls P f #[x,y] W (Ret fun e W'=>Below W.heap.size W W'∧G.R k e W')) (hd:((depB o j,dstOf ops j),(depB o c,dstOf ops c))=((true,some t),(true,some b)):=by kernel_rfl) (i:∀ x y W,(seenT [t,b] o,(execOp (evo (evl [(t,.iface T x),(b,y)])) o).run P W)=(true,.ok (.enter f #[x,y]) W):=by intro _ _ _;kernel_rfl):CertF P Q G.flow ops a0 k o:=
 gw_call fun a W d=>by
  obtain ⟨x,e,hx⟩:=g _ W (d.n j t (congrArg (·.1.1) hd) (congrArg (·.1.2) hd))
  exact ⟨[(t,.iface T x),(b,a.eval (.tmp b))],f,_,⟨e,rfl,trivial⟩,i _ _ W,l _ _ W hx (d.n c b (congrArg (·.2.1) hd) (congrArg (·.2.2) hd)) d.b⟩
end RG
namespace RG
open Go Go.RowKit
variable {P:Program} {ops:Array Oper} {Q:Exit→Act→World→Prop} {w:World} {a0:Act} {G:Gw} {k:Nat} {o:Oper} {T:TypeId} {g off:Nat} {cs:List Value} {v u v' z:Value} {I:Sem Value} {f:FuncId} {t:Tmp}
theorem gO (t:Tmp) (v:Value) (c:a0.eval (.tmp t)=v:=by kernel_rfl) (hR:∀ W,G.R k v W:=by exact fun _=>rfl) (hf:freeF ops k t=true:=by kernel_rfl) (b:∀ W,(seenT [t] o,(execOp (evo (evl [(t,v)])) o).run P W)=(true,.ok (.value v) W):=by intro _;kernel_rfl):CertF P Q G.flow ops a0 k o:=gw_o t v v c hR hf b
theorem gP (t:Tmp) (v b:Value) (d:a0.eval (.tmp t)=v:=by kernel_rfl) (hR:∀ W,G.R k b W:=by exact fun _=>rfl) (hf:freeF ops k t=true:=by kernel_rfl) (c:∀ W,(seenT [t] o,(execOp (evo (evl [(t,v)])) o).run P W)=(true,.ok (.value b) W):=by intro _;kernel_rfl):CertF P Q G.flow ops a0 k o:=gw_o t v b d hR hf c
theorem gLo (t:Tmp) (c:∀ W,G.B W→W.rangeAt g off cs) (d:(P.underlying T).map (·.isRow)=some true) (e:(P.info? T).map (·.size)=some cs.length) (b:a0.eval (.tmp t)=.pointer (some ⟨g,off,none⟩):=by kernel_rfl) (hR:∀ W,G.R k (.agg cs.toArray) W:=by exact fun _=>rfl) (hf:freeF ops k t=true:=by kernel_rfl) (ho:o.op=.load T (.tmp t):=by rfl):CertF P Q G.flow ops a0 k o:=gw_lo T t g off cs d e b c hR hf ho
theorem gLr (j:Nat) (t:Tmp) (b:∀ W,G.B W→W.rangeAt g off cs) (d:(P.underlying T).map (·.isRow)=some true) (e:(P.info? T).map (·.size)=some cs.length) (c:∀ x W,G.R j x W→x=.pointer (some ⟨g,off,none⟩):=by exact fun _ _ h=>h) (hR:∀ W,G.R k (.agg cs.toArray) W:=by exact fun _=>rfl) (hd:(depB o j,dstOf ops j)=(true,some t):=by kernel_rfl) (ho:o.op=.load T (.tmp t):=by rfl):CertF P Q G.flow ops a0 k o:=gw_lr T j t g off cs d e c b hR hd ho
theorem gX (j:Nat) (t:Tmp) (c:Nat) (b:Tmp) (g:∀ W,I.run P W=.ok v' W) (f:∀ x W,G.R j x W→x=v:=by exact fun _ _ h=>h) (d:∀ x W,G.R c x W→x=u:=by exact fun _ _ h=>h) (hR:∀ W,G.R k v' W:=by exact fun _=>rfl) (hd:((depB o j,dstOf ops j),(depB o c,dstOf ops c))=((true,some t),(true,some b)):=by kernel_rfl) (e:(seenT [t,b] o,execOp (evo (evl [(t,v),(b,u)])) o)=(true,I >>= fun v=>pure (Next.value v)):=by kernel_rfl):CertF P Q G.flow ops a0 k o:=gw_x j t c b v u v' I g f d hR hd e
theorem gC2 (j:Nat) (t:Tmp) (c:Nat) (b:Tmp) (n:∀ W,Calls P f #[v,u] W (Ret fun e W'=>Below W.heap.size W W'∧e=v')) (p:∀ x W,G.R j x W→x=v:=by exact fun _ _ h=>h) (d:∀ x W,G.R c x W→x=u:=by exact fun _ _ h=>h) (hR:∀ W,G.R k v' W:=by exact fun _=>rfl) (hd:((depB o j,dstOf ops j),(depB o c,dstOf ops c))=((true,some t),(true,some b)):=by kernel_rfl) (m:∀ x y W,(seenT [t,b] o,(execOp (evo (evl [(t,x),(b,y)])) o).run P W)=(true,.ok (.enter f #[x,y]) W):=by intro _ _ _;kernel_rfl):CertF P Q G.flow ops a0 k o:=
 gw_c2 j t c b f (fun x y=>#[x,y]) (fun x y W i g _=>by
  rw[p x W i,d y W g]
  refine (n W).mono ?_
  rintro e W' ⟨a,rfl,l,rfl⟩
  exact ⟨_,rfl,l,hR W'⟩) hd m
end RG
section
open Go.RowKit Go.Sort Go.Deep
variable {P:Nat} [NeZero P] {N:Nat}
theorem conv_of (s:ByteArray) (w:World) :
 ∃ cap w',(convert 9 23 (.string s)).run Tryz.prog w=.ok (.slice (some ⟨w.heap.size,0,none⟩) s.size cap) w'∧s.size≤cap∧Below w.heap.size w w'∧Holds encB w' w.heap.size 0 s.data∧w.heap.size<w'.heap.size:=by
 have h:=Lib.run_convert_string_bytes (P:=Tryz.prog) w 9 23 5 s str9 slice22 int5
 have c:s.size≤grownCap w s.size 0 5:=by
  unfold grownCap Question.cut
  exact Nat.le_add_right _ _
 have l:s.data.size=s.size:=rfl
 refine ⟨_,_,h,c,?_,?_,by rw[Lib.bytesWorld_size];omega⟩
 ·refine ⟨?_,?_,?_,?_,fun k b=>Lib.bytesWorld_at_old w 5 s k b⟩
  ·unfold Lib.bytesWorld World.freeze
   rw[if_neg dC]
   rfl
  ·unfold Lib.bytesWorld World.freeze
   rw[if_neg dC]
   rfl
  ·unfold Lib.bytesWorld World.freeze
   rw[if_neg dC]
   rfl
  ·rw[Lib.bytesWorld_size];omega
 ·intro j g
  have f:=Lib.bytesWorld_at_new w 5 s
  have e:(Lib.bytesCells w 5 s).size=grownCap w s.size 0 5:=by
   unfold Lib.bytesCells
   rw[Array.size_append,Array.size_map,Array.size_replicate]
   omega
  have i:(Lib.bytesCells w 5 s)=(s.data++Array.replicate (grownCap w s.size 0 5-s.size) 0).map encB:=by
   unfold Lib.bytesCells
   rw[Array.map_append,Array.map_replicate]
   rfl
  have d:j<(s.data++Array.replicate (grownCap w s.size 0 5-s.size) 0).size:=by rw[Array.size_append,Array.size_replicate];omega
  have b:(s.data++Array.replicate (grownCap w s.size 0 5-s.size) 0)[j]=s.data[j]!:=by
   rw[Array.getElem_append_left g,getElem!_pos s.data j g]
  constructor
  ·unfold World.cell?
   rw[f]
   simp only[Nat.zero_add]
   rw[if_neg dC,i,Array.getElem?_map,Array.getElem?_eq_getElem d,Option.map_some,b]
  ·unfold World.frozen?
   rw[f]
   simp only[Nat.zero_add,e]
   simp
   omega
end
section
open Go.RowKit Go.Sort Go.Deep
def hf (n:Nat):Nat:=2^Nat.log2 (n-1)
theorem hf_lt {n:Nat} (h:2≤n):1≤hf n∧hf n<n∧n≤2*hf n:=by
 unfold hf
 have b:n-1≠0:=oM
 have d:=Nat.log2_self_le b
 have k:=Nat.lt_log2_self (n:=n-1)
 rw[Nat.pow_succ] at k
 have c:=Nat.two_pow_pos (Nat.log2 (n-1))
 omega
def leafH (b:Bs):Bs:=SP.tagL [108,101,97,102] [b.toList]
def nodeH (x y:Bs):Bs:=SP.tagL [110,111,100,101] [x.toList,y.toList]
section
variable {P:Program} {ops:Array Oper} {rest:List Oper} {op:Oper} {a:Act} {w:World} {Q:Exit→Act→World→Prop}
theorem wpList_idx (v:Value) (k:op.guard=none) (c:Value) (t:Tmp) (T:TypeId) (ho:op.op=.index T (.const c) (.tmp t)) (b:(Instr.index T c (a.eval (.tmp t))).run P w=.ok v w) (h:wpList P ops Q rest (a.put op.dst v) w):wpList P ops Q (op :: rest) a w:=
 wpList_plain k fun K d=>by
  unfold Oper.wp
  have:(execOp a.eval op).run P w=.ok (.value v) w:=by
   unfold execOp
   rw[ho]
   show ((Instr.index T c (a.eval (.tmp t))) >>= fun v=>pure (Next.value v)).run P w=_
   rw[Sem.run_bind,b]
   rfl
  rw[this]
  exact d _ _ h
end
theorem idx_run (s:ByteArray) (y n:Nat) (b:y<s.size) (c:((s[y]'b).toNat)=n) (w:World):(Instr.index 9 (.string s) (.int .u8 y)).run Tryz.prog w=.ok (.int .u8 n) w:=by
 rw[run_index_string (t:=9) (s:=s) (k:=.u8) (i:=(y:Int)) (h:=str9)]
 subst c
 simp[b]
theorem len64_c (x:Nat) (hx:x<1048576) (w:World):Calls Tryz.prog 194 #[.int .u64 x] w fun e w'=>e=.returned (.int .i64 (k x:Int))∧w'=w:=by
 have t:¬ (4294967296:Int)≤(x:Int):=oM
 by_cases s:65536≤x
 ·have r:(65536:Int)≤(x:Int):=oM
  obtain ⟨y,m⟩:∃ y,Hid (x/65536=y):=⟨_,rfl⟩
  have d:=m.out
  have n:(x:Int)/65536=(y:Int):=oM
  have b:y<256:=oM
  have p:¬ (256:Int)≤(y:Int):=oM
  have q:(y:Int)%256=(y:Int):=oM
  have j:=bitLen_shift x 16 (by show x/65536≠0;omega)
  have c:k x=16+k y:=by rw[j];show 16+k (x/65536)=_;rw[d]
  have i:=bitLen_le8 y b
  have g:Hid (k x=16+k y∧k y≤8):=⟨c,i⟩
  clear j c i d
  go_enter Tryz.func194,Tryz.ntmps194
  go_wp2_with (refine wpList_idx (.int .u8 (k y:Int)) rfl _ 21 9 rfl ?_ ?_;(refine idx_run _ y (k y) ?_ ?_ w;exact b;exact len8tab_get y b))
  go_ret
  refine ⟨congrArg Ending.returned (congrArg (Value.int IntKind.i64) ?_),rfl⟩
  have l:=g.1
  have o:=g.2
  rw[l]
  simp only[wrap64]
  omega
 ·have r:¬ (65536:Int)≤(x:Int):=oM
  by_cases i:256≤x
  ·have p:(256:Int)≤(x:Int):=oM
   obtain ⟨y,m⟩:∃ y,Hid (x/256=y):=⟨_,rfl⟩
   have d:=m.out
   have n:(x:Int)/256=(y:Int):=oM
   have b:y<256:=oM
   have q:(y:Int)%256=(y:Int):=oM
   have j:=bitLen_shift x 8 (by show x/256≠0;omega)
   have c:k x=8+k y:=by rw[j];show 8+k (x/256)=_;rw[d]
   have i:=bitLen_le8 y b
   have g:Hid (k x=8+k y∧k y≤8):=⟨c,i⟩
   clear j c i d
   go_enter Tryz.func194,Tryz.ntmps194
   go_wp2_with (refine wpList_idx (.int .u8 (k y:Int)) rfl _ 21 9 rfl ?_ ?_;(refine idx_run _ y (k y) ?_ ?_ w;exact b;exact len8tab_get y b))
   go_ret
   refine ⟨congrArg Ending.returned (congrArg (Value.int IntKind.i64) ?_),rfl⟩
   have l:=g.1
   have o:=g.2
   rw[l]
   simp only[wrap64]
   omega
  ·have f:x<256:=oM
   have p:¬ (256:Int)≤(x:Int):=oM
   have q:(x:Int)%256=(x:Int):=oM
   have g:Hid (k x≤8):=bitLen_le8 x f
   go_enter Tryz.func194,Tryz.ntmps194
   go_wp2_with (refine wpList_idx (.int .u8 (k x:Int)) rfl _ 21 9 rfl ?_ ?_;(refine idx_run _ x (k x) ?_ ?_ w;exact f;exact len8tab_get x f))
   go_ret
   refine ⟨congrArg Ending.returned (congrArg (Value.int IntKind.i64) ?_),rfl⟩
   have o:=g.out
   simp only[wrap64]
   omega
theorem len_c (x:Nat) (hx:x<1048576) (w:World):Calls Tryz.prog 153 #[.int .u64 x] w fun e w'=>e=.returned (.int .i64 (k x:Int))∧w'=w:=by
 go_enter Tryz.func153,Tryz.ntmps153
 go_wp2_with fail
 refine (len64_c x hx w).mono ?_
 rintro e w' ⟨rfl,rfl⟩
 go_wp2_with fail
 go_ret
 exact ⟨rfl,rfl⟩
theorem half_c (n:Nat) (f:2≤n) (p:n≤1048576) (w:World):Calls Tryz.prog 97 #[.int .i64 n] w fun e w'=>e=.returned (.int .i64 (hf n:Int))∧w'=w:=by
 obtain ⟨x,hx⟩:∃ x,Hid (n-1=x):=⟨_,rfl⟩
 have c:=hx.out
 have o:(n:Int)-1=(x:Int):=oM
 have g:=len_c x oM w
 obtain ⟨k,d⟩:∃ k,Hid (Nat.log2 x=k):=⟨_,rfl⟩
 have b:bitLen x=k+1:=by unfold bitLen;rw[if_neg oM,d.out]
 have i:k<20:=by rw[← d.out];exact (Nat.log2_lt oM).2 oM
 rw[b] at g
 have l:Hid (hf n=2^k):=by show _=_;unfold hf;rw[c,d.out]
 clear c b
 go_enter Tryz.func97,Tryz.ntmps97
 go_wp2_with fail
 refine g.mono ?_
 rintro e w' ⟨rfl,rfl⟩
 go_wp2
 go_ret
 refine ⟨congrArg Ending.returned (congrArg (Value.int IntKind.i64) ?_),rfl⟩
 have j:2^k≤2^19:=Nat.pow_le_pow_right dC oM
 have f:((2^k:Nat):Int)=(2:Int)^k:=by simp
 rw[l.out,← f]
 generalize 2^k=m at j ⊢
 show wrap64 _=_
 unfold wrap64
 omega
end
section
open Go.RowKit Go.Sort Go.Deep
variable {P:Nat} [NeZero P] {N:Nat}
theorem part_tag {w:World} {r:Nat} {l:List UInt8} {k:List (List UInt8)} (h:Holds encB w r 0 (SP.tagL l k)):SP.PartOk w (.slice (some ⟨r,0,none⟩) 32 32) (SP.tagL l k).toList:=
 ⟨_,r,0,32,SP.tagL l k,by rw[SP.tagL_size],rfl,by rw[SP.tagL_size];exact Nat.le_refl _,by rw[SP.tagL_size];decide,Or.inr ⟨rfl,h⟩⟩
def PartS (w:World) (v:Value) (b:List UInt8):Prop:=(∃ q n c,v=.slice q n c)∧SP.PartOk w v b
def Lists (w:World) (q:Option Addr) (n:Nat) (S:Nat→Bs):Prop:=0<n→∃ k b,q=some ⟨k,b,none⟩∧k<w.heap.size∧∀ j,j<n→∃ v,w.cell? ⟨k,b+j,none⟩=some v∧PartS w v (S j).toList
theorem Lists.below {w d:World} {q:Option Addr} {n:Nat} {S:Nat→Bs} (h:Lists w q n S) (k:Below w.heap.size w d):Lists d q n S:=fun g=>by
 obtain ⟨f,b,o,c,l⟩:=h g
 refine ⟨f,b,o,Nat.lt_of_lt_of_le c k.size,fun j i=>?_⟩
 obtain ⟨v,m,e⟩:=l j i
 exact ⟨v,by rw[k.cell (p:=⟨f,b+j,none⟩) c];exact m,e.1,e.2.below k⟩
theorem Lists.less {w:World} {q:Option Addr} {n m:Nat} {S:Nat→Bs} (h:Lists w q n S) (i:m≤n):Lists w q m S:=fun f=>by
 obtain ⟨c,k,e,b,d⟩:=h oM
 exact ⟨c,k,e,b,fun j g=>d j oM⟩
theorem Hid.mk2 {p:Prop} (h:p):Hid p:=h
theorem part_nil2 (w:World):SP.PartOk w (.slice none 0 0) (#[]:Bs).toList:=⟨none,0,0,0,#[],rfl,rfl,Nat.le_refl _,dC,Or.inl rfl⟩
def num4 (n:Nat):Bs:=#[SP.lenB n 16777216,SP.lenB n 65536,SP.lenB n 256,SP.lenB n 1]
def childH (k:Bs) (n:Nat):Bs:=SP.tagL [99,104,105,108,100] [k.toList,(num4 n).toList]
def keyH (k:Bs) (l:List UInt8):Bs:=SP.tagL [107,101,121] [k.toList,l]
def downH (S:Nat→Nat) (k:Bs):Nat→Bs
 | 0=>k
 | j+1=>childH (downH S k j) (S j)
def derH (S:Nat→Nat) (k:Bs) (n:Nat) (l:List UInt8):Bs:=keyH (downH S k n) l
theorem numeral_c (n:Nat) (l:n<4294967296) (w:World):Calls Tryz.prog 150 #[.int .u32 n] w (Ret fun e w'=>Below w.heap.size w w'∧∃ r,e=.slice (some ⟨r,0,none⟩) 4 4∧Holds encB w' r 0 (num4 n)):=by
 have b:(n:Int)/16777216%256=SP.ub (SP.lenB n 16777216):=SP.lenB_int n 16777216
 have b0:(n:Int)/16777216=SP.ub (SP.lenB n 16777216):=oM
 clear b
 have b1:(n:Int)/65536%256=SP.ub (SP.lenB n 65536):=SP.lenB_int n 65536
 have o:(n:Int)/256%256=SP.ub (SP.lenB n 256):=SP.lenB_int n 256
 have m:(n:Int)%256=SP.ub (SP.lenB n 1):=SP.lenB_one n
 have c:=SP.holds_four w (SP.lenB n 16777216) (SP.lenB n 65536) (SP.lenB n 256) (SP.lenB n 1)
 have j:Hid (num4 n=#[SP.lenB n 16777216,SP.lenB n 65536,SP.lenB n 256,SP.lenB n 1]):=rfl
 generalize SP.lenB n 16777216=f at *
 generalize SP.lenB n 65536=d at *
 generalize SP.lenB n 256=g at *
 generalize SP.lenB n 1=i at *
 have k:Below w.heap.size w (w.alloc (.cells #[.int .u8 (SP.ub f),.int .u8 (SP.ub d),.int .u8 (SP.ub g),.int .u8 (SP.ub i)] 5)):=(Below.refl _ _).alloc (Nat.le_refl _) _
 go_enter Tryz.func150,Tryz.ntmps150
 go_wp2
 go_ret
 refine ⟨_,rfl,k,_,rfl,?_⟩
 rw[j.out]
 exact c
def NumsK (w:World) (q:Option Addr) (n:Nat) (S:Nat→Nat):Prop:=(∀ j,j<n→S j<4294967296)∧(0<n→∃ k b,q=some ⟨k,b,none⟩∧k<w.heap.size∧∀ j,j<n→w.cell? ⟨k,b+j,none⟩=some (.int .u32 (S j:Int)))
theorem part_4 {w:World} {r n:Nat} (h:Holds encB w r 0 (num4 n)):SP.PartOk w (.slice (some ⟨r,0,none⟩) 4 4) (num4 n).toList:=
 ⟨_,r,0,4,num4 n,rfl,rfl,Nat.le_refl _,Nat.le_of_ble_eq_true rfl,Or.inr ⟨rfl,h⟩⟩
theorem tag2 (k:ByteArray) (d:k.size≤1048576) (q i:Option Addr) (n c l m:Nat) (x y:List UInt8) (w:World) (hv:SP.PartOk w (.slice q n c) x) (f:SP.PartOk w (.slice i l m) y) :
 Calls Tryz.prog 46 #[.string k,.slice (some ⟨w.heap.size,0,none⟩) 2 2] (w.alloc (.cells #[.slice q n c,.slice i l m] 23)) fun e w'=>∃ r,e=.returned (.slice (some ⟨r,0,none⟩) 32 32)∧w.heap.size≤r∧Below w.heap.size w w'∧Holds encB w' r 0 (SP.tagL k.data.toList [x,y]):=by
 have b:=RG.Made.alloc w [.slice q n c,.slice i l m] 23
 refine (SP.Tag_any k (some ⟨w.heap.size,0,none⟩) 2 [x,y] _ d (Nat.le_of_ble_eq_true rfl) (Or.inr ⟨_,_,rfl,fun j t=>?_⟩)).mono ?_
 ·have g:j=0∨j=1:=by simp at t;omega
  rcases g with rfl|rfl
  ·exact ⟨_,b.range 0 _ rfl,hv.below b.bel⟩
  ·exact ⟨_,b.range 1 _ rfl,f.below b.bel⟩
 ·rintro e u ⟨r,rfl,p,o,s⟩
  have g:=b.bel.size
  exact ⟨r,rfl,Nat.le_trans g p,b.bel.trans (o.mono g),s⟩
theorem derived_c (D:Option Addr) (F sc:Nat) (k:Bs) (b:ByteArray) (u:b.size≤65536) (q:Option Addr) (n c:Nat) (S:Nat→Nat) (w:World) (X:n≤1048576) (K:SP.PartOk w (.slice D F sc) k.toList) (M:NumsK w q n S) :
 Calls Tryz.prog 93 #[.slice D F sc,.string b,.slice q n c] w (Ret fun e w'=>Below w.heap.size w w'∧∃ r,e=.slice (some ⟨r,0,none⟩) 32 32∧w.heap.size≤r∧Holds encB w' r 0 (derH S k n b.data.toList)):=by
 have H:Hid (NumsK w q n S):=M
 have T:Hid (PartS w (.slice D F sc) (downH S k 0).toList):=⟨⟨_,_,_,rfl⟩,K⟩
 clear M K
 go_enter Tryz.func93,Tryz.ntmps93
 go_wp2
 go_loopg [7,13] n (fun g s7 s13 W=>∃ (i:Nat) (v:Value),i+g=n∧v=s7∧s13=.int .i64 i∧Hid (Below w.heap.size w W∧PartS W v (downH S k i).toList))
 case atStart=>exact ⟨0,_,oM,rfl,rfl,Below.refl _ _,T.out⟩
 case round =>
  obtain ⟨i,v,V,rfl,rfl,j⟩:=hrel
  obtain ⟨N,J,I,rfl⟩:=j.2.1
  by_cases O:i<n
  ·have G:(i:Int)<(n:Int):=oM
   obtain ⟨C,a,rfl,z,Q⟩:=H.2 oM
   have hv:wr.cell? ⟨C,a+i,none⟩=some (.int .u32 (S i:Int)):=by rw[j.1.cell (p:=⟨C,a+i,none⟩) z];exact Q i O
   have R:∀ w:World,(Instr.indexAt 93 (.slice (some ⟨C,a,none⟩) n c) (.int .i64 i)).run Tryz.prog w=.ok (.pointer (some ⟨C,a+i,none⟩)) w:=fun w=>by
    have f:¬ (i:Int)<0:=oM
    have d:(i:Int)<(n:Int):=oM
    go_simp
   have o:=numeral_c (S i) (H.1 i O) wr
   have P:Hid (childH (downH S k i) (S i)=downH S k (i+1)):=rfl
   clear Q z
   generalize S i=x at hv o P
   go_wp2_with fail
   refine o.mono ?_
   rintro e L ⟨v2,rfl,m,U,rfl,s⟩
   have A:=tag2 ⟨#[99,104,105,108,100]⟩ dC N (some ⟨U,0,none⟩) J I 4 4 _ _ L (j.2.2.below m) (part_4 s)
   have E:Hid (Below w.heap.size w L):=j.1.trans (m.mono j.1.size)
   clear m s o
   go_wp2_with fail
   refine A.mono ?_
   rintro e t ⟨B,rfl,l,d,f⟩
   have y:Hid (Below w.heap.size w t∧PartS t (.slice (some ⟨B,0,none⟩) 32 32) (downH S k (i+1)).toList):=by
    refine ⟨E.trans (d.mono E.size),⟨_,_,_,rfl⟩,?_⟩
    rw[← P.out]
    exact part_tag f
   clear l d f A E j
   go_wp2
   go_roundg (gk-1)
   case measure=>omega
   case rel=>exact ⟨i+1,_,oM,rfl,rfl,y.out⟩
  ·have G:¬ (i:Int)<(n:Int):=oM
   obtain rfl:i=n:=oM
   obtain ⟨o,E,P,m,s,a,z⟩:=conv_of b wr
   have L:SP.PartOk E (.slice (some ⟨wr.heap.size,0,none⟩) b.size o) b.data.toList:=⟨_,wr.heap.size,0,o,b.data,rfl,rfl,m,Nat.le_trans u dC,Or.inr ⟨rfl,a⟩⟩
   have A:=tag2 ⟨#[107,101,121]⟩ dC N _ J I _ _ _ _ E (j.2.2.below s) L
   have C:Hid (Below w.heap.size w E):=j.1.trans (s.mono j.1.size)
   clear s a z m L j
   go_wp2_with fail
   refine A.mono ?_
   rintro e t ⟨B,rfl,l,d,f⟩
   have y:Hid (Below w.heap.size w t∧w.heap.size≤B∧Holds encB t B 0 (derH S k i b.data.toList)):=⟨C.trans (d.mono C.size),Nat.le_trans C.size l,f⟩
   clear l d f A C
   go_wp2
   go_ret
   exact ⟨_,rfl,y.1,_,rfl,y.2.1,y.2.2⟩
theorem derH_size (S:Nat→Nat) (k:Bs) (n:Nat) (l:List UInt8):(derH S k n l).size=32:=by unfold derH keyH;exact SP.tagL_size _ _
theorem isSeed_c (q:Option Addr) (n c:Nat) (w:World):Calls Tryz.prog 92 #[.slice q n c] w fun e w'=>e=.returned (.bool (decide (n=32)))∧w'=w:=by
 by_cases h:n=32
 ·subst h
  go_enter Tryz.func92,Tryz.ntmps92
  go_wp2
  go_ret
  exact ⟨rfl,rfl⟩
 ·have k:¬ (n:Int)=32:=oM
  have b:((n:Int) == 32)=false:=by simpa using k
  rw[decide_eq_false h]
  go_enter Tryz.func92,Tryz.ntmps92
  go_wp2
  go_ret
  exact ⟨rfl,rfl⟩
def kdE (k:Bs) (n:Nat):Nat:=if k.size=32 then (if n≤16 then 0 else 1) else 2
theorem Derive_c (o:Option Addr) (i sc:Nat) (k:Bs) (d:ByteArray) (l:d.size≤65536) (q:Option Addr) (n c:Nat) (S:Nat→Nat) (w:World) (a:n≤1048576) (u:SP.PartOk w (.slice o i sc) k.toList) (f:i=k.size) (y:NumsK w q n S) :
 Calls Tryz.prog 43 #[.slice o i sc,.string d,.slice q n c] w (Ret fun e w'=>Below w.heap.size w w'∧((¬ (k.size=32∧n≤16)∧e=.tuple #[.slice none 0 0,.int .i64 (kdE k n:Int)])∨((k.size=32∧n≤16)∧∃ r,e=.tuple #[.slice (some ⟨r,0,none⟩) 32 32,.int .i64 0]∧w.heap.size≤r∧Holds encB w' r 0 (derH S k n d.data.toList)))):=by
 have j:=isSeed_c o i sc w
 have hd:=derived_c o i sc k d l q n c S w a u y
 clear u y
 have A:=Hid.mk2 f
 by_cases t:i=32
 ·have b:k.size=32:=oM
  clear f
  rw[decide_eq_true t] at j
  subst t
  have p:=Hid.mk2 b
  clear b
  by_cases s:n≤16
  ·have g:¬ (16:Int)<(n:Int):=oM
   go_enter Tryz.func43,Tryz.ntmps43
   go_wp2_with fail
   refine j.mono ?_
   rintro e w' ⟨rfl,rfl⟩
   go_wp2_with fail
   refine hd.mono ?_
   rintro e v ⟨v2,rfl,m,r,rfl,x,z⟩
   have K:Hid (Below w'.heap.size w' v∧w'.heap.size≤r∧Holds encB v r 0 (derH S k n d.data.toList)):=⟨m,x,z⟩
   clear m x z hd j
   go_wp2
   go_ret2
   exact ⟨_,rfl,K.1,Or.inr ⟨⟨p.out,s⟩,_,rfl,K.2.1,K.2.2⟩⟩
  ·have g:(16:Int)<(n:Int):=oM
   have hE:kdE k n=1:=by unfold kdE;rw[if_pos p.out,if_neg s]
   clear hd
   go_enter Tryz.func43,Tryz.ntmps43
   go_wp2_with fail
   refine j.mono ?_
   rintro e w' ⟨rfl,rfl⟩
   go_wp2
   go_ret2
   exact ⟨_,rfl,Below.refl _ _,Or.inl ⟨fun h=>s h.2,by rw[hE];rfl⟩⟩
 ·rw[decide_eq_false t] at j
  have b:¬ k.size=32:=oM
  have hE:kdE k n=2:=by unfold kdE;rw[if_neg b]
  have p:=Hid.mk2 b
  clear hd f b
  go_enter Tryz.func43,Tryz.ntmps43
  go_wp2_with fail
  refine j.mono ?_
  rintro e w' ⟨rfl,rfl⟩
  go_wp2
  go_ret2
  exact ⟨_,rfl,Below.refl _ _,Or.inl ⟨fun h=>p.out h.1,by rw[hE];rfl⟩⟩
theorem ofOne_c:Gives 15 #[.int .u64 1] (nv 1):=by
 intro w
 go_enter Tryz.func15,Tryz.ntmps15
 refine RG.M.enter [(0,.v (.int .u64 1))] 6 kR ?_
 intro a0 c
 repeat refine wp_seq ?_
 refine c.T [.m 0] [(0,RG.z 4)] [] [RG.z 4] [0,2] ⟨RG.mk 0 44,trivial⟩ ?_
 intro k g e d
 repeat refine wp_seq ?_
 refine d.T [.x (.int .u64 1),.x (nv 1),.x (nv 1),.u 0] [] [(0,3,wn 1)] [wn 1] [2] ⟨RG.st,RG.st,RG.st,RG.pt i40,trivial⟩ ?_
 intro a2 f b
 refine wp_ret ?_
 refine bodyPost_ret (v:=nv 1) (RG.results_row b.st 2 44 rfl 0 _ rfl (b.at (s:=(.p 0 0))) u40 i40) b.sl.defers ?_
 exact ⟨_,rfl,b.st.bel.below,rfl⟩
def orOne (a:Nat):Nat:=if a=0 then 1 else a
theorem orOne_lt (O:Ord N) {a:Nat} (k:a<N):orOne a<N:=by
 unfold orOne
 by_cases h:a=0
 ·rw[if_pos h];have:=O.n2;omega
 ·rw[if_neg h];exact k
theorem orOne_c (O:Ord N) {a:Nat} (l:a<N):Gives 123 #[nv a] (nv (orOne a)):=by
 intro w
 have f:=Nat.lt_of_lt_of_le l O.le
 have g:∀ w:World,(binOp .eql 44 (nv a) (nv 0)).run Tryz.prog w=.ok (.bool (decide (a=0))) w:=fun w=>eqS f (show 0<top by unfold top;omega) w
 obtain ⟨d,hd⟩:=hE (decide (a=0))
 rw[hd.out] at g
 go_enter Tryz.func123,Tryz.ntmps123
 refine RG.M.enter [(0,.v (nv a))] 8 kR ?_
 intro a0 m
 repeat refine wp_seq ?_
 refine m.T [.m 0,.m 1] [(0,wn a),(1,RG.z 4)] [] [wn a,RG.z 4] [1,2] ⟨RG.mk 0 44,RG.mk 1 44,trivial⟩ ?_
 intro q t r o j
 repeat refine wp_seq ?_
 refine j.U [.x (nv a),.x (nv 0),.x (.bool d)] [1,2,5] ⟨RG.ld u40 i40,RG.st,RG.cert_bin rfl .eql 44 44 3 4 (nv a) (nv 0) (.bool d) rfl rfl RG.sx RG.sx (fun w=>kR) g,trivial⟩ ?_
 intro a2 p b
 cases d with
 | true =>
  refine wp_cond_true b.ev ?_
  have c:=of_decide_eq_true hd.out
  have e:orOne a=1:=by unfold orOne;rw[if_pos c]
  rw[e]
  repeat refine wp_seq ?_
  refine b.T [.c (nv 1),.u 1] [] [(1,1,wn 1)] [wn a,wn 1] [2] ⟨RG.cl ofOne_c,RG.pt i40,trivial⟩ ?_
  intro n i k
  refine wp_ret ?_
  refine bodyPost_ret (v:=nv 1) (RG.results_row k.st 2 44 rfl 1 _ rfl (k.at (s:=(.p 1 0))) u40 i40) k.sl.defers ?_
  exact ⟨_,rfl,k.st.bel.below,rfl⟩
 | false =>
  refine wp_cond_false b.ev ?_
  have c:=of_decide_eq_false hd.out
  have e:orOne a=a:=by unfold orOne;rw[if_neg c]
  rw[e]
  refine wp_skip ?_
  repeat refine wp_seq ?_
  refine b.T [.x (nv a),.u 1] [] [(1,1,wn a)] [wn a,wn a] [2] ⟨RG.ld u40 i40,RG.pt i40,trivial⟩ ?_
  intro n i k
  refine wp_ret ?_
  refine bodyPost_ret (v:=nv a) (RG.results_row k.st 2 44 rfl 1 _ rfl (k.at (s:=(.p 1 0))) u40 i40) k.sl.defers ?_
  exact ⟨_,rfl,k.st.bel.below,rfl⟩
end
section
open Go.RowKit Go.Sort Go.Deep
section
variable {P:Program} {ops:Array Oper} {rest:List Oper} {op:Oper} {a:Act} {w w':World} {v:Value} {Q:Exit→Act→World→Prop}
theorem wpList_st1 (c:op.guard=none) (k:TypeId) (x y:Operand) (ho:op.op=.store k x y) (b o:Nat) (v:Value) (hx:a.eval x=.pointer (some ⟨b,o,none⟩)) (i:a.eval y=v) (hv:v.cells=#[v]) (f:v.oneCell'=true) (l:w.there b o 1) (j:(P.info? k).map (·.size)=some 1)
 (h:wpList P ops Q rest (a.put op.dst undef) (w.setCells b o [v])):wpList P ops Q (op :: rest) a w:=
 wpList_plain c fun _ d=>by
  have g:=run_storeVar_mid (P:=P) w b o k #[v] l j (by simp[f])
  have e:storeVar k ⟨b,o,none⟩ v=storeVar k ⟨b,o,none⟩ (.agg #[v]):=by
   unfold storeVar
   rw[hv]
   rfl
  unfold Oper.wp execOp
  simp only[ho,hx,i,Instr.storeAt,Instr.sureAddr,Sem.run_bind,Sem.run_pure,Result.andThen_ok,e,g]
  exact d _ _ h
theorem wpList_cv (k:op.guard=none) (s t:Tmp) (d:Array TypeId) (ho:op.op=.call ⟨.value (.tmp s),#[.tmp t],d⟩) (f:FuncId) (cap:Array Value) (x:Value) (g:a.eval (.tmp s)=.func (.func f) #[] cap) (hx:a.eval (.tmp t)=x) (hf:∀ args W,(callFunc f args).run P W=.ok (.enter f args) W)
 {R:Value→World→Prop} (i:Calls P f (#[x]++cap) w (Ret R)) (h:∀ v w',R v w'→wpList P ops Q rest (a.put op.dst v) w'):wpList P ops Q (op :: rest) a w:=
 wpList_plain k fun K b=>by
  have c:(execOp a.eval op).run P w=.ok (.enter f (#[x]++cap)) w:=by
   unfold execOp
   rw[ho]
   have e:(#[Operand.tmp t].map a.eval)=#[x]:=by simp[hx]
   simp only[resolve,g,Deferred.ofValue,Sem.run_bind,Sem.run_pure,Result.andThen_ok,invoke,e]
   exact hf _ w
  unfold Oper.wp
  rw[c,Oper.upon_enter]
  refine i.mono ?_
  rintro e w' ⟨v,rfl,hR⟩
  exact b _ _ (h v w' hR)
end
end
section
open Go.RowKit Go.Sort Go.Deep
variable {P:Nat} [NeZero P] {N:Nat}
theorem numeralS_c (n:Nat) (l:n<4294967296) (w:World):Calls Tryz.prog 182 #[.int .i64 n] w (Ret fun e w'=>Below w.heap.size w w'∧∃ r,e=.slice (some ⟨r,0,none⟩) 4 4∧r<w'.heap.size∧Holds encB w' r 0 (num4 n)):=by
 have b:(n:Int)/16777216%256=SP.ub (SP.lenB n 16777216):=SP.lenB_int n 16777216
 have b0:(n:Int)/16777216=SP.ub (SP.lenB n 16777216):=oM
 clear b
 have b1:(n:Int)/65536%256=SP.ub (SP.lenB n 65536):=SP.lenB_int n 65536
 have o:(n:Int)/256%256=SP.ub (SP.lenB n 256):=SP.lenB_int n 256
 have m:(n:Int)%256=SP.ub (SP.lenB n 1):=SP.lenB_one n
 have c:=SP.holds_four w (SP.lenB n 16777216) (SP.lenB n 65536) (SP.lenB n 256) (SP.lenB n 1)
 have j:Hid (num4 n=#[SP.lenB n 16777216,SP.lenB n 65536,SP.lenB n 256,SP.lenB n 1]):=rfl
 generalize SP.lenB n 16777216=f at *
 generalize SP.lenB n 65536=d at *
 generalize SP.lenB n 256=g at *
 generalize SP.lenB n 1=i at *
 have k:Below w.heap.size w (w.alloc (.cells #[.int .u8 (SP.ub f),.int .u8 (SP.ub d),.int .u8 (SP.ub g),.int .u8 (SP.ub i)] 5)):=(Below.refl _ _).alloc (Nat.le_refl _) _
 go_enter Tryz.func182,Tryz.ntmps182
 go_wp2
 go_ret
 refine ⟨_,rfl,k,_,rfl,by rw[World.size_alloc];omega,?_⟩
 rw[j.out]
 exact c
theorem onceS_c (a:Bs) (j:a.size=33) (w:World):Calls Tryz.prog 129 #[pvl a] w (Ret fun e w'=>Below w.heap.size w w'∧Sm w.heap.size w' e [(1,a)]):=by
 have l:=Hid.mk' (boxCP j w)
 obtain ⟨g,d⟩:=hE (w.alloc (.cells (bl33 a).toArray 51))
 rw[d.out] at l
 have K:Hid (Row g w.heap.size (bl33 a)∧Below w.heap.size w g):=by rw[← d.out];exact ⟨row_new w _ _,below1 w _⟩
 obtain ⟨va,f⟩:=hE (pvl a)
 have i:Hid ((Instr.box 51 va).run Tryz.prog w=.ok (.pointer (some ⟨w.heap.size,0,none⟩)) g):=by rw[← f.out];exact l
 rw[f.out]
 go_enter Tryz.func129,Tryz.ntmps129
 go_wp2_with (first|(refine wpList_box (u:=va) (v:=.pointer (some ⟨w.heap.size,0,none⟩)) (w':=g) rfl 51 (.tmp 0) rfl ?_ ?_ ?_;rfl;exact i.out)|fail)
 refine (RG.gwL [RG.pE (pvl a),RG.pE (nv 1),RG.pM (w.heap.size≤·) [(1,a)],RG.pM (w.heap.size≤·) [(1,a)]] (fun W=>Row W w.heap.size (bl33 a)∧Below w.heap.size w W) (fun W W' b h=>⟨h.1.below b,h.2.trans (b.mono h.2.size)⟩)).draws kR kR ⟨
  RG.gw_lo 51 1 w.heap.size 0 (bl33 a) uCP (by rw[bl33_length j];exact infoCP) rfl (fun W c=>c.1.2.1) (fun _=>rfl),
  RG.gw_c0 15 #[.int .u64 1] fun W c=>(of1_c W).mono (by
   rintro e W' ⟨u,rfl,b,rfl⟩
   exact ⟨_,rfl,b,rfl⟩),
  RG.gw_c2 0 3 1 4 32 (fun x y=>#[x,y]) fun x y W hx n c=>by
   obtain rfl:x=pvl a:=hx
   obtain rfl:y=nv 1:=n
   refine (ptTimes_c a j 1 W).mono ?_
   rintro e W' ⟨u,rfl,b,k,rfl,m,hR⟩
   exact ⟨_,rfl,b,Sm.one hR (Nat.le_trans c.2.size m) rfl⟩,
  RG.gw_m 2 5 id fun x W h=>h,trivial⟩ ⟨K.1,K.2.drew⟩ ?_
 intro V o hR c
 have m:=mk1 (hR 3 (Nat.lt_of_succ_le (Nat.le_of_ble_eq_true kR)))
 have n:=mk1 (c.2)
 dsimp only[RG.putV,Nat.reduceAdd]
 go_wp2
 go_ret
 exact ⟨_,rfl,n.out,m.out⟩
theorem u9s:(Tryz.prog.underlying 9).map (·.isRow)=some false:=kR
def RG.pH (n:Nat) (b:Bs):RG.S1:=⟨fun v W=>∃ r,v=.slice (some ⟨r,0,none⟩) n n∧r<W.heap.size∧Holds encB W r 0 b,fun _ _ _ k ⟨r,d,c,e⟩=>⟨r,d,Nat.lt_of_lt_of_le c k.size,Holds.below e k c⟩⟩
noncomputable def hpN (P:Nat) [NeZero P] (lb:ByteArray) (i:Nat):Bs:=wr (.some (hpt P lb (num4 i).toList):EC.Pt P)
theorem hpN_size (lb:ByteArray) (i:Nat):(hpN P lb i).size=33:=wr_size _
theorem pof1_c (C:Fld P) (lb:ByteArray) (m:lb.size≤1000000) (i:Nat) (A:i<4294967296) (k:Nat) (w:World) (v:k<w.heap.size) (E:w.cell? ⟨k,0,none⟩=some (.string lb)) :
 Calls Tryz.prog 183 #[.int .i64 i,.pointer (some ⟨k,0,none⟩)] w (Ret fun e w'=>Below w.heap.size w w'∧Sm w.heap.size w' e [(1,hpN P lb i)]):=by
 obtain ⟨T,l⟩:=hE (hpN P lb i)
 have f:T.size=33:=by rw[← l.out];exact hpN_size _ _
 rw[l.out]
 have t:=fun (W:World) (n:Option Addr) (o q:Nat) (z:SP.PartOk W (.slice n o q) (num4 i).toList)=>cHash_c C lb m n o q (num4 i).toList W z
 have a:wr (.some (hpt P lb (num4 i).toList):EC.Pt P)=T:=l.out
 rw[a] at t
 have F:=Hid.mk' t
 have D:=mk1 (E)
 have j:=Hid.mk' (fun W=>numeralS_c i A W)
 go_enter Tryz.func183,Tryz.ntmps183
 go_wp2_with fail
 refine (RG.gwL [RG.pE (.string lb),RG.pE (.int .i64 i),RG.pH 4 (num4 i),RG.pE (pvl T),RG.pM (w.heap.size≤·) [(1,T)],RG.pM (w.heap.size≤·) [(1,T)]] (fun W=>W.cell? ⟨k,0,none⟩=some (.string lb)∧Below w.heap.size w W) (fun W W' b h=>⟨by rw[b.cell (p:=⟨k,0,none⟩) (Nat.lt_of_lt_of_le v h.2.size)];exact h.1,h.2.trans (b.mono h.2.size)⟩)).draws kR kR ⟨
  RG.gw_lo1 9 1 k 0 (.string lb) u9s rfl (fun W c=>c.1) (fun _=>rfl),
  RG.gO 0 (.int .i64 i),
  RG.gw_c1 1 5 182 (fun x=>#[x]) (fun x W hx c=>by
   obtain rfl:x=.int .i64 i:=hx
   refine (j W).mono ?_
   rintro e W' ⟨u,rfl,b,r,rfl,s,d⟩
   exact ⟨_,rfl,b,r,rfl,s,d⟩),
  RG.gw_c2 0 4 2 6 130 (fun x y=>#[x,y]) (fun x y W hx B c=>by
   obtain rfl:x=.string lb:=hx
   obtain ⟨r,rfl,s,d⟩:=B
   refine (F W _ _ _ (part_4 d)).mono ?_
   rintro e W' ⟨u,rfl,b,rfl⟩
   exact ⟨_,rfl,b,rfl⟩),
  RG.gw_c1 3 7 129 (fun x=>#[x]) (fun x W hx c=>by
   obtain rfl:x=pvl T:=hx
   refine (onceS_c T f W).mono ?_
   rintro e W' ⟨u,rfl,b,s⟩
   exact ⟨_,rfl,b,s.q.mono fun g d=>Nat.le_trans c.2.size d⟩),
  RG.gw_m 4 8 id (fun x W h=>h),trivial⟩ ⟨D.out,(Below.refl _ w).drew⟩ ?_
 intro V B hR c
 have d:=mk1 (hR 5 (Nat.lt_of_succ_le (Nat.le_of_ble_eq_true kR)))
 have s:=mk1 (c.2)
 dsimp only[RG.putV,Nat.reduceAdd]
 simp only[Act.put,List.setIfInBounds_toArray,List.set_cons_succ,List.set_cons_zero]
 go_wp2
 go_ret
 exact ⟨_,rfl,s.out,d.out⟩
theorem uSu:Tryz.prog.underlying 148=some (.slice 82):=kR
theorem iSu:(Tryz.prog.info? 82).map (fun i=>(i.size,decide (i.bytes≤4000),i.zero.isSome))=some (1,true,true):=kR
theorem iSu1:(Tryz.prog.info? 82).map (·.size)=some 1:=kR
structure LsI (w W:World) (K n i:Nat) (T:Nat→List (Nat × Bs)):Prop where
 bl:Below w.heap.size w W
 lt:K<W.heap.size
 th:W.there K 0 n
 ge:w.heap.size≤K
 el:∀ j,j<i→∃ x,W.cell? ⟨K,j,none⟩=some x∧SmQ (fun g=>w.heap.size≤g∧g≠K) W x (T j)
theorem LsI.grow {w W W':World} {K n i:Nat} {T:Nat→List (Nat × Bs)} (h:LsI w W K n i T) (k:Below W.heap.size W W'):LsI w W' K n i T:=
 ⟨h.bl.trans (k.mono h.bl.size),Nat.lt_of_lt_of_le h.lt k.size,RG.there_below h.th k h.lt,h.ge,fun j c=>by
  obtain ⟨x,d,b⟩:=h.el j c
  exact ⟨x,by rw[k.cell (p:=⟨K,j,none⟩) h.lt];exact d,b.keep (Kq.of_below k)⟩⟩
theorem Kq.set {Q:Nat→Prop} {W:World} {K o:Nat} {vs:List Value} (k:∀ g,Q g→g≠K):Kq Q W (W.setCells K o vs):=⟨by rw[RG.setCells_size];exact Nat.le_refl _,fun g b _=>RG.setCells_other K vs o W g (k g b)⟩
theorem LsI.put {w W:World} {K n i:Nat} {T:Nat→List (Nat × Bs)} {x:Value} (h:LsI w W K n i T) (o:i<n) (hx:SmQ (fun g=>w.heap.size≤g∧g≠K) W x (T i)):LsI w (W.setCells K i [x]) K n (i+1) T:=by
 have b:Kq (fun g=>w.heap.size≤g∧g≠K) W (W.setCells K i [x]):=Kq.set fun g f=>f.2
 refine ⟨RG.below_setCells h.ge _ _ _ h.bl,by rw[RG.setCells_size];exact h.lt,World.there_setCells h.th _ _ _,h.ge,fun j p=>?_⟩
 by_cases e:j=i
 ·subst e
  refine ⟨x,?_,hx.keep b⟩
  have:=World.rangeAt_setCells_same W K j [x] (fun t c=>by
   have k:t=0:=by simp at c;omega
   subst k
   have:=h.th j o
   rwa[Nat.zero_add] at this) 0 x rfl
  exact this
 ·obtain ⟨y,l,d⟩:=h.el j oM
  refine ⟨y,?_,d.keep b⟩
  have m:W.rangeAt K j [y]:=fun t u c=>by
   have k:t=0:=by have:=(List.getElem?_eq_some_iff.1 c).1;simp at this;omega
   subst k
   obtain rfl:y=u:=by simpa using c
   exact l
  exact World.rangeAt_setCells_apart m K i [x] (Or.inr (by simp;omega)) 0 y rfl
theorem LsI.gl {w W:World} {K n:Nat} {T:Nat→List (Nat × Bs)} (h:LsI w W K n n T):GLq (w.heap.size≤·) W (.slice (some ⟨K,0,none⟩) n n) n T:=
 ⟨K,0,n,rfl,Nat.le_refl _,h.ge,h.lt,fun j c=>by
  obtain ⟨x,d,k⟩:=h.el j c
  exact ⟨x,by rw[Nat.zero_add];exact d,k.mono fun g b=>b.1⟩⟩
theorem SmQ.one {Q:Nat→Prop} {W:World} {v:Value} {l:List (Nat × Bs)} (h:SmQ Q W v l):v.cells=#[v]∧v.oneCell'=true:=by
 obtain ⟨g,c,rfl,-⟩:=h
 exact ⟨rfl,rfl⟩
theorem listOfM_c (n:Nat) (I:n≤512) (f:FuncId) (cap:Array Value) (hf:∀ args W,(callFunc f args).run Tryz.prog W=.ok (.enter f args) W) (T:Nat→List (Nat × Bs)) (w:World)
 (B:∀ i W,i<n→Below w.heap.size w W→Calls Tryz.prog f (#[.int .i64 i]++cap) W (Ret fun e W'=>Below W.heap.size W W'∧Sm W.heap.size W' e (T i))) :
 Calls Tryz.prog 147 #[.int .i64 n,.func (.func f) #[] cap] w (Ret fun e w'=>Below w.heap.size w w'∧GLq (w.heap.size≤·) w' e n T):=by
 obtain ⟨C0,o,p⟩:=mkArr uSu iSu n I
 have k:=p w
 obtain ⟨K,r⟩:∃ K,Hid (w.heap.size=K):=⟨_,rfl⟩
 obtain ⟨s,b⟩:∃ s,Hid (w.alloc (.cells C0.toArray 82)=s):=⟨_,rfl⟩
 have u:Ar w s K 1 n 0 (fun _=>[]):=Ar.new _ o b.out r.out
 rw[b.out,r.out] at k
 have F:Hid (LsI w s K n 0 T):=⟨u.bl,u.lt,by have:=u.th;rwa[Nat.one_mul] at this,by rw[r.out];exact Nat.le_refl _,fun j J=>absurd J (Nat.not_lt_zero _)⟩
 have G:=Hid.mk' B
 have N:=Hid.mk' hf
 obtain ⟨fv,d⟩:=hE (Value.func (.func f) #[] cap)
 rw[d.out]
 clear u o p B hf b r
 go_enter Tryz.func147,Tryz.ntmps147
 go_wp2
 clear k
 go_loopg [11] n (fun m s11 W=>∃ i:Nat,i+m=n∧s11=.int .i64 i∧Hid (LsI w W K n i T))
 case atStart=>exact ⟨0,oM,rfl,F⟩
 case round =>
  obtain ⟨i,M,rfl,c⟩:=hrel
  by_cases v:i<n
  ·have y:(i:Int)<(n:Int):=oM
   have x:=atS K 0 n n i v
   rw[show 0+1*i=i by omega] at x
   have L:=Hid.mk' v
   go_wp2_with (first|(refine wpList_cv rfl 16 17 _ rfl f cap (.int .i64 i) ?_ ?_ N.out (G i wr L.out c.bl) ?_;exact d.symm;rfl;intro e W' hR;refine Hid.out ?_)|fail)
   obtain ⟨E,D⟩:=hR
   have z:=c.grow E
   have q:SmQ (fun g=>w.heap.size≤g∧g≠K) W' e (T i):=D.q.mono fun g C=>⟨Nat.le_trans (Nat.le_trans c.bl.size (Nat.le_refl _)) C,by have:=c.lt;omega⟩
   have a:=mk1 (z.put v q)
   have H:Hid (W'.there K i 1):=fun t O=>by
    have l:t=0:=oM
    subst l
    have:=z.th i v
    rwa[Nat.zero_add] at this
   have A:=Hid.mk' q.one
   obtain ⟨P,l⟩:=hE (W'.setCells K i [e])
   rw[l.out] at a
   show wpList _ _ _ _ _ _
   go_wp2_with (first|(refine wpList_st1 rfl 82 _ _ rfl K i e ?_ ?_ A.1 A.2 H.out iSu1 ?_;rfl;rfl;rw[l.out])|fail)
   go_roundg (gk-1)
   case measure=>omega
   case rel=>exact ⟨i+1,oM,rfl,a⟩
  ·have y:¬ (i:Int)<(n:Int):=oM
   obtain rfl:i=n:=oM
   have l:=mk2 c.bl c.gl
   go_wp2
   go_ret
   exact ⟨_,rfl,l.1,l.2⟩
theorem pointsOfS_c (C:Fld P) (lb:ByteArray) (j:lb.size≤1000000) (n:Nat) (s:n≤512) (w:World) :
 Calls Tryz.prog 128 #[.string lb,.int .i64 n] w (Ret fun e w'=>Below w.heap.size w w'∧GLq (w.heap.size≤·) w' e n (fun i=>[(1,hpN P lb i)])):=by
 obtain ⟨c,b⟩:=hE (w.alloc (.cells #[.string lb] 9))
 obtain ⟨k,l⟩:=hE (w.heap.size)
 have r:Below w.heap.size w c:=by rw[← b.out];exact below1 _ _
 have hR:Row c k [.string lb]:=by rw[← b.out,← l.out];exact row_new w _ _
 have HL:=Hid.mk' (listOfM_c n s 183 #[.pointer (some ⟨k,0,none⟩)] (fun _ _=>kR) (fun i=>[(1,hpN P lb i)]) c (fun i W u m=>pof1_c C lb j i oM k W (Nat.lt_of_lt_of_le hR.1 m.size) (by rw[m.cell (p:=⟨k,0,none⟩) hR.1];exact hR.2.1 0 _ rfl)))
 have f:=Hid.mk' r
 go_enter Tryz.func128,Tryz.ntmps128
 go_wp2_with fail
 rw[b.out,l.out]
 refine HL.mono ?_
 rintro e t ⟨v,rfl,d,hG⟩
 have q:=mk2 (f.trans (d.mono f.size)) (hG.mono fun g o=>Nat.le_trans f.size o)
 go_wp2
 go_ret
 exact ⟨_,rfl,q.out⟩
noncomputable def hpU (P:Nat) [NeZero P]:Bs:=wr (.some (hpt P ⟨#[105,110,110,101,114]⟩ []):EC.Pt P)
theorem iGr:(Tryz.prog.info? 150).map (·.size)=some 3:=kR
theorem uGr:(Tryz.prog.underlying 150).map (·.isRow)=some true:=kR
noncomputable def gGT (P:Nat) [NeZero P] (i:Nat):List (Nat × Bs):=[(1,hpN P ⟨#[108,101,102,116]⟩ i)]
noncomputable def hGT (P:Nat) [NeZero P] (i:Nat):List (Nat × Bs):=[(1,hpN P ⟨#[114,105,103,104,116]⟩ i)]
noncomputable def uGT (P:Nat) [NeZero P]:List (Nat × Bs):=[(1,hpU P)]
theorem groundOf_c (C:Fld P) (n:Nat) (T:n≤512) (w:World) :
 Calls Tryz.prog 76 #[.int .i64 n] w (Ret fun e w'=>Below w.heap.size w w'∧GRq (w.heap.size≤·) w' e n (gGT P) (hGT P) (uGT P)):=by
 have A:=fun W=>pointsOfS_c C ⟨#[108,101,102,116]⟩ dC n T W
 have K:=fun W=>pointsOfS_c C ⟨#[114,105,103,104,116]⟩ dC n T W
 have N:=fun W:World=>cHash_c C ⟨#[105,110,110,101,114]⟩ dC none 0 0 [] W ⟨none,0,0,0,#[],rfl,rfl,Nat.le_refl _,Nat.zero_le _,Or.inl rfl⟩
 have Y:wr (.some (hpt P ⟨#[105,110,110,101,114]⟩ []):EC.Pt P)=hpU P:=rfl
 rw[Y] at N
 have V:=fun W=>onceS_c (hpU P) (wr_size _) W
 obtain ⟨U,F⟩:∃ U,Hid (hpU P=U):=⟨_,rfl⟩
 have X:uGT P=[(1,U)]:=by unfold uGT;rw[F.out]
 rw[X]
 rw[F.out] at N V
 have u:=Hid.mk' (And.intro A (And.intro K (And.intro N V)))
 have Z:(fun i=>[(1,hpN P ⟨#[108,101,102,116]⟩ i)])=gGT P:=rfl
 have e3:(fun i=>[(1,hpN P ⟨#[114,105,103,104,116]⟩ i)])=hGT P:=rfl
 rw[Z,e3] at u
 generalize gGT P=G at u ⊢
 generalize hGT P=H at u ⊢
 clear A K N V Y X Z e3 C T
 obtain ⟨z,a⟩:∃ z,Hid (w.alloc (.cells #[.slice none 0 0,.slice none 0 0,.slice none 0 0] 150)=z):=⟨_,rfl⟩
 obtain ⟨k,M⟩:∃ k,Hid (w.heap.size=k):=⟨_,rfl⟩
 have Q:Hid (Below w.heap.size w z∧Row z k [.slice none 0 0,.slice none 0 0,.slice none 0 0]):=by rw[← a.out,← M.out];exact ⟨below1 _ _,row_new w _ _⟩
 go_enter Tryz.func76,Tryz.ntmps76
 go_wp2_with fail
 rw[a.out,M.out]
 refine (u.1 z).mono ?_
 rintro e O ⟨v1,rfl,D,hG⟩
 have B:Hid (Below w.heap.size w O∧Row O k [.slice none 0 0,.slice none 0 0,.slice none 0 0]∧GLq (k < ·) O v1 n G):=⟨Q.1.trans (D.mono Q.1.size),Q.2.below D,hG.mono fun g m=>Nat.lt_of_lt_of_le Q.2.1 m⟩
 go_wp2_with fail
 refine (u.2.1 O).mono ?_
 rintro e x ⟨v2,rfl,s,hG⟩
 have E:Hid (Below w.heap.size w x∧Row x k [.slice none 0 0,.slice none 0 0,.slice none 0 0]∧GLq (k < ·) x v1 n G∧GLq (k < ·) x v2 n H):=⟨B.1.trans (s.mono B.1.size),B.2.1.below s,B.2.2.keep (Kq.of_below s),hG.mono fun g m=>Nat.lt_of_lt_of_le B.2.1.1 m⟩
 go_wp2_with fail
 refine (u.2.2.1 x).mono ?_
 rintro e I ⟨v,rfl,c,rfl⟩
 have t:Hid (Below w.heap.size w I∧Row I k [.slice none 0 0,.slice none 0 0,.slice none 0 0]∧GLq (k < ·) I v1 n G∧GLq (k < ·) I v2 n H):=⟨E.1.trans (c.mono E.1.size),E.2.1.below c,E.2.2.1.keep (Kq.of_below c),E.2.2.2.keep (Kq.of_below c)⟩
 obtain ⟨vu,J⟩:=hE (pvl U)
 have HO:Hid (∀ W:World,Calls Tryz.prog 129 #[vu] W (Ret fun e w'=>Below W.heap.size W w'∧Sm W.heap.size w' e [(1,U)])):=by rw[← J.out];exact u.2.2.2
 rw[J.out]
 go_wp2_with fail
 refine (HO I).mono ?_
 rintro e f ⟨v3,rfl,b,hS⟩
 have d:Hid (Below w.heap.size w f∧Row f k [.slice none 0 0,.slice none 0 0,.slice none 0 0]∧GLq (k < ·) f v1 n G∧GLq (k < ·) f v2 n H∧SmQ (k < ·) f v3 [(1,U)]):=⟨t.1.trans (b.mono t.1.size),t.2.1.below b,t.2.2.1.keep (Kq.of_below b),t.2.2.2.keep (Kq.of_below b),hS.q.mono fun g m=>Nat.lt_of_lt_of_le t.2.1.1 m⟩
 clear b hS t HO
 obtain ⟨j,p,c1,rfl,-⟩:=d.2.2.1
 obtain ⟨o,q,c2,rfl,-⟩:=d.2.2.2.1
 obtain ⟨r,l,rfl,-⟩:=d.2.2.2.2
 obtain ⟨L,y⟩:∃ L,Hid (f.setCells k 0 [.slice (some ⟨j,p,none⟩) n c1,.slice (some ⟨o,q,none⟩) n c2,.slice (some ⟨r,0,none⟩) [(1,U)].length l]=L):=⟨_,Hid.mk' rfl⟩
 have R:Hid (Below w.heap.size w L∧Row L k [.slice (some ⟨j,p,none⟩) n c1,.slice (some ⟨o,q,none⟩) n c2,.slice (some ⟨r,0,none⟩) [(1,U)].length l]∧GRq (w.heap.size≤·) L (.agg #[.slice (some ⟨j,p,none⟩) n c1,.slice (some ⟨o,q,none⟩) n c2,.slice (some ⟨r,0,none⟩) [(1,U)].length l]) n G H [(1,U)]):=by
  rw[← y.out]
  have S:∀ g,k<g→w.heap.size≤g:=fun g m=>by rw[M.out];omega
  have kq:Kq (k < ·) f (f.setCells k 0 [.slice (some ⟨j,p,none⟩) n c1,.slice (some ⟨o,q,none⟩) n c2,.slice (some ⟨r,0,none⟩) [(1,U)].length l]):=Kq.set fun g m=>Nat.ne_of_gt m
  exact ⟨RG.below_setCells (by rw[M.out];exact Nat.le_refl _) _ _ _ d.1,d.2.1.put rfl,_,_,_,rfl,(d.2.2.1.keep kq).mono S,(d.2.2.2.1.keep kq).mono S,(d.2.2.2.2.keep kq).mono S⟩
 have S:=mk1 (d.2.1.2.2)
 go_wp2_with (refine wpList_op (v:=.agg #[.slice (some ⟨j,p,none⟩) n c1,.slice (some ⟨o,q,none⟩) n c2,.slice (some ⟨r,0,none⟩) [(1,U)].length l]) (w':=f) rfl (.build 150 _) rfl ?_ ?_;kernel_rfl;refine Hid.out ?_)
 show wpList _ _ _ _ _ _
 refine wpList_store_mid rfl 150 _ _ rfl k 0 #[.slice (some ⟨j,p,none⟩) n c1,.slice (some ⟨o,q,none⟩) n c2,.slice (some ⟨r,0,none⟩) [(1,U)].length l] ?_ ?_ S.out iGr ?_ ?_
 ·kernel_rfl
 ·kernel_rfl
 ·kernel_rfl
 rw[show (#[.slice (some ⟨j,p,none⟩) n c1,.slice (some ⟨o,q,none⟩) n c2,.slice (some ⟨r,0,none⟩) [(1,U)].length l]:Array Value).toList=[.slice (some ⟨j,p,none⟩) n c1,.slice (some ⟨o,q,none⟩) n c2,.slice (some ⟨r,0,none⟩) [(1,U)].length l] from rfl,y.out]
 go_wp2
 refine bodyPost_ret (results_cell 2 150 rfl R.2.1 rfl uGr iGr) rfl ?_
 exact ⟨_,rfl,R.1,R.2.2⟩
theorem u22:(Tryz.prog.underlying 23).map (·.isRow)=some false:=kR
theorem at62 (k o n c i:Nat) (b:i<n) (w:World):(Instr.indexAt 27 (.slice (some ⟨k,o,none⟩) n c) (.int .i64 i)).run Tryz.prog w=.ok (.pointer (some ⟨k,o+i,none⟩)) w:=by
 go_simp
theorem at33 (k o n c i:Nat) (b:i<n) (w:World):(Instr.indexAt 143 (.slice (some ⟨k,o,none⟩) n c) (.int .i64 i)).run Tryz.prog w=.ok (.pointer (some ⟨k,o+4*i,none⟩)) w:=by
 go_simp
theorem mkSL (N:Nat) (f:N≤512):∃ C0:List Value,C0.length=4*N∧∀ w:World,(Instr.makeSlice 143 (.int .i64 N) (.int .i64 N)).run Tryz.prog w=.ok (.slice (some ⟨w.heap.size,0,none⟩) N N) (w.alloc (.cells C0.toArray 44)):=by
 have g:Tryz.prog.underlying 143=some (.slice 44):=kR
 have j:(Tryz.prog.info? 44).map (fun i=>(i.size,decide (i.bytes≤4000),i.zero.isSome))=some (4,true,true):=kR
 obtain ⟨i,b,k⟩:=Option.map_eq_some_iff.1 j
 simp only[Prod.mk.injEq,decide_eq_true_eq] at k
 obtain ⟨n,e,m⟩:=k
 obtain ⟨z,d⟩:=Option.isSome_iff_exists.1 m
 refine ⟨(madeCells z.cells (N*4)).toList,by rw[Array.length_toList,size_madeCells,Nat.mul_comm],fun w=>?_⟩
 have c:(i.bytes:Int)*(N:Int)≤281474976710656:=by
  have:i.bytes*N≤4000*512:=Nat.mul_le_mul e f
  have l:((i.bytes*N:Nat):Int)≤281474976710656:=oM
  rwa[Int.natCast_mul] at l
 have:=run_make (P:=Tryz.prog) w 143 44 i z g b d .i64 .i64 (N:Int) (N:Int) oM oM c oM
 rw[Int.toNat_natCast,n] at this
 rw[Array.toArray_toList]
 exact this
def AllQ (N:Nat) (w:World) (n:Nat) (L:Nat→Bs) (e:Value) (w':World):Prop:=
 ((∃ j,j<n∧rq N (L j)=none)∧Below w.heap.size w w'∧e=.tuple #[.slice none 0 0,.bool false]) ∨
 ((∀ j,j<n→(rq N (L j)).isSome=true)∧∃ k C,RG.Made w k C w'∧Rows 4 n (fun j=>wn ((rq N (L j)).getD 0)) n C∧e=.tuple #[.slice (some ⟨k,0,none⟩) n n,.bool true])
theorem allOf_c (O:Ord N) (n cap:Nat) (hn:n≤512) (q:Option Addr) (L:Nat→Bs) (w:World) (hA:Args w q n L):Calls Tryz.prog 161 #[(.func (.func 11) #[] #[]),.slice q n cap] w (Ret fun e w'=>AllQ N w n L e w'):=by
 obtain ⟨C,Z,R⟩:=mkSL n hn
 go_enter Tryz.func161,Tryz.ntmps161
 refine RG.M.enter [(0,.v (.func (.func 11) #[] #[])),(1,.v (.slice q n cap))] 35 kR ?_
 intro a0 M0
 repeat refine wp_seq ?_
 refine M0.U [.x (.slice none 0 0),.x (.bool false)] [0,1] ⟨RG.st,RG.st,trivial⟩ ?_
 intro a1 w1 M1
 repeat refine wp_seq ?_
 refine M1.t [.x 11 [] (.slice q n cap),.x 12 [(11,0)] (.int .i64 n),⟨some 13,[(12,1)],(.s 0 n n),.make 0⟩,.s 6 [(13,2)] (.s 0 n n)] [(2,C)] [] [C] [(0,(.v (.func (.func 11) #[] #[]))),(1,(.v (.slice q n cap))),(6,(.s 0 n n))] ⟨RG.st,RG.st,RG.cert_makes 0 rfl _ rfl 143 44 12 12 n rfl rfl RG.sx RG.sx (R),RG.st,trivial⟩ ?_
 intro j2 a2 w2 M2
 repeat refine wp_seq ?_
 refine M2.U [.x (.slice q n cap),.x (.int .i64 n),.x (.int .i64 0)] [0,6,14,15,16] ⟨RG.st,RG.st,RG.st,trivial⟩ ?_
 intro a3 w3 M3
 repeat refine wp_seq ?_
 refine wp_block ?_
 refine wp_loop_ghost (fun m a wr=>∃ (i:Nat) (C:List Value) (S:Nat),i+m=n∧(∀ j,j<i→(rq N (L j)).isSome=true)∧Rows 4 n (fun j=>wn ((rq N (L j)).getD 0)) i C∧RG.M w w.heap.size [] 35 [C] [S] [(0,.v (.func (.func 11) #[] #[])),(6,.s 0 n n),(14,.v (.slice q n cap)),(15,.v (.int .i64 n)),(16,.v (.int .i64 i))] a wr) n ⟨0,C,_,oM,fun j hj=>oM,⟨Z,fun j r hj=>oM⟩,M3⟩ ?_
 clear R
 intro m' a wr
 rintro ⟨i,C,S,h9,o,hR,A⟩
 by_cases x:i<n
 ·obtain ⟨z,h4,K,hc⟩:=hA oM
  subst h4
  obtain ⟨v,hv,M⟩:=hc i x
  have g:w.cell? ⟨z,0+i,none⟩=some v:=by rw[Nat.zero_add];exact hv
  have y:=fun w' (Q:RG.BelX w.heap.size [] w w')=>sread_c O v (L i) w' (M.below Q.below)
  obtain ⟨m,hm⟩:∃ m,m=(rq N (L i)).getD 0:=⟨_,rfl⟩
  cases u:(rq N (L i)).isSome with
  | true =>
   have D:∀ w',RG.BelX w.heap.size [] w w'→Calls Tryz.prog 11 #[v] w' (Ret fun e E=>Below w'.heap.size w' E∧e=.tuple #[nv m,.bool true]):=fun w' Q=>by
    have h:=y w' Q
    rw[u,← hm] at h
    exact h
   have I:=hR.len
   have p:0+4*i+(wn m).length≤C.length:=by rw[I];show 0+4*i+4≤4*n;omega
   obtain ⟨F,l⟩:∃ c,RG.rep C (0+4*i) (wn m)=c:=⟨_,rfl⟩
   have h1:=l ▸ RG.rep_at p
   have V:F.length=C.length:=l ▸ RG.rep_length p
   have h3:Rows 4 n (fun j=>wn ((rq N (L j)).getD 0)) (i+1) F:=by
    have:=hR.next x rfl
    rw[← l,hm]
    exact this
   repeat refine wp_seq ?_
   refine A.U [.x (.bool true)] [0,6,14,15,16,17] ⟨RG.cert_bin rfl .lss 3 3 16 15 (.int .i64 i) (.int .i64 n) (.bool true) rfl rfl RG.sx RG.sx (fun w=>kR) (lssn_t x),trivial⟩ ?_
   intro H G k
   repeat refine wp_seq ?_
   refine wp_cond_true k.ev ?_
   refine wp_skip ?_
   refine wp_seq ?_
   refine wp_block ?_
   repeat refine wp_seq ?_
   refine k.U [.x (.int .i64 i),.x (.pointer (some ⟨z,(0+i),none⟩)),.x v,.x (.int .i64 i),.x v] [0,6,7,8,14,15,16] ⟨RG.st,RG.cert_idx rfl 27 14 16 rfl (.v (.slice (some ⟨z,0,none⟩) n cap)) (.int .i64 i) RG.sx RG.sx (fun μ w=>at62 _ 0 _ _ i x w),RG.cert_load1B rfl z (0+i) K List.not_mem_nil 23 19 rfl v rfl RG.sx g u22,RG.st,RG.st,trivial⟩ ?_
   intro J P d
   repeat refine wp_seq ?_
   refine d.T [.x (.func (.func 11) #[] #[]),.x v,.c (.tuple #[(nv m),(.bool true)]),.x (.tuple #[(nv m),(.bool true)]),.x (nv m),.x (.bool true),.m 1,.u 1,.x (.bool true)] [(6,(RG.z 4))] [(1,7,(wn m))] [C,(wn m)] [0,6,7,9,10,14,15,16] ⟨RG.st,RG.st,RG.clB (fun _ _=>kR) D,RG.st,RG.st,RG.st,RG.mk 1 44,RG.pt i40,RG.st,trivial⟩ ?_
   intro h2 X h0 B
   repeat refine wp_seq ?_
   refine B.U [.x (.bool true),.x (.bool false)] [0,6,7,9,14,15,16,28] ⟨RG.st,RG.st,trivial⟩ ?_
   intro h5 T t
   repeat refine wp_seq ?_
   refine wp_cond_false t.ev ?_
   refine wp_skip ?_
   repeat refine wp_seq ?_
   refine t.tx [.s 29 [] (.s 0 n n),.x 30 [] (.int .i64 i),.x 31 [] (nv m),.s 32 [(29,0),(30,1)] (.p 0 (0+4*i)),.u [(32,3),(31,2)] 0] [] [(0,4,F)] [F,(wn m)] [(0,(.v (.func (.func 11) #[] #[]))),(6,(.s 0 n n)),(14,(.v (.slice (some ⟨z,0,none⟩) n cap))),(15,(.v (.int .i64 n))),(16,(.v (.int .i64 i)))] kR (congrArg (fun n=>[n]) V) ⟨RG.st,RG.st,RG.ld u40 i40,RG.cert_idx rfl 143 29 30 rfl (.s 0 n n) (.int .i64 i) RG.sx RG.sx (fun μ w=>at33 _ 0 _ _ i x w),RG.cert_putAt 0 (0+4*i) rfl _ rfl 44 (.tmp 32) (.tmp 31) (wn m) rfl rfl RG.sx RG.sx p h1 i40 rfl,trivial⟩ ?_
   intro W U f
   repeat refine wp_seq ?_
   refine f.U [.x (.int .i64 ((i+1:Nat):Int)),.x (.int .i64 ((i+1:Nat):Int))] [0,6,14,15,16] ⟨RG.cert_binc rfl .add 3 3 16 (.int .i64 i) (.int .i64 1) (.int .i64 ((i+1:Nat):Int)) rfl rfl RG.sx (fun w=>kR) (addn i 1 oM oM),RG.st,trivial⟩ ?_
   intro h8 h7 h6
   show ∃ n',_
   exact ⟨m'-1,oM,i+1,F,S,oM,fun j hj=>(by
    by_cases Y:j=i
    ·rw[Y];exact u
    ·exact o j oM),h3,RG.M.drop (cs:=[F]) (cs2:=[_]) (ks:=[S]) (ks2:=[_]) h6 rfl rfl⟩
  | false =>
   have D:∀ w',RG.BelX w.heap.size [] w w'→Calls Tryz.prog 11 #[v] w' (Ret fun e E=>Below w'.heap.size w' E∧e=.tuple #[nv m,.bool false]):=fun w' Q=>by
    have h:=y w' Q
    rw[u,← hm] at h
    exact h
   repeat refine wp_seq ?_
   refine A.U [.x (.bool true)] [0,14,16,17] ⟨RG.cert_bin rfl .lss 3 3 16 15 (.int .i64 i) (.int .i64 n) (.bool true) rfl rfl RG.sx RG.sx (fun w=>kR) (lssn_t x),trivial⟩ ?_
   intro H G k
   repeat refine wp_seq ?_
   refine wp_cond_true k.ev ?_
   refine wp_skip ?_
   refine wp_seq ?_
   refine wp_block ?_
   repeat refine wp_seq ?_
   refine k.U [.x (.int .i64 i),.x (.pointer (some ⟨z,(0+i),none⟩)),.x v,.x (.int .i64 i),.x v] [0,8] ⟨RG.st,RG.cert_idx rfl 27 14 16 rfl (.v (.slice (some ⟨z,0,none⟩) n cap)) (.int .i64 i) RG.sx RG.sx (fun μ w=>at62 _ 0 _ _ i x w),RG.cert_load1B rfl z (0+i) K List.not_mem_nil 23 19 rfl v rfl RG.sx g u22,RG.st,RG.st,trivial⟩ ?_
   intro J P d
   repeat refine wp_seq ?_
   refine d.T [.x (.func (.func 11) #[] #[]),.x v,.c (.tuple #[(nv m),(.bool false)]),.x (.tuple #[(nv m),(.bool false)]),.x (nv m),.x (.bool false),.m 1,.u 1,.x (.bool false)] [(6,(RG.z 4))] [(1,7,(wn m))] [C,(wn m)] [10] ⟨RG.st,RG.st,RG.clB (fun _ _=>kR) D,RG.st,RG.st,RG.st,RG.mk 1 44,RG.pt i40,RG.st,trivial⟩ ?_
   intro h2 X h0 B
   repeat refine wp_seq ?_
   refine B.U [.x (.bool false),.x (.bool true)] [28] ⟨RG.st,RG.st,trivial⟩ ?_
   intro h5 T t
   repeat refine wp_seq ?_
   refine wp_cond_true t.ev ?_
   repeat refine wp_seq ?_
   refine t.U [.x (.slice none 0 0),.x (.bool false)] [4,5] ⟨RG.st,RG.st,trivial⟩ ?_
   intro W U f
   refine wp_ret ?_
   refine bodyPost_ret (v:=.tuple #[.slice none 0 0,.bool false]) (RG.results_tt 4 5 rfl (.slice none 0 0) (.bool false) f.av f.av) f.sl.defers ?_
   exact ⟨_,rfl,Or.inl ⟨⟨i,x,by simpa using u⟩,f.st.bel.below,rfl⟩⟩
 ·have f:i=n:=oM
  rw[f] at o hR
  repeat refine wp_seq ?_
  refine A.U [.x (.bool false)] [6,17] ⟨RG.cert_bin rfl .lss 3 3 16 15 (.int .i64 i) (.int .i64 n) (.bool false) rfl rfl RG.sx RG.sx (fun w=>kR) (lssn_f x),trivial⟩ ?_
  intro H G k
  repeat refine wp_seq ?_
  refine wp_cond_false k.ev ?_
  refine wp_exit ?_
  dsimp only[Exit.then,Exit.inBlock]
  rw[if_pos rfl]
  repeat refine wp_seq ?_
  refine k.U [.s (.s 0 n n),.s (.s 0 n n),.x (.bool true)] [4,5] ⟨RG.st,RG.st,RG.st,trivial⟩ ?_
  intro J P d
  refine wp_ret ?_
  refine bodyPost_ret (v:=_) (RG.results_tt 4 5 rfl _ (.bool true) (d.at (s:=.s 0 n n)) d.av) d.sl.defers ?_
  exact ⟨_,rfl,Or.inr ⟨o,_,C,d.st.made (b:=0) rfl,hR,rfl⟩⟩
def prS (N:Nat) (a b:Nat→Nat):Nat→Nat
 | 0=>0
 | i+1=>sPl N (prS N a b i) (sTi N (b i) (a i))
theorem prS_lt (k:0<N) (a b:Nat→Nat):∀ i,prS N a b i<N
 | 0=>k
 | _+1=>Nat.mod_lt _ k
structure CbS (w W:World) (N k4 k5 i:Nat) (a b:Nat→Nat):Prop where
 bl:Below w.heap.size w W
 r4:Row W k4 [.int .u64 0,.int .u64 0,.int .u64 0,.int .u64 0]
 r5:Row W k5 (wn (prS N a b i))
theorem CbS.grow {w W W':World} {d c i:Nat} {a b:Nat→Nat} (h:CbS w W N d c i a b) (k:Below W.heap.size W W'):CbS w W' N d c i a b:=
 ⟨h.bl.trans (k.mono h.bl.size),h.r4.below k,h.r5.below k⟩
theorem CbS.drew {w W:World} {c k i:Nat} {a b:Nat→Nat} (h:CbS w W N c k i a b):CbS w W.drew N c k i a b:=⟨h.bl.drew,h.r4,h.r5⟩
theorem wn0:wn 0=[.int .u64 0,.int .u64 0,.int .u64 0,.int .u64 0]:=kR
theorem row_set {W:World} {k K o:Nat} {vs us:List Value} (h:Row W k vs) (b:k≠K):Row (W.setCells K o us) k vs:=row_same h (by rw[RG.setCells_size];exact Nat.le_refl _) (RG.setCells_other K us o W k b)
theorem CbS.put {w W:World} {d k i:Nat} {a b:Nat→Nat} (h:CbS w W N d k i a b) (e:w.heap.size≤k) (c:d≠k):CbS w (W.setCells k 0 (wn (prS N a b (i+1)))) N d k (i+1) a b:=
 ⟨RG.below_setCells e _ _ _ h.bl,row_set h.r4 c,h.r5.put rfl⟩
theorem cmbS_c (O:Ord N) {Q:Nat→Prop} (n:Nat) (hn:n≤512) (a b:Nat→Nat) (ha:∀ i,i<n→a i<N) (C:∀ i,i<n→b i<N) (va vb:Value) (w:World) (h1:SLq Q w va n a) (h2:SLq Q w vb n b) :
 Calls Tryz.prog 87 #[va,vb] w (Ret fun e w'=>Below w.heap.size w w'∧e=nv (prS N a b n)):=by
 obtain ⟨g1,o1,c1,rfl,-,-,h6,Y⟩:=h1
 obtain ⟨r,A,c2,rfl,-,-,T,h4⟩:=h2
 obtain ⟨c,t⟩:∃ k,Hid (w.heap.size=k):=⟨_,rfl⟩
 obtain ⟨w1,I⟩:∃ w1,Hid ((w.alloc (.cells #[.int .u64 0,.int .u64 0,.int .u64 0,.int .u64 0] 44)).alloc (.cells #[.int .u64 0,.int .u64 0,.int .u64 0,.int .u64 0] 44)=w1):=⟨_,rfl⟩
 have K1:Hid (CbS w w1 N c (c+1) 0 a b):=by
  rw[← I.out,← t.out]
  have hR:=row_new (w.alloc (.cells #[.int .u64 0,.int .u64 0,.int .u64 0,.int .u64 0] 44)) [.int .u64 0,.int .u64 0,.int .u64 0,.int .u64 0] 44
  rw[World.size_alloc] at hR
  exact ⟨(below1 w _).alloc (by rw[World.size_alloc];omega) _,(row_new w _ _).alloc _,by show Row _ _ (wn 0);rw[wn0];exact hR⟩
 have f:Hid (Ord N∧(∀ i,i<n→a i<N)∧(∀ i,i<n→b i<N)∧(∀ j,j<n→w.rangeAt g1 (o1+4*j) (wn (a j)))∧(∀ j,j<n→w.rangeAt r (A+4*j) (wn (b j)))∧g1<w.heap.size∧r<w.heap.size∧w.heap.size≤c):=⟨O,ha,C,Y,h4,h6,T,by rw[t.out];exact Nat.le_refl _⟩
 obtain ⟨d,S,h0⟩:=Option.map_eq_some_iff.1 u40
 have HD:Hid (Tryz.prog.underlying 44=some d∧d.isRow=true):=⟨S,h0⟩
 clear O ha C Y h4 h6 T S h0
 go_enter Tryz.func87,Tryz.ntmps87
 go_wp2
 rw[I.out,t.out]
 clear I t
 go_loopg [10] n (fun m s10 W=>∃ i:Nat,i+m=n∧s10=.int .i64 i∧Hid (CbS w W N c (c+1) i a b))
 case atStart=>exact ⟨0,oM,rfl,K1⟩
 case round =>
  clear K1
  obtain ⟨i,hc,rfl,E⟩:=hrel
  by_cases R:i<n
  ·have h7:(i:Int)<(n:Int):=oM
   have h9:(i:Int)≤600:=oM
   have HL:=Hid.mk' R
   have h8:=at33 g1 o1 n c1 i R
   have B0:Hid (wr.rangeAt g1 (o1+4*i) (wn (a i))):=RG.range_below (f.2.2.2.1 i R) E.bl f.2.2.2.2.2.1
   obtain ⟨K,B⟩:∃ k,Hid (wr.heap.size=k):=⟨_,rfl⟩
   obtain ⟨P,F⟩:∃ P,Hid (wr.alloc (.cells #[.int .u64 0,.int .u64 0,.int .u64 0,.int .u64 0] 44)=P):=⟨_,rfl⟩
   obtain ⟨W2,H⟩:∃ W2,Hid (P.setCells K 0 (wn (a i))=W2):=⟨_,rfl⟩
   have F1:Hid (Row P K [.int .u64 0,.int .u64 0,.int .u64 0,.int .u64 0]∧Below wr.heap.size wr P):=by rw[← F.out,← B.out];exact ⟨row_new wr _ _,below1 wr _⟩
   have F2:Hid (Row W2 K (wn (a i))∧CbS w W2 N c (c+1) i a b):=by
    rw[← H.out]
    exact ⟨F1.1.put rfl,E.grow (RG.below_setCells (by rw[B.out];exact Nat.le_refl _) _ _ _ F1.2)⟩
   obtain ⟨va,h5⟩:∃ v,Hid (Value.agg (wn (a i)).toArray=v):=⟨_,rfl⟩
   have HO:Hid ((wn (a i)).toArray.all (·.oneCell')=true):=wn_one _
   clear E
   go_wp2_with (first|(refine wpList_load_mid rfl 44 _ rfl g1 (o1+4*i) ?_ (wn (a i)) d ?_ ?_ ?_ ?_ ?_;rfl;exact B0.out;exact HD.1;exact HD.2;exact i40;rw[h5.out])|(refine wpList_op (v:=.pointer (some ⟨K,0,none⟩)) (w':=P) rfl (.alloc 44) rfl ?_ ?_;(rw[← F.out,← B.out];kernel_rfl))|(refine wpList_store_mid rfl 44 _ _ rfl K 0 (wn (a i)).toArray ?_ ?_ ?_ ?_ ?_ ?_;rfl;exact h5.symm;exact F1.1.2.2;exact i40;exact HO.out;rw[show (wn (a i)).toArray.toList=wn (a i) from rfl,H.out])|fail)
   clear F H B F1 HO
   obtain ⟨s,G⟩:∃ s,Hid (prS N a b i=s):=⟨_,rfl⟩
   have HN:Hid (s<N∧a i<N∧b i<N):=⟨by rw[← G.out];exact prS_lt f.1.pos a b i,f.2.1 i R,f.2.2.1 i R⟩
   obtain ⟨p,M⟩:∃ p,Hid (sTi N (b i) (a i)=p):=⟨_,rfl⟩
   obtain ⟨q,o⟩:∃ q,Hid (sPl N s p=q):=⟨_,rfl⟩
   have HP:Hid (p<N):=by show p<N;rw[← M.out];exact Nat.mod_lt _ f.1.pos
   have HQ:Hid (prS N a b (i+1)=q):=by show _=_;rw[← o.out,← M.out,← G.out];rfl
   have hT:=fun W=>sTim_c f.1 (b i) (a i) HN.2.2 HN.2.1 W
   have J:=fun W=>sPlu_c f.1 s p HN.1 HP.out W
   rw[M.out] at hT
   rw[o.out] at J
   have Z:∀ W,Below w.heap.size w W→W.rangeAt r (A+4*i) (wn (b i)):=fun W z=>RG.range_below (f.2.2.2.2.1 i R) z f.2.2.2.2.2.2.1
   have X:∀ W,CbS w W N c (c+1) i a b→W.rangeAt (c+1) 0 (wn s):=fun W h=>by rw[← G.out];exact h.r5.2.1
   refine (RG.gwL [RG.pE (nv s),RG.pE (.iface 44 (nv s)),RG.pE (.slice (some ⟨r,A,none⟩) n c2),RG.pE (.int .i64 i),RG.pE (.pointer (some ⟨r,A+4*i,none⟩)),RG.pE (nv (b i)),RG.pE (.iface 44 (nv (b i))),RG.pE (nv (a i)),RG.pE (nv p),RG.pE (nv q)] (fun W=>CbS w W N c (c+1) i a b∧Row W K (wn (a i))) (fun W W' C h=>⟨h.1.grow C,h.2.below C⟩)).last 10 kR kR kR ⟨
    RG.gw_lo 44 5 (c+1) 0 (wn s) u40 i40 rfl (fun W z=>X W z.1) (fun _=>rfl),
    RG.gw_n 0 15 (nv s) (.iface 44 (nv s)) (fun x W h=>h) (fun _=>rfl),
    RG.gO 1 (.slice (some ⟨r,A,none⟩) n c2),
    RG.gO 6 (.int .i64 i),
    RG.gw_x 2 17 3 18 (.slice (some ⟨r,A,none⟩) n c2) (.int .i64 i) (.pointer (some ⟨r,A+4*i,none⟩)) (Instr.indexAt 143 (.slice (some ⟨r,A,none⟩) n c2) (.int .i64 i)) (at33 r A n c2 i HL.out) (fun x W h=>h) (fun x W h=>h) (fun _=>rfl),
    RG.gLr 4 19 (fun W z=>Z W z.1.bl) u40 i40,
    RG.gw_n 5 20 (nv (b i)) (.iface 44 (nv (b i))) (fun x W h=>h) (fun _=>rfl),
    RG.gw_lo 44 7 K 0 (wn (a i)) u40 i40 rfl (fun W z=>z.2.2.1) (fun _=>rfl),
    RG.gw_iv 44 6 21 7 22 (RG.pE (nv (b i))) 26 (fun x W h=>⟨_,h,rfl⟩) (fun x y W hx g z=>by
     obtain rfl:x=nv (b i):=hx
     obtain rfl:y=nv (a i):=g
     refine (hT W).mono ?_
     rintro e W' ⟨u,rfl,C,rfl⟩
     exact ⟨_,rfl,C,rfl⟩),
    RG.gw_iv 44 1 16 8 23 (RG.pE (nv s)) 25 (fun x W h=>⟨_,h,rfl⟩) (fun x y W hx g z=>by
     obtain rfl:x=nv s:=hx
     obtain rfl:y=nv p:=g
     refine (J W).mono ?_
     rintro e W' ⟨u,rfl,C,rfl⟩
     exact ⟨_,rfl,C,rfl⟩),trivial⟩ ⟨F2.2.drew,F2.1⟩ ?_
   intro V W3 h3 L
   have U:V 9=nv q:=h3 9 dC
   obtain ⟨D,g⟩:∃ D,Hid (W3.setCells (c+1) 0 (wn q)=D):=⟨_,rfl⟩
   have K4:Hid (CbS w D N c (c+1) (i+1) a b):=by
    have h:=L.1.put (by have:=f.2.2.2.2.2.2.2;omega) oM
    rw[HQ.out,g.out] at h
    exact h
   have HT:Hid (W3.there (c+1) 0 4):=L.1.r5.2.2
   dsimp only[RG.putV,Nat.reduceAdd,List.take,List.drop]
   simp only[Act.put,List.setIfInBounds_toArray,List.set_cons_succ,List.set_cons_zero]
   obtain ⟨vq,l⟩:∃ v,Hid (nv q=v):=⟨_,rfl⟩
   rw[U,l.out]
   clear h3 L U F2 hT J Z X
   generalize V 0=s0
   generalize V 1=s1
   generalize V 2=s2
   generalize V 3=s3
   generalize V 4=s4
   generalize V 5=s5
   generalize V 6=s6
   generalize V 7=s7
   generalize V 8=s8
   go_wp2_with (first|(refine wpList_store_mid rfl 44 _ _ rfl (c+1) 0 (wn q).toArray ?_ ?_ ?_ ?_ ?_ ?_;rfl;exact l.symm;exact HT.out;exact i40;exact wn_one q;rw[show (wn q).toArray.toList=wn q from rfl,g.out])|fail)
   go_roundg (gk-1)
   case measure=>omega
   case rel=>exact ⟨i+1,oM,rfl,K4⟩
  ·have h7:¬ (i:Int)<(n:Int):=oM
   obtain rfl:i=n:=oM
   obtain ⟨q,o⟩:∃ q,Hid (prS N a b i=q):=⟨_,rfl⟩
   obtain ⟨D,g⟩:∃ D,Hid (wr.setCells c 0 (wn q)=D):=⟨_,rfl⟩
   have R5:Hid (wr.rangeAt (c+1) 0 (wn q)∧wr.there c 0 4):=⟨by rw[← o.out];exact E.r5.2.1,E.r4.2.2⟩
   have K4:Hid (Below w.heap.size w D∧Row D c (wn q)):=by
    rw[← g.out]
    exact ⟨RG.below_setCells f.2.2.2.2.2.2.2 _ _ _ E.bl,E.r4.put rfl⟩
   obtain ⟨vq,l⟩:∃ v,Hid (nv q=v):=⟨_,rfl⟩
   clear E
   go_wp2_with (first|(refine wpList_load_mid rfl 44 _ rfl (c+1) 0 ?_ (wn q) d ?_ ?_ ?_ ?_ ?_;rfl;exact R5.1;exact HD.1;exact HD.2;exact i40;rw[show Value.agg (wn q).toArray=vq from l.out])|(refine wpList_store_mid rfl 44 _ _ rfl c 0 (wn q).toArray ?_ ?_ ?_ ?_ ?_ ?_;rfl;exact l.symm;exact R5.2;exact i40;exact wn_one q;rw[show (wn q).toArray.toList=wn q from rfl,g.out])|fail)
   refine bodyPost_ret (results_cell 4 44 rfl K4.2 rfl u40 i40) rfl ?_
   exact ⟨_,rfl,K4.1,by rw[o.out];rfl⟩
theorem uSum:(Tryz.prog.underlying 82).map (·.isRow)=some false:=kR
structure CbM (w W:World) (v:Value) (l:List (Nat × Bs)):Prop where
 bl:Below w.heap.size w W
 sm:SmZ w.heap.size W v l
theorem CbM.grow {w W W':World} {v:Value} {l:List (Nat × Bs)} (h:CbM w W v l) (k:Below W.heap.size W W'):CbM w W' v l:=⟨h.bl.trans (k.mono h.bl.size),h.sm.grow k⟩
theorem CbM.drew {w W:World} {v:Value} {l:List (Nat × Bs)} (h:CbM w W v l):CbM w W.drew v l:=⟨h.bl.drew,h.sm.grow ⟨rfl,rfl,rfl,Nat.le_refl _,fun _ _=>rfl⟩⟩
theorem smz_zero {B:Nat} {W:World} {v:Value} {l:List (Nat × Bs)} (h:SmZ B W v l):SmZ 0 W v l:=by
 rcases h with h|⟨g,c,d,k,-,b⟩
 ·exact Or.inl h
 ·exact Or.inr ⟨g,c,d,k,Nat.zero_le _,b⟩
theorem cmbM_c (O:Ord N) {Q:Nat→Prop} (n c:Nat) (S:0<n) (h3:0<c) (hn:n≤512) (L:c*n≤400) (a:Nat→Nat) (T:Nat→List (Nat × Bs)) (ha:∀ i,i<n→a i<N) (hT:∀ i,i<n→TOk N (T i)) (hl:∀ i,i<n→(T i).length=c) (va vb:Value) (w:World) (h1:SLq Q w va n a) (J:GLq Q w vb n T) :
 Calls Tryz.prog 132 #[va,vb] w (Ret fun e w'=>Below w.heap.size w w'∧Sm w.heap.size w' e (cmbT N a T n)):=by
 obtain ⟨I,o1,c1,rfl,-,-,h5,U⟩:=h1
 obtain ⟨b,f,c2,rfl,-,-,R,h4⟩:=J
 have K1:Hid (CbM w w (.slice none 0 0) (cmbT N a T 0)):=⟨Below.refl _ _,Or.inl ⟨rfl,rfl⟩⟩
 have k:Hid (Ord N∧(∀ i,i<n→a i<N)∧(∀ i,i<n→TOk N (T i))∧(∀ i,i<n→(T i).length=c)∧(∀ j,j<n→w.rangeAt I (o1+4*j) (wn (a j)))∧(∀ j,j<n→∃ x,w.cell? ⟨b,f+j,none⟩=some x∧SmQ Q w x (T j))∧I<w.heap.size∧b<w.heap.size∧0<c∧c*n≤400∧0<n):=⟨O,ha,hT,hl,U,h4,h5,R,h3,L,S⟩
 obtain ⟨d,P,h0⟩:=Option.map_eq_some_iff.1 u40
 have HD:Hid (Tryz.prog.underlying 44=some d∧d.isRow=true):=⟨P,h0⟩
 go_enter Tryz.func132,Tryz.ntmps132
 go_wp2
 go_loopg [5,10] n (fun m s5 s10 W=>∃ i:Nat,i+m=n∧s10=.int .i64 i∧Hid (CbM w W s5 (cmbT N a T i)))
 case atStart=>exact ⟨0,oM,rfl,K1⟩
 case round =>
  obtain ⟨i,hc,rfl,K⟩:=hrel
  by_cases r:i<n
  ·have Y:(i:Int)<(n:Int):=oM
   have HL:=Hid.mk' r
   have h8:=at33 I o1 n c1 i r
   have B0:=mk1 (RG.range_below (k.2.2.2.2.1 i r) K.bl k.2.2.2.2.2.2.1)
   obtain ⟨s,t⟩:=hE (wr.heap.size)
   obtain ⟨H,B⟩:=hE (wr.alloc (.cells #[.int .u64 0,.int .u64 0,.int .u64 0,.int .u64 0] 44))
   obtain ⟨W2,C⟩:=hE (H.setCells s 0 (wn (a i)))
   have F1:Hid (Row H s [.int .u64 0,.int .u64 0,.int .u64 0,.int .u64 0]∧Below wr.heap.size wr H):=by rw[← B.out,← t.out];exact ⟨row_new wr _ _,below1 wr _⟩
   have M:Hid (Row W2 s (wn (a i))∧CbM w W2 u5 (cmbT N a T i)):=by
    rw[← C.out]
    exact ⟨F1.1.put rfl,K.grow (RG.below_setCells (by rw[t.out];exact Nat.le_refl _) _ _ _ F1.2)⟩
   obtain ⟨va,F⟩:=hE (Value.agg (wn (a i)).toArray)
   have HO:Hid ((wn (a i)).toArray.all (·.oneCell')=true):=wn_one _
   go_wp2_with (first|(refine wpList_load_mid rfl 44 _ rfl I (o1+4*i) ?_ (wn (a i)) d ?_ ?_ ?_ ?_ ?_;rfl;exact B0.out;exact HD.1;exact HD.2;exact i40;rw[F.out])|(refine wpList_op (v:=.pointer (some ⟨s,0,none⟩)) (w':=H) rfl (.alloc 44) rfl ?_ ?_;(rw[← B.out,← t.out];kernel_rfl))|(refine wpList_store_mid rfl 44 _ _ rfl s 0 (wn (a i)).toArray ?_ ?_ ?_ ?_ ?_ ?_;rfl;exact F.symm;exact F1.1.2.2;exact i40;exact HO.out;rw[show (wn (a i)).toArray.toList=wn (a i) from rfl,C.out])|fail)
   obtain ⟨x,X,h6⟩:=k.2.2.2.2.2.1 i r
   have HX:=mk2 X h6
   obtain ⟨l,o⟩:=hE (cmbT N a T i)
   have E:cmbT N a T (i+1)=l++(T i).map (tmT N (a i)):=by rw[← o.out];rfl
   have h7:l.length=c*i:=by rw[← o.out];exact cmbT_len N a i fun j hj=>k.2.2.2.1 j oM
   have h9:c*i+c≤c*n:=by have:=Nat.mul_le_mul_left c (Nat.succ_le_of_lt r);rwa[Nat.mul_succ] at this
   have G:Hid (l.length≤500∧(T i).length≤500∧0<(T i).length∧TOk N l):=⟨by have:=k.2.2.2.2.2.2.2.2.2.1;omega,by rw[k.2.2.2.1 i r];have:=k.2.2.2.2.2.2.2.2.2.1;omega,by rw[k.2.2.2.1 i r];exact k.2.2.2.2.2.2.2.2.1,by rw[← o.out];exact cmbT_ok k.1.pos i fun j hj=>k.2.2.1 j oM⟩
   have HE:Hid (cmbT N a T (i+1)=l++(T i).map (tmT N (a i))):=E
   rw[o.out] at M
   refine (RG.gwL [RG.pE u5,RG.pE (.iface 82 u5),RG.pE (.slice (some ⟨b,f,none⟩) n c2),RG.pE (.int .i64 i),RG.pE (.pointer (some ⟨b,f+1*i,none⟩)),RG.pE x,RG.pE (.iface 82 x),RG.pE (nv (a i)),RG.pM (w.heap.size≤·) ((T i).map (tmT N (a i))),RG.pM (w.heap.size≤·) (l++(T i).map (tmT N (a i))),RG.pM (w.heap.size≤·) (l++(T i).map (tmT N (a i)))] (fun W=>CbM w W u5 l∧Row W s (wn (a i))) (fun W W' A h=>⟨h.1.grow A,h.2.below A⟩)).draws kR kR ⟨
    RG.gO 5 u5,
    RG.gw_n 0 15 u5 (.iface 82 u5) (fun x W h=>h) (fun _=>rfl),
    RG.gO 1 (.slice (some ⟨b,f,none⟩) n c2),
    RG.gO 6 (.int .i64 i),
    RG.gw_x 2 17 3 18 (.slice (some ⟨b,f,none⟩) n c2) (.int .i64 i) (.pointer (some ⟨b,f+1*i,none⟩)) (Instr.indexAt 148 (.slice (some ⟨b,f,none⟩) n c2) (.int .i64 i)) (atS b f n c2 i HL.out) (fun x W h=>h) (fun x W h=>h) (fun _=>rfl),
    RG.gw_l1 82 4 19 b (f+1*i) x uSum (fun x W h=>h) (fun W q=>by rw[Nat.one_mul,q.1.bl.cell (p:=⟨b,f+i,none⟩) k.2.2.2.2.2.2.2.1];exact HX.1) (fun _=>rfl),
    RG.gw_n 5 20 x (.iface 82 x) (fun x W h=>h) (fun _=>rfl),
    RG.gw_lo 44 7 s 0 (wn (a i)) u40 i40 rfl (fun W q=>q.2.2.1) (fun _=>rfl),
    RG.gw_iv 82 6 21 7 22 (RG.pE x) 149 (fun x W h=>⟨_,h,rfl⟩) (fun z y W hx D q=>by
     obtain rfl:z=x:=hx
     obtain rfl:y=nv (a i):=D
     refine (sumTimes_c k.1 (k.2.1 i HL.out) 0 z (T i) (by have:=G.2.1;omega) (k.2.2.1 i HL.out).szm (k.2.2.1 i HL.out).lt W (HX.2.sm.grow q.1.bl)).mono ?_
     rintro e W' ⟨u,rfl,A,V⟩
     exact ⟨_,rfl,A,V.q.mono fun g Z=>Nat.le_trans q.1.bl.size Z⟩),
    RG.gw_iv 82 1 16 8 23 (RG.pE u5) 31 (fun x W h=>⟨_,h,rfl⟩) (fun z y W hx D q=>by
     obtain rfl:z=u5:=hx
     have D:=D
     refine (sumPlusZ_c 0 z y l ((T i).map (tmT N (a i))) (by rw[List.length_append,List.length_map];have:=G.2.2.1;omega) G.1 (by rw[List.length_map];exact G.2.1) G.2.2.2.sz ((k.2.2.1 i HL.out).tm k.1.pos (a i)).sz W (smz_zero q.1.sm) (Or.inr D.sm)).mono ?_
     rintro e W' ⟨u,rfl,A,V⟩
     exact ⟨_,rfl,A,V.q.mono fun g Z=>Nat.le_trans q.1.bl.size Z⟩),
    RG.gw_m 9 24 id (fun x W h=>h),trivial⟩ ⟨M.2.drew,M.1⟩ ?_
   intro V W3 Z D
   have q:Hid (CbM w W3 (V 10) (cmbT N a T (i+1))):=⟨D.1.bl,Or.inr (by rw[HE.out];exact Z 10 (Nat.lt_of_succ_le (Nat.le_of_ble_eq_true kR)))⟩
   dsimp only[RG.putV,Nat.reduceAdd]
   go_wp2
   go_roundg (gk-1)
   case measure=>omega
   case rel=>exact ⟨i+1,oM,rfl,q⟩
  ·have Y:¬ (i:Int)<(n:Int):=oM
   obtain rfl:i=n:=oM
   have q:Hid (Below w.heap.size w wr∧Sm w.heap.size wr u5 (cmbT N a T i)):=⟨K.bl,by
    rcases K.sm with ⟨-,h⟩|h
    ·exfalso
     have:=cmbT_len N a i k.2.2.2.1
     rw[h] at this
     have J:=Nat.mul_pos k.2.2.2.2.2.2.2.2.1 k.2.2.2.2.2.2.2.2.2.2
     rw[← this] at J
     exact absurd J (Nat.lt_irrefl _)
    ·exact h⟩
   go_wp2
   go_ret
   exact ⟨_,rfl,q.1,q.2⟩
theorem rSc:(Tryz.prog.underlying 44).map (·.isRow)=some true:=u40
theorem nSc:(Tryz.prog.info? 44).map (·.size)=some 4:=i40
def fldS (N x y n:Nat) (a:Nat→Nat) (i:Nat):Nat:=sPl N (sTi N (a i) x) (sTi N (a (n+i)) y)
structure FdS (w W:World) (K k4 k5 n i x y:Nat) (f:Nat→Nat):Prop where
 ar:Ar w W K 4 n i (fun j=>wn (f j))
 r4:Row W k4 (wn x)
 r5:Row W k5 (wn y)
theorem FdS.grow {w W W':World} {K c b n i x y:Nat} {f:Nat→Nat} (h:FdS w W K c b n i x y f) (k:Below W.heap.size W W'):FdS w W' K c b n i x y f:=⟨h.ar.grow k,h.r4.below k,h.r5.below k⟩
theorem FdS.drew {w W:World} {K b k n i x y:Nat} {f:Nat→Nat} (h:FdS w W K b k n i x y f):FdS w W.drew K b k n i x y f:=h.grow ⟨rfl,rfl,rfl,Nat.le_refl _,fun _ _=>rfl⟩
theorem FdS.put {w W:World} {K b k n i x y:Nat} {f:Nat→Nat} (h:FdS w W K b k n i x y f) (c:w.heap.size≤K) (d:i<n) (g:b≠K) (e:k≠K):FdS w (W.setCells K (4*i) (wn (f i))) K b k n (i+1) x y f:=
 ⟨h.ar.put c d (fun _ _=>rfl),row_set h.r4 g,row_set h.r5 e⟩
theorem addII (a b:Nat) (h:a+b<4611686018427387904) (w:World):(binOp .add 3 (.int .i64 a) (.int .i64 b)).run Tryz.prog w=.ok (.int .i64 ((a+b:Nat):Int)) w:=by
 have d:(a:Int)+(b:Int)<4611686018427387904:=oM
 have k:-4611686018427387904<(a:Int)+(b:Int):=oM
 have c:IntKind.i64.wrap ((a:Int)+(b:Int))=((a+b:Nat):Int):=by rw[IntKind.wrap_i64];omega
 go_simp
theorem box2 (w:World) (x y:Nat):∃ k,Hid ((w.alloc (.cells (wn x).toArray 44)).alloc (.cells (wn y).toArray 44)=k)∧Below w.heap.size w k∧Row k w.heap.size (wn x)∧Row k (w.heap.size+1) (wn y)∧k.heap.size=w.heap.size+2:=by
 have hR:=row_new (w.alloc (.cells (wn x).toArray 44)) (wn y) 44
 rw[World.size_alloc] at hR
 exact ⟨_,Hid.mk' rfl,(below1 w _).alloc (by rw[World.size_alloc];omega) _,(row_new w _ _).alloc _,hR,by rw[World.size_alloc,World.size_alloc]⟩
theorem fldS_c (O:Ord N) {Q:Nat→Prop} (n:Nat) (hn:n≤500) (a:Nat→Nat) (x y:Nat) (hx:x<N) (o:y<N) (ha:∀ i,i<n+n→a i<N) (va:Value) (w:World) (h1:SLq Q w va (n+n) a) :
 Calls Tryz.prog 145 #[va,nv x,nv y] w (Ret fun e w'=>Below w.heap.size w w'∧SLq (w.heap.size≤·) w' e n (fldS N x y n a)):=by
 obtain ⟨b,d,c1,rfl,-,-,hg,h5⟩:=h1
 obtain ⟨m,hm⟩:∃ m,Hid (n+n=m):=⟨_,rfl⟩
 have hq:(m:Int).tdiv 2=(n:Int):=by rw[← hm.out,Int.tdiv_eq_ediv_of_nonneg oM];omega
 obtain ⟨D,h6,E,G,H,F⟩:=box2 w x y
 obtain ⟨C0,hc,he⟩:=mkArr uS4 iS4 n oM
 have s:=he D
 obtain ⟨K,hK⟩:∃ K,Hid (D.heap.size=K):=⟨_,rfl⟩
 obtain ⟨w3,M⟩:∃ w3,Hid (D.alloc (.cells C0.toArray 44)=w3):=⟨_,rfl⟩
 have X:Ar D w3 K 4 n 0 (fun j=>wn (fldS N x y n a j)):=Ar.new _ hc M.out hK.out
 rw[M.out,hK.out] at s
 obtain ⟨c,l⟩:∃ k,Hid (w.heap.size=k):=⟨_,rfl⟩
 rw[l.out] at G H F
 have HK:Hid (K=c+2∧w.heap.size≤c):=⟨by rw[← hK.out,F],by rw[l.out];exact Nat.le_refl _⟩
 have K1:Hid (FdS w w3 K c (c+1) n 0 x y (fldS N x y n a)):=⟨⟨E.trans (X.bl.mono E.size),X.lt,X.th,fun j hj=>absurd hj (Nat.not_lt_zero _)⟩,G.below X.bl,H.below X.bl⟩
 have g:Hid (Ord N∧x<N∧y<N∧(∀ i,i<n+n→a i<N)∧(∀ j,j<n+n→w.rangeAt b (d+4*j) (wn (a j)))∧b<w.heap.size):=⟨O,hx,o,ha,h5,hg⟩
 obtain ⟨vx,h0⟩:∃ v,Hid (nv x=v):=⟨_,rfl⟩
 obtain ⟨vy,h2⟩:∃ v,Hid (nv y=v):=⟨_,rfl⟩
 obtain ⟨A,I⟩:∃ A,Hid (w.alloc (.cells (wn x).toArray 44)=A):=⟨_,rfl⟩
 have B1:Hid ((Instr.box 44 vx).run Tryz.prog w=.ok (.pointer (some ⟨c,0,none⟩)) A):=by rw[← h0.out,← I.out,← l.out];exact boxS x w
 have B2:Hid ((Instr.box 44 vy).run Tryz.prog A=.ok (.pointer (some ⟨c+1,0,none⟩)) D):=by
  have h:=boxS y A
  rw[show A.heap.size=c+1 by rw[← I.out,World.size_alloc,l.out]] at h
  have e:A.alloc (.cells (wn y).toArray 44)=D:=by rw[← I.out];exact h6.out
  rw[e] at h
  rw[← h2.out];exact h
 rw[h0.out,h2.out,hm.out]
 clear O hx o ha h5 hg E G H F X hc he hK M l h6
 go_enter Tryz.func145,Tryz.ntmps145
 go_wp2_with (first|(refine wpList_box (u:=vx) (v:=.pointer (some ⟨c,0,none⟩)) (w':=A) rfl 44 (.tmp 1) rfl ?_ ?_ ?_;rfl;exact B1.out)|(refine wpList_box (u:=vy) (v:=.pointer (some ⟨c+1,0,none⟩)) (w':=D) rfl 44 (.tmp 2) rfl ?_ ?_ ?_;rfl;exact B2.out)|fail)
 clear s B1 B2 hq
 go_loopg [15] n (fun m s15 W=>∃ i:Nat,i+m=n∧s15=.int .i64 i∧Hid (FdS w W K c (c+1) n i x y (fldS N x y n a)))
 case atStart=>exact ⟨0,oM,rfl,K1⟩
 case round =>
  clear K1
  obtain ⟨i,hs,rfl,Y⟩:=hrel
  by_cases hi:i<n
  ·have hk:(i:Int)<(n:Int):=oM
   have hr:(i:Int)≤600:=oM
   have HL:=Hid.mk' hi
   have KP:=Y
   clear Y
   go_wp2_with fail
   obtain ⟨p1,P⟩:∃ p,Hid (sTi N (a i) x=p):=⟨_,rfl⟩
   obtain ⟨p2,L⟩:∃ p,Hid (sTi N (a (n+i)) y=p):=⟨_,rfl⟩
   obtain ⟨q,h8⟩:∃ q,Hid (sPl N p1 p2=q):=⟨_,rfl⟩
   have HP:Hid (p1<N∧p2<N):=⟨by rw[← P.out];exact Nat.mod_lt _ g.1.pos,by rw[← L.out];exact Nat.mod_lt _ g.1.pos⟩
   have HQ:Hid (fldS N x y n a i=q):=by show _=_;rw[← h8.out,← P.out,← L.out];rfl
   have C:=fun W=>sTim_c g.1 (a i) x (g.2.2.2.1 i oM) g.2.1 W
   have T:=fun W=>sTim_c g.1 (a (n+i)) y (g.2.2.2.1 (n+i) oM) g.2.2.1 W
   have J:=fun W=>sPlu_c g.1 p1 p2 HP.1 HP.2 W
   rw[P.out] at C
   rw[L.out] at T
   rw[h8.out] at J
   have h4:∀ W,Below w.heap.size w W→W.rangeAt b (d+4*i) (wn (a i)):=fun W f=>RG.range_below (g.2.2.2.2.1 i oM) f g.2.2.2.2.2
   have h7:∀ W,Below w.heap.size w W→W.rangeAt b (d+4*(n+i)) (wn (a (n+i))):=fun W f=>RG.range_below (g.2.2.2.2.1 (n+i) oM) f g.2.2.2.2.2
   have hl:i<m:=by rw[← hm.out];omega
   have h9:n+i<m:=by rw[← hm.out];omega
   refine (RG.gwL [RG.pE (.slice (some ⟨K,0,none⟩) n n),RG.pE (.int .i64 i),RG.pE (.slice (some ⟨b,d,none⟩) m c1),RG.pE (.int .i64 i),RG.pE (.pointer (some ⟨b,d+4*i,none⟩)),RG.pE (nv (a i)),RG.pE (.iface 44 (nv (a i))),RG.pE (nv x),RG.pE (nv p1),RG.pE (.iface 44 (nv p1)),RG.pE (.slice (some ⟨b,d,none⟩) m c1),RG.pE (.slice (some ⟨K,0,none⟩) n n),RG.pE (.int .i64 n),RG.pE (.int .i64 i),RG.pE (.int .i64 ((n+i:Nat):Int)),RG.pE (.pointer (some ⟨b,d+4*(n+i),none⟩)),RG.pE (nv (a (n+i))),RG.pE (.iface 44 (nv (a (n+i)))),RG.pE (nv y),RG.pE (nv p2),RG.pE (nv q),RG.pE (.pointer (some ⟨K,0+4*i,none⟩))] (fun W=>FdS w W K c (c+1) n i x y (fldS N x y n a)) (fun W W' U h=>h.grow U)).last 22 kR kR kR ⟨
    RG.gO 7 (.slice (some ⟨K,0,none⟩) n n),
    RG.gO 8 (.int .i64 i),
    RG.gO 0 (.slice (some ⟨b,d,none⟩) m c1),
    RG.gO 8 (.int .i64 i),
    RG.gw_x 2 20 3 21 (.slice (some ⟨b,d,none⟩) m c1) (.int .i64 i) (.pointer (some ⟨b,d+4*i,none⟩)) (Instr.indexAt 143 (.slice (some ⟨b,d,none⟩) m c1) (.int .i64 i)) (at33 b d m c1 i hl) (fun x W h=>h) (fun x W h=>h) (fun _=>rfl),
    RG.gLr 4 22 (fun W f=>h4 W f.ar.bl) rSc nSc,
    RG.gw_n 5 23 (nv (a i)) (.iface 44 (nv (a i))) (fun x W h=>h) (fun _=>rfl),
    RG.gw_lo 44 4 c 0 (wn x) rSc nSc rfl (fun W f=>f.r4.2.1) (fun _=>rfl),
    RG.gw_iv 44 6 24 7 25 (RG.pE (nv (a i))) 26 (fun x W h=>⟨_,h,rfl⟩) (fun z u W hx o f=>by
     obtain rfl:z=nv (a i):=hx
     obtain rfl:u=nv x:=o
     refine (C W).mono ?_
     rintro e W' ⟨u,rfl,U,rfl⟩
     exact ⟨_,rfl,U,rfl⟩),
    RG.gw_n 8 26 (nv p1) (.iface 44 (nv p1)) (fun x W h=>h) (fun _=>rfl),
    RG.gO 0 (.slice (some ⟨b,d,none⟩) m c1),
    RG.gO 7 (.slice (some ⟨K,0,none⟩) n n),
    RG.gw_n 11 29 (.slice (some ⟨K,0,none⟩) n n) (.int .i64 n) (fun x W h=>h) (fun _=>rfl),
    RG.gO 8 (.int .i64 i),
    RG.gw_bin .add 3 3 30 31 rfl (fun a W r=>⟨_,_,.int .i64 ((n+i:Nat):Int),r.n 12 30 kR kR,r.n 13 31 kR kR,kR,addII n i oM W,rfl⟩),
    RG.gw_x 10 28 14 32 (.slice (some ⟨b,d,none⟩) m c1) (.int .i64 ((n+i:Nat):Int)) (.pointer (some ⟨b,d+4*(n+i),none⟩)) (Instr.indexAt 143 (.slice (some ⟨b,d,none⟩) m c1) (.int .i64 ((n+i:Nat):Int))) (at33 b d m c1 (n+i) h9) (fun x W h=>h) (fun x W h=>h) (fun _=>rfl),
    RG.gLr 15 33 (fun W f=>h7 W f.ar.bl) rSc nSc,
    RG.gw_n 16 34 (nv (a (n+i))) (.iface 44 (nv (a (n+i)))) (fun x W h=>h) (fun _=>rfl),
    RG.gw_lo 44 5 (c+1) 0 (wn y) rSc nSc rfl (fun W f=>f.r5.2.1) (fun _=>rfl),
    RG.gw_iv 44 17 35 18 36 (RG.pE (nv (a (n+i)))) 26 (fun x W h=>⟨_,h,rfl⟩) (fun z u W hx o f=>by
     obtain rfl:z=nv (a (n+i)):=hx
     obtain rfl:u=nv y:=o
     refine (T W).mono ?_
     rintro e W' ⟨u,rfl,U,rfl⟩
     exact ⟨_,rfl,U,rfl⟩),
    RG.gw_iv 44 9 27 19 37 (RG.pE (nv p1)) 25 (fun x W h=>⟨_,h,rfl⟩) (fun z u W hx o f=>by
     obtain rfl:z=nv p1:=hx
     obtain rfl:u=nv p2:=o
     refine (J W).mono ?_
     rintro e W' ⟨u,rfl,U,rfl⟩
     exact ⟨_,rfl,U,rfl⟩),
    RG.gw_x 0 18 1 19 (.slice (some ⟨K,0,none⟩) n n) (.int .i64 i) (.pointer (some ⟨K,0+4*i,none⟩)) (Instr.indexAt 143 (.slice (some ⟨K,0,none⟩) n n) (.int .i64 i)) (at33 K 0 n n i HL.out) (fun x W h=>h) (fun x W h=>h) (fun _=>rfl),trivial⟩ KP.drew ?_
   intro V W3 S R
   have r:V 20=nv q:=S 20 dC
   have B:V 21=.pointer (some ⟨K,0+4*i,none⟩):=S 21 dC
   obtain ⟨W4,Z⟩:∃ W4,Hid (W3.setCells K (4*i) (wn q)=W4):=⟨_,rfl⟩
   have K4:Hid (FdS w W4 K c (c+1) n (i+1) x y (fldS N x y n a)):=by
    have h:=R.put (by have:=HK.out;omega) hi (by have:=HK.out;omega) (by have:=HK.out;omega)
    rw[HQ.out,Z.out] at h
    exact h
   have HT:Hid (W3.there K (4*i) 4):=fun t ht=>by
    have:=R.ar.th (4*i+t) oM
    rwa[Nat.zero_add] at this
   dsimp only[RG.putV,Nat.reduceAdd,List.take,List.drop]
   simp only[Act.put,List.setIfInBounds_toArray,List.set_cons_succ,List.set_cons_zero]
   obtain ⟨vq,h3⟩:∃ v,Hid (nv q=v):=⟨_,rfl⟩
   rw[r,B,h3.out,Nat.zero_add]
   clear S R r B KP C T J h7 h4
   generalize V 0=s0
   generalize V 1=s1
   generalize V 2=s2
   generalize V 3=s3
   generalize V 4=s4
   generalize V 5=s5
   generalize V 6=s6
   generalize V 7=s7
   generalize V 8=s8
   generalize V 9=s9
   generalize V 10=s10
   generalize V 11=s11
   generalize V 12=s12
   generalize V 13=s13
   generalize V 14=s14
   generalize V 15=s15
   generalize V 16=s16
   generalize V 17=s17
   generalize V 18=s18
   generalize V 19=s19
   go_wp2_with (first|(refine wpList_store_mid rfl 44 _ _ rfl K (4*i) (wn q).toArray ?_ ?_ ?_ ?_ ?_ ?_;rfl;exact h3.symm;exact HT.out;exact i40;exact wn_one q;rw[show (wn q).toArray.toList=wn q from rfl,Z.out])|fail)
   go_roundg (gk-1)
   case measure=>omega
   case rel=>exact ⟨i+1,oM,rfl,K4⟩
  ·have hk:¬ (i:Int)<(n:Int):=oM
   obtain rfl:i=n:=oM
   have K4:Hid (Below w.heap.size w wr∧SLq (w.heap.size≤·) wr (.slice (some ⟨K,0,none⟩) i i) i (fldS N x y i a)):=⟨Y.ar.bl,K,0,i,rfl,Nat.le_refl _,by have:=HK.out;omega,Y.ar.lt,fun j hj=>by rw[Nat.zero_add];exact Y.ar.rw j hj⟩
   clear Y
   go_wp2
   go_ret
   exact ⟨_,rfl,K4.1,K4.2⟩
end
section
open Go.RowKit Go.Sort Go.Deep
theorem new_row {w k:World} {g:Nat} {z:List Value} {T:TypeId} (b:Hid (w.heap.size=g)) (c:Hid (w.alloc (.cells z.toArray T)=k)):Hid (Below w.heap.size w k∧Row k g z):=by
 rw[← c.out,← b.out]
 exact ⟨below1 _ _,row_new w _ _⟩
theorem new_put {w k b:World} {g:Nat} {z vs:List Value} {T:TypeId} (d:Hid (w.heap.size=g)) (f:Hid (w.alloc (.cells z.toArray T)=k)) (e:Hid (k.setCells g 0 vs=b)) (c:vs.length=z.length):Hid (k.there g 0 vs.toArray.size∧Below w.heap.size w b∧Row b g vs):=by
 have h:=(new_row d f).out
 rw[← e.out]
 exact ⟨by rw[List.size_toArray,c];exact h.2.2.2,RG.below_setCells (by rw[d.out];exact Nat.le_refl _) _ _ _ h.1,h.2.put c⟩
structure Kz (Z:Nat→Prop) (w w':World):Prop where
 os:w'.os=w.os
 tape:w'.tape=w.tape
 output:w'.output=w.output
 size:w.heap.size≤w'.heap.size
 block:∀ g,g<w.heap.size→Z g→w'.heap[g]? = w.heap[g]?
section
variable {Z:Nat→Prop} {w w' W:World} {k o:Nat} {vs:List Value}
theorem Kz.of (h:Below w.heap.size w w'):Kz Z w w':=⟨h.os,h.tape,h.output,h.size,fun g k _=>h.block g k⟩
theorem Kz.trans (h:Kz Z w w') (k:Kz Z w' W):Kz Z w W:=⟨k.os.trans h.os,k.tape.trans h.tape,k.output.trans h.output,Nat.le_trans h.size k.size,fun g c b=>(k.block g (Nat.lt_of_lt_of_le c h.size) b).trans (h.block g c b)⟩
theorem Kz.bel (h:Kz Z w w') (b:∀ g,Z g):Below w.heap.size w w':=⟨h.os,h.tape,h.output,h.size,fun g k=>h.block g k (b g)⟩
theorem Kz.kq {Q:Nat→Prop} (h:Kz Z w w') (k:∀ g,Q g→Z g):Kq Q w w':=⟨h.size,fun g c b=>h.block g b (k g c)⟩
theorem Kz.set (h:Kz Z w W) (b:w.heap.size≤k∨¬ Z k):Kz Z w (W.setCells k o vs):=by
 obtain ⟨i,d,f⟩:=RG.setCells_os k vs o W
 refine ⟨i.trans h.os,d.trans h.tape,f.trans h.output,by rw[RG.setCells_size];exact h.size,fun g e c=>?_⟩
 rw[RG.setCells_other k vs o W g (by rintro rfl;rcases b with b|b;omega;exact b c)]
 exact h.block g e c
theorem Kz.range (h:Kz Z w w') (b:Z k) (d:k<w.heap.size) (c:w.rangeAt k o vs):w'.rangeAt k o vs:=(h.kq fun _ h=>h).range b d c
end
structure LsS (Z:Nat→Prop) (w W:World) (K n i:Nat) (a:Nat→Nat):Prop where
 kz:Kz Z w W
 lt:K<W.heap.size
 th:W.there K 0 (4*n)
 rw:∀ j,j<i→W.rangeAt K (4*j) (wn (a j))
theorem there_same {w w':World} {k o n:Nat} (h:w.there k o n) (e:w'.heap[k]? = w.heap[k]?):w'.there k o n:=fun j b=>by
 have:=h j b
 rw[World.cell?_of_block (a:=⟨k,o+j,none⟩) e,World.frozen?_of_block (a:=⟨k,o+j,none⟩) e]
 exact this
theorem LsS.grow {Z:Nat→Prop} {w W W':World} {K n i:Nat} {a:Nat→Nat} (h:LsS Z w W K n i a) (b:Z K) (k:Kz Z W W'):LsS Z w W' K n i a:=
 ⟨h.kz.trans k,Nat.lt_of_lt_of_le h.lt k.size,there_same h.th (k.block K h.lt b),fun j c=>k.range b h.lt (h.rw j c)⟩
theorem LsS.put {Z:Nat→Prop} {w W:World} {K n i:Nat} {a:Nat→Nat} (h:LsS Z w W K n i a) (b:w.heap.size≤K) (d:i<n):LsS Z w (W.setCells K (4*i) (wn (a i))) K n (i+1) a:=by
 refine ⟨h.kz.set (Or.inl b),by rw[RG.setCells_size];exact h.lt,World.there_setCells h.th _ _ _,fun j c=>?_⟩
 by_cases e:j=i
 ·subst e
  exact World.rangeAt_setCells_same W K _ _ fun t k=>by
   have k:t<4:=k
   have:=h.th (4*j+t) oM
   rwa[Nat.zero_add] at this
 ·exact World.rangeAt_setCells_apart (h.rw j oM) K _ _ (Or.inr (by
   show 4*j+4≤4*i∨4*i+4≤4*j
   omega))
theorem listOfZ_c (n:Nat) (R:n≤512) (f:FuncId) (cap:Array Value) (hf:∀ args W,(callFunc f args).run Tryz.prog W=.ok (.enter f args) W) (a:Nat→Nat) (Z:Nat→Prop) (I:Nat→World→Prop) (w:World) (M:∀ g,w.heap.size≤g→Z g) (s:∀ W,Below w.heap.size w W→I 0 W) (v:∀ i W K o vs,w.heap.size≤K→I i W→I i (World.setCells W K o vs))
 (L:∀ i W,i<n→Kz Z w W→I i W→Calls Tryz.prog f (#[.int .i64 i]++cap) W (Ret fun e W'=>Kz Z W W'∧I (i+1) W'∧e=nv (a i))) :
 Calls Tryz.prog 126 #[.int .i64 n,.func (.func f) #[] cap] w (Ret fun e w'=>Kz Z w w'∧I n w'∧SLq (w.heap.size≤·) w' e n a∧∃ g c,e=.slice (some ⟨g,0,none⟩) n c):=by
 obtain ⟨C0,r,u⟩:=mkArr uS4 iS4 n R
 have b:=u w
 obtain ⟨K,l⟩:=hE (w.heap.size)
 obtain ⟨z,d⟩:=hE (w.alloc (.cells C0.toArray 44))
 have x:Ar w z K 4 n 0 (fun _=>[]):=Ar.new _ r d.out l.out
 rw[d.out,l.out] at b
 have O:Hid (LsS Z w z K n 0 a∧I 0 z):=⟨⟨Kz.of x.bl,x.lt,x.th,fun j F=>absurd F (Nat.not_lt_zero _)⟩,s z x.bl⟩
 have P:=mk1 L
 have U:=mk1 hf
 have A:Hid (Z K∧w.heap.size≤K∧∀ i W o vs,I i W→I i (World.setCells W K o vs)):=⟨M K (Nat.le_of_eq l.out),Nat.le_of_eq l.out,fun i W o vs=>v i W K o vs (Nat.le_of_eq l.out)⟩
 obtain ⟨fv,p⟩:=hE (Value.func (.func f) #[] cap)
 rw[p.out]
 clear x r u L hf d l s v M
 go_enter Tryz.func126,Tryz.ntmps126
 go_wp2
 clear b
 go_loopg [11] n (fun m s11 W=>∃ i:Nat,i+m=n∧s11=.int .i64 i∧Hid (LsS Z w W K n i a∧I i W))
 case atStart=>exact ⟨0,oM,rfl,O⟩
 case round =>
  obtain ⟨i,T,rfl,k⟩:=hrel
  by_cases D:i<n
  ·have E:(i:Int)<(n:Int):=oM
   have B:=at33 K 0 n n i D
   rw[Nat.zero_add] at B
   have S:=mk1 D
   go_wp2_with (first|(refine wpList_cv rfl 16 17 _ rfl f cap (.int .i64 i) ?_ ?_ U.out (P i wr S.out k.1.kz k.2) ?_;exact p.symm;rfl;intro e W' hR;refine Hid.out ?_)|fail)
   obtain ⟨H,G,rfl⟩:=hR
   have C:=k.1.grow A.1 H
   obtain ⟨J,q⟩:=hE (W'.setCells K (4*i) (wn (a i)))
   have N:Hid (LsS Z w J K n (i+1) a∧I (i+1) J):=by rw[← q.out];exact ⟨C.put A.2.1 D,A.2.2 _ _ _ _ G⟩
   have Q:Hid (W'.there K (4*i) 4):=fun t X=>by
    have:=C.th (4*i+t) oM
    rwa[Nat.zero_add] at this
   obtain ⟨V,y⟩:=hE (nv (a i))
   rw[y.out]
   clear H G C k
   show wpList _ _ _ _ _ _
   go_wp2_with (first|(refine wpList_store_mid rfl 44 _ _ rfl K (4*i) (wn (a i)).toArray ?_ ?_ ?_ ?_ ?_ ?_;rfl;exact y.symm;exact Q.out;exact i40;exact wn_one _;rw[show (wn (a i)).toArray.toList=wn (a i) from rfl,q.out])|fail)
   go_roundg (gk-1)
   case measure=>omega
   case rel=>exact ⟨i+1,oM,rfl,N⟩
  ·have E:¬ (i:Int)<(n:Int):=oM
   obtain rfl:i=n:=oM
   have q:Hid (Kz Z w wr∧I i wr∧SLq (w.heap.size≤·) wr (.slice (some ⟨K,0,none⟩) i i) i a):=⟨k.1.kz,k.2,K,0,i,rfl,Nat.le_refl _,A.2.1,k.1.lt,fun j F=>by rw[Nat.zero_add];exact k.1.rw j F⟩
   go_wp2
   go_ret
   exact ⟨_,rfl,q.1,q.2.1,q.2.2,_,_,rfl⟩
theorem listOfS_c (n:Nat) (l:n≤512) (f:FuncId) (cap:Array Value) (hf:∀ args W,(callFunc f args).run Tryz.prog W=.ok (.enter f args) W) (a:Nat→Nat) (Z:Nat→Prop) (I:Nat→World→Prop) (w:World) (p:∀ g,w.heap.size≤g→Z g) (k:∀ W,Below w.heap.size w W→I 0 W) (b:∀ i W K o vs,w.heap.size≤K→I i W→I i (World.setCells W K o vs))
 (m:∀ i W,i<n→Kz Z w W→I i W→Calls Tryz.prog f (#[.int .i64 i]++cap) W (Ret fun e W'=>Kz Z W W'∧I (i+1) W'∧e=nv (a i))) :
 Calls Tryz.prog 126 #[.int .i64 n,.func (.func f) #[] cap] w (Ret fun e w'=>Kz Z w w'∧I n w'∧SLq (w.heap.size≤·) w' e n a):=
 (listOfZ_c n l f cap hf a Z I w p k b m).mono fun _ _ ⟨v,h,j,c,d,_⟩=>⟨v,h,j,c,d⟩
theorem listOfB_c (n:Nat) (g:n≤512) (f:FuncId) (cap:Array Value) (hf:∀ args W,(callFunc f args).run Tryz.prog W=.ok (.enter f args) W) (a:Nat→Nat) (w:World)
 (j:∀ i W,i<n→Below w.heap.size w W→Calls Tryz.prog f (#[.int .i64 i]++cap) W (Ret fun e W'=>Below W.heap.size W W'∧e=nv (a i))) :
 Calls Tryz.prog 126 #[.int .i64 n,.func (.func f) #[] cap] w (Ret fun e w'=>Below w.heap.size w w'∧SLq (w.heap.size≤·) w' e n a):=by
 refine (listOfS_c n g f cap hf a (fun _=>True) (fun _ _=>True) w (fun _ _=>trivial) (fun _ _=>trivial) (fun _ _ _ _ _ _ _=>trivial) fun i W d c _=>?_).mono ?_
 ·refine (j i W d (c.bel fun _=>trivial)).mono ?_
  rintro e w' ⟨v,rfl,b,k⟩
  exact ⟨v,rfl,Kz.of b,trivial,k⟩
 ·rintro e w' ⟨v,rfl,b,-,k⟩
  exact ⟨v,rfl,b.bel fun _=>trivial,k⟩
end
section
open Go.RowKit Go.Sort Go.Deep
variable {P:Nat} [NeZero P] {N:Nat}
abbrev w1c (x:Nat):List Value:=[.int .u64 x,.int .u64 0,.int .u64 0,.int .u64 0]
theorem w1c_eq {x:Nat} (hx:x<18446744073709551616):wn x=w1c x:=by
 unfold wn
 rw[Nat.mod_eq_of_lt hx,Nat.div_eq_of_lt hx,Nat.div_eq_of_lt (by omega:x<340282366920938463463374607431768211456),Nat.div_eq_of_lt (by omega:x<6277101735386680763835789423207666416102355444464034512896)]
 rfl
theorem ofN_c (x:Nat) (hx:x<18446744073709551616):Gives 15 #[.int .u64 x] (nv x):=by
 unfold nv
 rw[w1c_eq hx]
 intro w
 go_enter Tryz.func15,Tryz.ntmps15
 refine RG.M.enter [(0,.v (.int .u64 x))] 6 kR ?_
 intro a0 c
 repeat refine wp_seq ?_
 refine c.T [.m 0] [(0,RG.z 4)] [] [RG.z 4] [0,2] ⟨RG.mk 0 44,trivial⟩ ?_
 intro k f e d
 repeat refine wp_seq ?_
 refine d.T [.x (.int .u64 x),.x (.agg (w1c x).toArray),.x (.agg (w1c x).toArray),.u 0] [] [(0,3,w1c x)] [w1c x] [2] ⟨RG.st,RG.st,RG.st,RG.pt i40,trivial⟩ ?_
 intro a2 g b
 refine wp_ret ?_
 refine bodyPost_ret (v:=.agg (w1c x).toArray) (RG.results_row b.st 2 44 rfl 0 _ rfl (b.at (s:=(.p 0 0))) u40 i40) b.sl.defers ?_
 exact ⟨_,rfl,b.st.bel.below,rfl⟩
theorem half_lt (v i:Nat) (hv:v<18446744073709551616):v/2^i<18446744073709551616:=Nat.lt_of_le_of_lt (Nat.div_le_self _ _) hv
theorem res_sc {w b W W':World} {k x:Nat} (e:Hid (w.heap.size=k)) (g:Hid (w.alloc (.cells (RG.z 4).toArray 44)=b)) (c:Below b.heap.size b W) (f:Hid (W.setCells k 0 (wn x)=W')):Hid (W.there k 0 4∧Below w.heap.size w W'∧Row W' k (wn x)):=by
 have h:=(new_row e g).out
 have d:=h.2.below c
 rw[← f.out]
 exact ⟨d.2.2,RG.below_setCells (Nat.le_of_eq e.out) _ _ _ (h.1.trans (c.mono h.1.size)),d.put rfl⟩
theorem lin1_c (v i k:Nat) (hv:v<18446744073709551616) (a:i<64) (w:World) (l:k<w.heap.size) (o:w.cell? ⟨k,0,none⟩=some (.int .u64 v)):Calls Tryz.prog 124 #[.int .i64 i,.pointer (some ⟨k,0,none⟩)] w (Ret fun e w'=>Below w.heap.size w w'∧e=nv (v/2^i%2)):=by
 obtain ⟨q,g⟩:=hE (w.heap.size)
 obtain ⟨m,b⟩:=hE (w.alloc (.cells (RG.z 4).toArray 44))
 have s:=new_row g b
 have u:m.cell? ⟨k,0,none⟩=some (.int .u64 v):=by rw[s.1.cell (p:=⟨k,0,none⟩) l];exact o
 have f:bits .and .u64 ((v:Int)/2^i) 1=((v/2^i%2:Nat):Int):=by
  rw[← and_one _ (half_lt v i hv),Int.natCast_ediv,Int.natCast_pow]
  rfl
 have n:=mk1 (ofN_c (v/2^i%2) oM)
 generalize v/2^i%2=x at f n ⊢
 have t:=mk1 f
 clear o l f
 go_enter Tryz.func124,Tryz.ntmps124
 go_wp2_with (first|(refine alR 3 g b ?_)|fail)
 rw[t.out]
 refine (n m).mono ?_
 rintro e r ⟨B,rfl,j,rfl⟩
 obtain ⟨y,d⟩:=hE (r.setCells q 0 (wn x))
 have R:=res_sc g b j d
 obtain ⟨z,c⟩:=hE (nv x)
 rw[c.out]
 go_wp2_with (first|(refine stR 3 d c R.1 i40 (wn_one x) ?_)|fail)
 refine bodyPost_ret (results_cell 3 44 rfl R.2.2 rfl u40 i40) rfl ?_
 exact ⟨_,rfl,R.2.1,rfl⟩
theorem lin2_c (O:Ord N) (v i k c:Nat) (hv:v<18446744073709551616) (D:i<64) (w:World) (y:k<w.heap.size) (n:c<w.heap.size) (G:w.cell? ⟨k,0,none⟩=some (.int .u64 v)) (t:w.cell? ⟨c,0,none⟩=some (.func (.func 124) #[] #[.pointer (some ⟨k,0,none⟩)])):Calls Tryz.prog 125 #[.int .i64 i,.pointer (some ⟨c,0,none⟩)] w (Ret fun e w'=>Below w.heap.size w w'∧e=nv (sMi N (v/2^i%2) 1)):=by
 obtain ⟨q,o⟩:=hE (w.heap.size)
 obtain ⟨z,b⟩:=hE (w.alloc (.cells (RG.z 4).toArray 44))
 have r:=new_row o b
 have s:z.cell? ⟨c,0,none⟩=some (.func (.func 124) #[] #[.pointer (some ⟨k,0,none⟩)]):=by rw[r.1.cell (p:=⟨c,0,none⟩) n];exact t
 have a:=mk1 (lin1_c v i k hv D z (Nat.lt_of_lt_of_le y r.1.size) (by rw[r.1.cell (p:=⟨k,0,none⟩) y];exact G))
 have u:=mk1 (sMin_c O (v/2^i%2) 1 (by have:=O.n2;omega) (by have:=O.n2;omega))
 have F:=mk1 (ofN_c 1 dC)
 generalize v/2^i%2=x at a u ⊢
 obtain ⟨vf,d⟩:=hE (Value.func (.func 124) #[] #[.pointer (some ⟨k,0,none⟩)])
 rw[d.out] at s
 go_enter Tryz.func125,Tryz.ntmps125
 go_wp2_with (first|(refine alR 3 o b ?_)|(refine wpList_cv rfl 4 5 _ rfl 124 #[.pointer (some ⟨k,0,none⟩)] (.int .i64 i) ?_ ?_ (fun _ _=>kR) a.out ?_;exact d.symm;rfl;intro e W' hR;refine Hid.out ?_)|fail)
 obtain ⟨l,rfl⟩:=hR
 show wpList _ _ _ _ _ _
 go_wp2_with fail
 refine (F W').mono ?_
 rintro e B ⟨E,rfl,j,rfl⟩
 go_wp2_with fail
 refine (u B).mono ?_
 rintro e C ⟨E,rfl,m,rfl⟩
 obtain ⟨I,f⟩:=hE (C.setCells q 0 (wn (sMi N x 1)))
 have R:=res_sc o b (l.trans ((j.trans (m.mono j.size)).mono l.size)) f
 obtain ⟨H,g⟩:=hE (nv (sMi N x 1))
 rw[g.out]
 go_wp2_with (first|(refine stR 3 f g R.1 i40 (wn_one _) ?_)|fail)
 refine bodyPost_ret (results_cell 3 44 rfl R.2.2 rfl u40 i40) rfl ?_
 exact ⟨_,rfl,R.2.1,rfl⟩
end
namespace RG
open Go Go.RowKit
variable {P:Program} {ops:Array Oper} {Q:Exit→Act→World→Prop} {w:World} {a0:Act} {F:Flow}
def reachB (k:Array Oper):Nat→Nat→Nat→Bool
 | 0,i,j=>depOn k i j
 | f+1,i,j=>depOn k i j || (List.range i).any (fun x=>depOn k i x && reachB k f x j)
def chain2 (k:Array Oper) (n:Nat):Bool:=(List.range n).all (fun j=>reachB k 5 n j) && (List.range k.size).all (fun i=>decide (i≤n) || depOn k i (i-1))
theorem chain2_dep {n i:Nat} (h:chain2 ops n=true) (c:n<i) (b:i<ops.size):depOn ops i (i-1)=true:=by
 unfold chain2 at h
 rw[Bool.and_eq_true] at h
 have k:=List.all_eq_true.1 h.2 i (List.mem_range.2 b)
 rw[Bool.or_eq_true,decide_eq_true_eq] at k
 rcases k with k|k
 ·omega
 ·exact k
theorem reach_on {L:Array Bool} {a:Act} (b:InvF F ops a0 L a w):∀ (f i j:Nat),i<ops.size→on L i=true→reachB ops f i j=true→on L j=true
 | 0,i,j,his,hi,h=>by
  have k:=Array.getElem?_eq_getElem his
  unfold reachB depOn at h
  rw[k] at h
  exact dep_on (ho:=k) b h hi
 | f+1,i,j,his,hi,h=>by
  have k:=Array.getElem?_eq_getElem his
  unfold reachB at h
  rw[Bool.or_eq_true] at h
  have hd:∀ x,depOn ops i x=true→on L x=true:=fun x hx=>by
   unfold depOn at hx
   rw[k] at hx
   exact dep_on (ho:=k) b hx hi
  rcases h with h|h
  ·exact hd j h
  ·obtain ⟨x,hx,c⟩:=List.any_eq_true.1 h
   rw[Bool.and_eq_true] at c
   exact reach_on b f x j (by have:=List.mem_range.1 hx;omega) (hd x c.1) c.2
theorem tail_any4 {n:Nat} (D:∀ i,n<i→i<ops.size→depOn ops i (i-1)=true) (x:∀ (i:Nat) (o:Oper),ops[i]? = some o→∀ e∈o.after,Region.binds .any e=true→e.on<i):∀ (c:Nat) (L:Array Bool) (a:Act) (w:World) (m:Nat),n≤m→m≤ops.size→L.size=ops.size→(∀ j,on L j=true↔j<m)→unl L=c→wpList P ops Q (ops.toList.drop m) a w→wpAny P .any ops Q c L a w:=by
 intro c
 induction c with
 | zero =>
  intro L a w m u y t k A h
  have q:m=ops.size:=by
   rcases Nat.lt_or_ge m ops.size with d|d
   ·have:=unl_zero A m oM
    rw[k] at this
    omega
   ·omega
  rw[q,← Array.length_toList,List.drop_length] at h
  refine ⟨?_,h⟩
  apply List.eq_nil_iff_forall_not_mem.2
  intro i r
  obtain ⟨d,o,ho,-⟩:=mem_ready.1 r
  have f:=(k i).2 (by rw[q];exact (Array.getElem?_eq_some_iff.1 ho).1)
  unfold on at f
  rw[Array.getD_eq_getD_getElem?] at d f
  cases hh:L[i]? with
  | none=>rw[hh] at d;cases d
  | some b=>rw[hh] at d f;rw[show b=false from d] at f;cases f
 | succ c ih =>
  intro L a w m u y t k A h
  have s:∀ i,i∈Region.ready .any ops L→i=m:=fun i r=>by
   obtain ⟨d,o,ho,p⟩:=mem_ready.1 r
   have g:on L i=false:=by
    unfold on
    rw[Array.getD_eq_getD_getElem?] at d ⊢
    cases hh:L[i]? with
    | none=>rfl
    | some b=>rw[hh] at d;exact d
   have l:=(Array.getElem?_eq_some_iff.1 ho).1
   rcases Nat.lt_trichotomy i m with f|f|f
   ·rw[(k i).2 f] at g;cases g
   ·exact f
   ·have:=(k (i-1)).1 (dep_ready ho p (D i oM l))
    omega
  refine ⟨fun C=>?_,fun i r=>?_⟩
  ·rcases Nat.lt_or_ge m ops.size with d|d
   ·exfalso
    have ho:ops[m]? = some ops[m]:=Array.getElem?_eq_getElem _
    have g:on L m=false:=by
     cases v:on L m with
     | false=>rfl
     | true=>have:=(k m).1 v;omega
    have:m∈Region.ready .any ops L:=mem_ready.2 ⟨?_,_,ho,fun e z v=>(k e.on).2 (x m _ ho e z v)⟩
    ·rw[C] at this;cases this
    ·unfold on at g
     rw[Array.getD_eq_getD_getElem?,Array.getElem?_eq_getElem (by rw[t];exact d)] at g ⊢
     exact g
   ·have q:m=ops.size:=oM
    rw[q,← Array.length_toList,List.drop_length] at h
    exact h
  ·obtain rfl:=s i r
   obtain ⟨d,o,ho,p⟩:=mem_ready.1 r
   have l:=(Array.getElem?_eq_some_iff.1 ho).1
   have q:ops.toList.drop i=o :: ops.toList.drop (i+1):=by
    rw[List.drop_eq_getElem_cons (by rw[Array.length_toList];exact l)]
    have:ops.toList[i]? = some o:=by rw[Array.getElem?_toList];exact ho
    rw[List.getElem?_eq_getElem (by rw[Array.length_toList];exact l)] at this
    rw[Option.some.inj this]
   rw[q] at h
   have z:wpOp P ops Q i (fun v w'=>wpList P ops Q (ops.toList.drop (i+1)) v w') a w:=by
    unfold wpOp
    rw[ho]
    exact h
   refine wpOp_mono (fun v w' B=>ih _ v w' (i+1) oM oM (by rw[Array.size_setIfInBounds];exact t) (fun j=>?_) (by have:=unl_set d;omega) B) z
   rw[on_set (by rw[t];omega)]
   constructor
   ·intro g
    rw[Bool.or_eq_true] at g
    rcases g with g|g
    ·have:=(k j).1 g;omega
    ·have:i=j:=by simpa using g
     omega
   ·intro g
    by_cases f:j<i
    ·rw[(k j).2 f,Bool.true_or]
    ·rw[show j=i by omega];simp
theorem flow_tailZ {id:Nat} (F:Flow) (n:Nat) (Z:Array Bool→Act→Prop) (T:n<ops.size) (u:chain2 ops n=true) (K:P.follows .mixedOrders=true) (R:RegF P Q F ops a0 n) (N:∀ b,F.B b w.drew) (S:∀ L,(∀ i,on L i=false)→Z L a0)
 (C:∀ (k:Nat) (o:Oper) (L:Array Bool) (a:Act) (w:World),k<n→(∀ i,on L i=true→i<n)→ops[k]? = some o→on L k=false→(∀ e∈o.after,Region.binds .any e=true→on L e.on=true)→InvF F ops a0 L a w→Z L a→wpOp P ops Q k (fun z w'=>InvF F ops a0 (L.setIfInBounds k true) z w'∧Z (L.setIfInBounds k true) z) a w)
 (I:∀ (V:Nat→Value) (w':World),(∀ i,i<n→F.kill i=[]→F.R i (V i) w')→(∀ b,F.killB b=[]→F.B b w')→(∃ L a,Z L a∧∀ i,i<n→on L i=true∧∀ d,dstOf ops i=some d→a.tmps[d]? = some (V i))→wpList P ops Q (ops.toList.drop n) (putV V (ops.toList.take n) 0 a0) w'):(Code.region id ops true).wp P Q a0 w:=by
 have E:∀ (i:Nat) (o:Oper),ops[i]? = some o→∀ e∈o.after,Region.binds .any e=true→e.on<i:=fun i o ho=>(R.of ho).1
 have key:∀ (g:Nat) (L:Array Bool) (a:Act) (w:World),unl L=g→(∀ j,n≤j→on L j=false)→InvF F ops a0 L a w→Z L a→wpAny P .any ops Q g L a w:=by
  intro g
  induction g with
  | zero =>
   intro L a w G c q D
   have:=unl_zero G n (by rw[q.size];omega)
   rw[c n (Nat.le_refl _)] at this;cases this
  | succ g ih =>
   intro L a w G c q D
   by_cases f:∀ j,j<n→on L j=true
   ·have m:∀ j,on L j=true↔j<n:=fun j=>⟨fun p=>(by
     rcases Nat.lt_or_ge j n with h|h
     ·exact h
     ·rw[c j h] at p;cases p),f j⟩
    obtain ⟨V,v,B⟩:=q.all
    have O:=q.act R oM m v
    have t:∀ l:List Nat,l=[]→∀ x∈l,on L x=false:=fun l J x hx=>by rw[J] at hx;cases hx
    have r:=I V w (fun j p H=>B j (f j p) (t _ H)) (fun b M=>q.base b (t _ M)) ⟨L,a,D,fun i A=>⟨f i A,fun d hd=>v i d (f i A) hd⟩⟩
    rw[← O] at r
    exact tail_any4 (fun i s y=>chain2_dep u s y) E _ L a w n (Nat.le_refl _) oM q.size m G r
   ·refine ⟨fun I=>?_,fun i A=>?_⟩
    ·exact absurd (fun j p=>q.full R I j oM) f
    ·obtain ⟨s,o,ho,m⟩:=mem_ready.1 A
     have t:=(Array.getElem?_eq_some_iff.1 ho).1
     have B:on L i=false:=by
      unfold on
      rw[Array.getD_eq_getD_getElem?] at s ⊢
      cases hh:L[i]? with
      | none=>rfl
      | some b=>rw[hh] at s;exact s
     have H:i<n:=by
      rcases Nat.lt_or_ge i n with h|h
      ·exact h
      ·exfalso
       rcases Nat.lt_or_ge n i with y|y
       ·have:=dep_ready ho m (chain2_dep u y t)
        rw[c (i-1) oM] at this
        cases this
       ·obtain rfl:i=n:=oM
        refine f fun j p=>?_
        unfold chain2 at u
        rw[Bool.and_eq_true] at u
        have r:=List.all_eq_true.1 u.1 j (List.mem_range.2 p)
        unfold reachB at r
        rw[Bool.or_eq_true] at r
        rcases r with r|r
        ·exact dep_ready ho m r
        ·obtain ⟨x,hx,v⟩:=List.any_eq_true.1 r
         rw[Bool.and_eq_true] at v
         exact reach_on q 4 x j (by have:=List.mem_range.1 hx;omega) (dep_ready ho m v.1) v.2
     refine wpOp_mono (fun z w' r=>ih _ z w' (by have:=unl_set s;omega) (fun j p=>?_) r.1 r.2) (C i o L a w H (fun j p=>?_) ho B m q D)
     ·rw[on_set (by rw[q.size];exact t),c j p]
      simp only[Bool.false_or,beq_eq_false_iff_ne]
      omega
     ·rcases Nat.lt_or_ge j n with h|h
      ·exact h
      ·rw[c j h] at p;cases p
 have c:∀ i,on (Array.replicate ops.size false) i=false:=fun i=>by
  unfold on
  rw[Array.getD_eq_getD_getElem?,Array.getElem?_replicate]
  by_cases h:i<ops.size
  ·rw[if_pos h];rfl
  ·rw[if_neg h];rfl
 refine wp_region_any K (key _ _ a0 _ ?_ (fun j _=>c j) ⟨Array.size_replicate,(fun i o _ h=>by rw[c] at h;cases h),rfl,rfl,fun _ _=>rfl,⟨fun _=>undef,fun i d h=>(by rw[c] at h;cases h),fun i h=>(by rw[c] at h;cases h)⟩,fun b _=>N b⟩ (S _ c))
 unfold unl
 rw[Array.toList_replicate,List.countP_replicate]
 simp
theorem flow_tail2 {id:Nat} (F:Flow) (n:Nat) (q:n<ops.size) (r:chain2 ops n=true) (l:P.follows .mixedOrders=true) (R:RegF P Q F ops a0 n) (p:∀ b,F.B b w.drew)
 (g:∀ (V:Nat→Value) (w':World),(∀ i,i<n→F.kill i=[]→F.R i (V i) w')→(∀ b,F.killB b=[]→F.B b w')→wpList P ops Q (ops.toList.drop n) (putV V (ops.toList.take n) 0 a0) w'):(Code.region id ops true).wp P Q a0 w:=
 flow_tailZ F n (fun _ _=>True) q r l R p (fun _ _=>trivial) (fun k o L a w d c m f j e _=>wpOp_mono (fun _ _ h=>⟨h,trivial⟩) (stepF R d c m f j e)) fun V w' d c _=>g V w' d c
theorem Gw.tail2 {id:Nat} (G:Gw) (n:Nat) (k:(decide (n<ops.size) && chain2 ops n)=true) (f:P.follows .mixedOrders=true) (d:chkF ops a0.tmps.size=true) (h:CertsF P Q G.flow ops a0 0 (ops.toList.take n)) (g:G.B w.drew)
 (b:∀ (V:Nat→Value) (w':World),(∀ i,i<n→G.R i (V i) w')→G.B w'→wpList P ops Q (ops.toList.drop n) (putV V (ops.toList.take n) 0 a0) w'):(Code.region id ops true).wp P Q a0 w:=by
 rw[Bool.and_eq_true,decide_eq_true_eq] at k
 exact flow_tail2 G.flow n k.1 k.2 f (Gw.reg d h) (fun _=>g) fun V w' j c=>b V w' (fun i e=>j i e rfl) (c 0 rfl)
end RG
section
open Go.RowKit Go.Sort Go.Deep
variable {P:Nat} [NeZero P] {N:Nat}
structure FdM (w W:World) (K k4 k5 n i x y:Nat) (f:Nat→List (Nat × Bs)):Prop where
 ls:LsI w W K n i f
 r4:Row W k4 (wn x)
 r5:Row W k5 (wn y)
theorem FdM.grow {w W W':World} {K c b n i x y:Nat} {f:Nat→List (Nat × Bs)} (h:FdM w W K c b n i x y f) (k:Below W.heap.size W W'):FdM w W' K c b n i x y f:=⟨h.ls.grow k,h.r4.below k,h.r5.below k⟩
theorem FdM.drew {w W:World} {K b k n i x y:Nat} {f:Nat→List (Nat × Bs)} (h:FdM w W K b k n i x y f):FdM w W.drew K b k n i x y f:=h.grow ⟨rfl,rfl,rfl,Nat.le_refl _,fun _ _=>rfl⟩
theorem FdM.put {w W:World} {K b k n i x y:Nat} {f:Nat→List (Nat × Bs)} {v:Value} (h:FdM w W K b k n i x y f) (c:i<n) (e:b≠K) (d:k≠K) (hv:SmQ (fun g=>w.heap.size≤g∧g≠K) W v (f i)):FdM w (W.setCells K i [v]) K b k n (i+1) x y f:=
 ⟨h.ls.put c hv,row_set h.r4 e,row_set h.r5 d⟩
theorem fldM_c (O:Ord N) {Q:Nat→Prop} (n:Nat) (hn:n≤500) (c:Nat) (hc:c≤200) (h4:0<c) (a:Nat→List (Nat × Bs)) (x y:Nat) (hx:x<N) (r:y<N) (ha:∀ i,i<n+n→TOk N (a i)∧(a i).length=c) (va:Value) (w:World) (h1:GLq Q w va (n+n) a) :
 Calls Tryz.prog 190 #[va,nv x,nv y] w (Ret fun e w'=>Below w.heap.size w w'∧GLq (w.heap.size≤·) w' e n (fldT N x y n a)):=by
 obtain ⟨b,d,c1,rfl,-,-,hk,h0⟩:=h1
 obtain ⟨m,hm⟩:=hE (n+n)
 have hq:(m:Int).tdiv 2=(n:Int):=by rw[← hm.out,Int.tdiv_eq_ediv_of_nonneg oM];omega
 obtain ⟨F,h2,G,H,I,o⟩:=box2 w x y
 obtain ⟨C0,h8,he⟩:=mkArr uSu iSu n oM
 have h3:=he F
 obtain ⟨K,hK⟩:=hE (F.heap.size)
 obtain ⟨w3,M⟩:=hE (F.alloc (.cells C0.toArray 82))
 have R:Ar F w3 K 1 n 0 (fun _=>[]):=Ar.new _ h8 M.out hK.out
 rw[M.out,hK.out] at h3
 obtain ⟨f,q⟩:=hE (w.heap.size)
 rw[q.out] at H I o
 have HK:Hid (K=f+2∧w.heap.size≤f):=⟨by rw[← hK.out,o],by rw[q.out];exact Nat.le_refl _⟩
 have K1:Hid (FdM w w3 K f (f+1) n 0 x y (fldT N x y n a)):=⟨⟨G.trans (R.bl.mono G.size),R.lt,by have:=R.th;rwa[Nat.one_mul] at this,by have:=HK.out;omega,fun j hj=>absurd hj (Nat.not_lt_zero _)⟩,H.below R.bl,I.below R.bl⟩
 have l:=mk8 O hx r ha h0 hk hc h4
 obtain ⟨vx,X⟩:=hE (nv x)
 obtain ⟨vy,Y⟩:=hE (nv y)
 obtain ⟨S,J⟩:=hE (w.alloc (.cells (wn x).toArray 44))
 have B1:Hid ((Instr.box 44 vx).run Tryz.prog w=.ok (.pointer (some ⟨f,0,none⟩)) S):=by rw[← X.out,← J.out,← q.out];exact boxS x w
 have B2:Hid ((Instr.box 44 vy).run Tryz.prog S=.ok (.pointer (some ⟨f+1,0,none⟩)) F):=by
  have h:=boxS y S
  rw[show S.heap.size=f+1 by rw[← J.out,World.size_alloc,q.out]] at h
  have e:S.alloc (.cells (wn y).toArray 44)=F:=by rw[← J.out];exact h2.out
  rw[e] at h
  rw[← Y.out];exact h
 rw[X.out,Y.out,hm.out]
 clear O hx r ha h0 hk hc h4 G H I o R h8 he hK M q h2
 go_enter Tryz.func190,Tryz.ntmps190
 go_wp2_with (first|(refine wpList_box (u:=vx) (v:=.pointer (some ⟨f,0,none⟩)) (w':=S) rfl 44 (.tmp 1) rfl ?_ ?_ ?_;rfl;exact B1.out)|(refine wpList_box (u:=vy) (v:=.pointer (some ⟨f+1,0,none⟩)) (w':=F) rfl 44 (.tmp 2) rfl ?_ ?_ ?_;rfl;exact B2.out)|fail)
 go_loopg [15] n (fun m s15 W=>∃ i:Nat,i+m=n∧s15=.int .i64 i∧Hid (FdM w W K f (f+1) n i x y (fldT N x y n a)))
 case atStart=>exact ⟨0,oM,rfl,K1⟩
 case round =>
  obtain ⟨i,k7,rfl,KM⟩:=hrel
  by_cases hi:i<n
  ·have k2:(i:Int)<(n:Int):=oM
   have HL:=Hid.mk' hi
   have KP:=KM
   go_wp2_with fail
   obtain ⟨B,hw,k1⟩:=l.2.2.2.2.1 i oM
   obtain ⟨D,hz,o⟩:=l.2.2.2.2.1 (n+i) oM
   have HX:=mk4 hw k1 hz o
   have s:=mk2 (l.2.2.2.1 i oM) (l.2.2.2.1 (n+i) oM)
   have Z:=mk1 (l.2.2.2.2.2.2)
   obtain ⟨C,A⟩:=hE ((a i).map (tmT N x))
   obtain ⟨L,E⟩:=hE ((a (n+i)).map (tmT N y))
   have HQ:Hid (fldT N x y n a i=C++L):=by show _=_;rw[← A.out,← E.out];rfl
   have HY:Hid (C.length=c∧L.length=c∧TOk N C∧TOk N L):=⟨by rw[← A.out,List.length_map];exact s.1.2,by rw[← E.out,List.length_map];exact s.2.2,by rw[← A.out];exact s.1.1.tm l.1.pos x,by rw[← E.out];exact s.2.1.tm l.1.pos y⟩
   have T:=fun (W:World) (k:Below w.heap.size w W)=>sumTimes_c l.1 l.2.1 0 B (a i) (by rw[s.1.2];have:=Z.out;omega) s.1.1.szm s.1.1.lt W (HX.2.1.sm.grow k)
   have h9:=fun (W:World) (k:Below w.heap.size w W)=>sumTimes_c l.1 l.2.2.1 0 D (a (n+i)) (by rw[s.2.2];have:=Z.out;omega) s.2.1.szm s.2.1.lt W (HX.2.2.2.sm.grow k)
   have k3:=fun (W:World) (u v:Value) (hu:Sm 0 W u C) (hv:Sm 0 W v L)=>sumPlusZ_c 0 u v C L (by rw[List.length_append];have:=HY.1;have:=Z.out;omega) (by have:=HY.1;have:=Z.out;omega) (by have:=HY.2.1;have:=Z.out;omega) HY.2.2.1.sz HY.2.2.2.sz W (Or.inr hu) (Or.inr hv)
   rw[A.out] at T
   rw[E.out] at h9
   have k0:∀ W,Below w.heap.size w W→W.cell? ⟨b,d+1*i,none⟩=some B:=fun W k=>by rw[Nat.one_mul,k.cell (p:=⟨b,d+i,none⟩) l.2.2.2.2.2.1];exact HX.1
   have k5:∀ W,Below w.heap.size w W→W.cell? ⟨b,d+1*(n+i),none⟩=some D:=fun W k=>by rw[Nat.one_mul,k.cell (p:=⟨b,d+(n+i),none⟩) l.2.2.2.2.2.1];exact HX.2.2.1
   have k6:i<m:=by rw[← hm.out];omega
   have h7:n+i<m:=by rw[← hm.out];omega
   refine (RG.gwL [RG.pE (.slice (some ⟨K,0,none⟩) n n),RG.pE (.int .i64 i),RG.pE (.slice (some ⟨b,d,none⟩) m c1),RG.pE (.int .i64 i),RG.pE (.pointer (some ⟨b,d+1*i,none⟩)),RG.pE B,RG.pE (.iface 82 B),RG.pE (nv x),RG.pM (fun g=>w.heap.size≤g∧g≠K) C,RG.pI 82 (RG.pM (fun g=>w.heap.size≤g∧g≠K) C),RG.pE (.slice (some ⟨b,d,none⟩) m c1),RG.pE (.slice (some ⟨K,0,none⟩) n n),RG.pE (.int .i64 n),RG.pE (.int .i64 i),RG.pE (.int .i64 ((n+i:Nat):Int)),RG.pE (.pointer (some ⟨b,d+1*(n+i),none⟩)),RG.pE D,RG.pE (.iface 82 D),RG.pE (nv y),RG.pM (fun g=>w.heap.size≤g∧g≠K) L,RG.pM (fun g=>w.heap.size≤g∧g≠K) (C++L),RG.pE (.pointer (some ⟨K,0+1*i,none⟩))] (fun W=>FdM w W K f (f+1) n i x y (fldT N x y n a)) (fun W W' P h=>h.grow P)).last 22 kR kR kR ⟨
    RG.gO 7 (.slice (some ⟨K,0,none⟩) n n),
    RG.gO 8 (.int .i64 i),
    RG.gO 0 (.slice (some ⟨b,d,none⟩) m c1),
    RG.gO 8 (.int .i64 i),
    RG.gw_x 2 20 3 21 (.slice (some ⟨b,d,none⟩) m c1) (.int .i64 i) (.pointer (some ⟨b,d+1*i,none⟩)) (Instr.indexAt 148 (.slice (some ⟨b,d,none⟩) m c1) (.int .i64 i)) (atS b d m c1 i k6) (fun x W h=>h) (fun x W h=>h) (fun _=>rfl),
    RG.gw_l1 82 4 22 b (d+1*i) B uSum (fun x W h=>h) (fun W k=>k0 W k.ls.bl) (fun _=>rfl),
    RG.gw_n 5 23 B (.iface 82 B) (fun x W h=>h) (fun _=>rfl),
    RG.gw_lo 44 4 f 0 (wn x) rSc nSc rfl (fun W k=>k.r4.2.1) (fun _=>rfl),
    RG.gw_iv 82 6 24 7 25 (RG.pE B) 149 (fun x W h=>⟨_,h,rfl⟩) (fun z u W hx r k=>by
     obtain rfl:z=B:=hx
     obtain rfl:u=nv x:=r
     refine (T W k.ls.bl).mono ?_
     rintro e W' ⟨u,rfl,P,U⟩
     exact ⟨_,rfl,P,U.q.mono fun g V=>⟨Nat.le_trans k.ls.bl.size V,by have:=k.ls.lt;omega⟩⟩),
    RG.gw_m 8 26 (fun v=>.iface 82 v) (fun x W h=>⟨x,rfl,h⟩),
    RG.gO 0 (.slice (some ⟨b,d,none⟩) m c1),
    RG.gO 7 (.slice (some ⟨K,0,none⟩) n n),
    RG.gw_n 11 29 (.slice (some ⟨K,0,none⟩) n n) (.int .i64 n) (fun x W h=>h) (fun _=>rfl),
    RG.gO 8 (.int .i64 i),
    RG.gw_bin .add 3 3 30 31 rfl (fun a W hp=>⟨_,_,(.int .i64 ((n+i:Nat):Int)),hp.n 12 30 kR kR,hp.n 13 31 kR kR,kR,addII n i oM W,rfl⟩),
    RG.gw_x 10 28 14 32 (.slice (some ⟨b,d,none⟩) m c1) (.int .i64 ((n+i:Nat):Int)) (.pointer (some ⟨b,d+1*(n+i),none⟩)) (Instr.indexAt 148 (.slice (some ⟨b,d,none⟩) m c1) (.int .i64 ((n+i:Nat):Int))) (atS b d m c1 (n+i) h7) (fun x W h=>h) (fun x W h=>h) (fun _=>rfl),
    RG.gw_l1 82 15 33 b (d+1*(n+i)) D uSum (fun x W h=>h) (fun W k=>k5 W k.ls.bl) (fun _=>rfl),
    RG.gw_n 16 34 D (.iface 82 D) (fun x W h=>h) (fun _=>rfl),
    RG.gw_lo 44 5 (f+1) 0 (wn y) rSc nSc rfl (fun W k=>k.r5.2.1) (fun _=>rfl),
    RG.gw_iv 82 17 35 18 36 (RG.pE D) 149 (fun x W h=>⟨_,h,rfl⟩) (fun z u W hx r k=>by
     obtain rfl:z=D:=hx
     obtain rfl:u=nv y:=r
     refine (h9 W k.ls.bl).mono ?_
     rintro e W' ⟨u,rfl,P,U⟩
     exact ⟨_,rfl,P,U.q.mono fun g V=>⟨Nat.le_trans k.ls.bl.size V,by have:=k.ls.lt;omega⟩⟩),
    RG.gw_iv 82 9 27 19 37 (RG.pM (fun g=>w.heap.size≤g∧g≠K) C) 31 (fun x W h=>h) (fun z u W hx r k=>by
     have hx:=hx
     have r:=r
     refine (k3 W z u hx.sm r.sm).mono ?_
     rintro e W' ⟨u,rfl,P,U⟩
     exact ⟨_,rfl,P,U.q.mono fun g V=>⟨Nat.le_trans k.ls.bl.size V,by have:=k.ls.lt;omega⟩⟩),
    RG.gw_x 0 18 1 19 (.slice (some ⟨K,0,none⟩) n n) (.int .i64 i) (.pointer (some ⟨K,0+1*i,none⟩)) (Instr.indexAt 148 (.slice (some ⟨K,0,none⟩) n n) (.int .i64 i)) (atS K 0 n n i HL.out) (fun x W h=>h) (fun x W h=>h) (fun _=>rfl),trivial⟩ KP.drew ?_
   intro V W3 h6 h5
   have hS:=h6 20 dC
   have hl:=h6 21 dC
   dsimp only[RG.putV,Nat.reduceAdd,List.take,List.drop]
   simp only[Act.put,List.setIfInBounds_toArray,List.set_cons_succ,List.set_cons_zero]
   generalize V 20=vq at hS ⊢
   obtain ⟨W4,U⟩:=hE (W3.setCells K i [vq])
   have K4:Hid (FdM w W4 K f (f+1) n (i+1) x y (fldT N x y n a)):=by
    have h:=h5.put (v:=vq) hi (by have:=HK.out;omega) (by have:=HK.out;omega) (by rw[HQ.out];exact hS)
    rw[U.out] at h
    exact h
   have HT:Hid (W3.there K i 1):=fun t ht=>by
    have hr:t=0:=oM
    subst hr
    have:=h5.ls.th i hi
    rwa[Nat.zero_add] at this
   have HE:=Hid.mk' hS.one
   rw[hl,Nat.zero_add,Nat.one_mul]
   go_wp2_with (first|(refine wpList_st1 rfl 82 _ _ rfl K i vq ?_ ?_ HE.1 HE.2 HT.out iSu1 ?_;rfl;rfl;rw[U.out])|fail)
   go_roundg (gk-1)
   case measure=>omega
   case rel=>exact ⟨i+1,oM,rfl,K4⟩
  ·have k2:¬ (i:Int)<(n:Int):=oM
   obtain rfl:i=n:=oM
   have K4:=mk2 KM.ls.bl KM.ls.gl
   go_wp2
   go_ret
   exact ⟨_,rfl,K4.1,K4.2⟩
structure GOk (N n c:Nat) (G H:Nat→List (Nat × Bs)) (U:List (Nat × Bs)):Prop where
 n0:0<n
 c0:0<c
 cn:c*n≤64
 g:∀ i,i<n→TOk N (G i)∧(G i).length=c
 h:∀ i,i<n→TOk N (H i)∧(H i).length=c
 u:TOk N U
 u0:0<U.length
 u9:U.length≤16
theorem GOk.nle {n c:Nat} {G H:Nat→List (Nat × Bs)} {U:List (Nat × Bs)} (h:GOk N n c G H U):n≤64:=by
 have k:=h.cn
 have:=Nat.mul_le_mul_right n h.c0
 omega
theorem GOk.cle {n c:Nat} {G H:Nat→List (Nat × Bs)} {U:List (Nat × Bs)} (h:GOk N n c G H U):c≤64:=by
 have k:=h.cn
 have:=Nat.mul_le_mul_left c h.n0
 omega
theorem boxG (k c b:Value) (w:World):(Instr.box 150 (.agg #[k,c,b])).run Tryz.prog w=.ok (.pointer (some ⟨w.heap.size,0,none⟩)) (w.alloc (.cells #[k,c,b] 150)):=kR
theorem uGL:(Tryz.prog.underlying 148).map (·.isRow)=some false:=kR
theorem listsG_c (O:Ord N) {Q:Nat→Prop} (n c:Nat) (G H:Nat→List (Nat × Bs)) (U:List (Nat × Bs)) (hG:GOk N n c G H U) (a b:Nat→Nat) (Z:∀ i,i<n→a i<N) (j:∀ i,i<n→b i<N) (v va p:Value) (w:World) (P:GRq Q w v n G H U) (S:SLq Q w va n a) (L:SLq Q w p n b) :
 Calls Tryz.prog 78 #[v,va,p] w (Ret fun e w'=>Below w.heap.size w w'∧Sm w.heap.size w' e (cmbT N a G n++cmbT N b H n)):=by
 obtain ⟨l,m,E,rfl,R,M,-⟩:=P.ex
 have r:=fun (W:World) (d:Below w.heap.size w W)=>cmbM_c O n c hG.n0 hG.c0 (by have:=hG.nle;omega) (by have:=hG.cn;omega) a G Z (fun i f=>(hG.g i f).1) (fun i f=>(hG.g i f).2) va l W (S.keep (Kq.of_below d)) (R.keep (Kq.of_below d))
 have C:=fun (W:World) (d:Below w.heap.size w W)=>cmbM_c O n c hG.n0 hG.c0 (by have:=hG.nle;omega) (by have:=hG.cn;omega) b H j (fun i f=>(hG.h i f).1) (fun i f=>(hG.h i f).2) p m W (L.keep (Kq.of_below d)) (M.keep (Kq.of_below d))
 have l1:(cmbT N a G n).length=c*n:=cmbT_len N a n fun i f=>(hG.g i f).2
 have X:(cmbT N b H n).length=c*n:=cmbT_len N b n fun i f=>(hG.h i f).2
 have t1:TOk N (cmbT N a G n):=cmbT_ok O.pos n fun i f=>(hG.g i f).1
 have t2:TOk N (cmbT N b H n):=cmbT_ok O.pos n fun i f=>(hG.h i f).1
 have Y:=Nat.mul_pos hG.c0 hG.n0
 have h5:=hG.cn
 generalize cmbT N a G n=q at r l1 t1 ⊢
 generalize cmbT N b H n=lb at C X t2 ⊢
 have F:=fun (W:World) (u z:Value) (hu:Sm 0 W u q) (T:Sm 0 W z lb)=>sumPlusZ_c 0 u z q lb (by rw[List.length_append];omega) oM oM t1.sz t2.sz W (Or.inr hu) (Or.inr T)
 have I:=Hid.mk' (And.intro r (And.intro C F))
 obtain ⟨D,A⟩:=hE (w.alloc (.cells #[l,m,E] 150))
 obtain ⟨k,J⟩:=hE (w.heap.size)
 have K:Hid (Row D k [l,m,E]∧Below w.heap.size w D):=by rw[← A.out,← J.out];exact ⟨row_new w _ _,below1 w _⟩
 obtain ⟨v0,s⟩:=hE (Value.agg #[l,m,E])
 have B1:Hid ((Instr.box 150 v0).run Tryz.prog w=.ok (.pointer (some ⟨k,0,none⟩)) D):=by rw[← s.out,← A.out,← J.out];exact boxG _ _ _ _
 rw[s.out]
 go_enter Tryz.func78,Tryz.ntmps78
 go_wp2_with (first|(refine wpList_box (u:=v0) (v:=.pointer (some ⟨k,0,none⟩)) (w':=D) rfl 150 (.tmp 0) rfl ?_ ?_ ?_;rfl;exact B1.out)|fail)
 refine (RG.gwL [RG.pE va,RG.pE (.pointer (some ⟨k,0,none⟩)),RG.pE l,RG.pM (w.heap.size≤·) q,RG.pE p,RG.pE (.pointer (some ⟨k,1,none⟩)),RG.pE m,RG.pM (w.heap.size≤·) lb,RG.pM (w.heap.size≤·) (q++lb),RG.pM (w.heap.size≤·) (q++lb)] (fun W=>Row W k [l,m,E]∧Below w.heap.size w W) (fun W W' j h=>⟨h.1.below j,h.2.trans (j.mono h.2.size)⟩)).draws kR kR ⟨
  RG.gO 1 va,
  RG.gO 3 (.pointer (some ⟨k,0,none⟩)),
  RG.gw_l1 148 1 8 k 0 l uGL (fun x W h=>h) (fun W d=>d.1.2.1 0 _ rfl) (fun _=>rfl),
  RG.gw_c2 0 7 2 9 132 (fun x y=>#[x,y]) (fun x y W hx o d=>by
   obtain rfl:x=va:=hx
   obtain rfl:y=l:=o
   refine (I.1 W d.2).mono ?_
   rintro e W' ⟨u,rfl,j,B⟩
   exact ⟨_,rfl,j,B.q.mono fun g t=>Nat.le_trans d.2.size t⟩),
  RG.gO 2 p,
  RG.gP 3 (.pointer (some ⟨k,0,none⟩)) (.pointer (some ⟨k,1,none⟩)),
  RG.gw_l1 148 5 12 k 1 m uGL (fun x W h=>h) (fun W d=>d.1.2.1 1 _ rfl) (fun _=>rfl),
  RG.gw_c2 4 11 6 13 132 (fun x y=>#[x,y]) (fun x y W hx o d=>by
   obtain rfl:x=p:=hx
   obtain rfl:y=m:=o
   refine (I.2.1 W d.2).mono ?_
   rintro e W' ⟨u,rfl,j,B⟩
   exact ⟨_,rfl,j,B.q.mono fun g t=>Nat.le_trans d.2.size t⟩),
  RG.gw_c2 3 10 7 14 31 (fun x y=>#[x,y]) (fun x y W hx o d=>by
   have hx:=hx
   have o:=o
   refine (I.2.2 W x y hx.sm o.sm).mono ?_
   rintro e W' ⟨u,rfl,j,B⟩
   exact ⟨_,rfl,j,B.q.mono fun g t=>Nat.le_trans d.2.size t⟩),
  RG.gw_m 8 15 id (fun x W h=>h),trivial⟩ ⟨K.1,K.2.drew⟩ ?_
 intro V B hR d
 have o:=mk1 (hR 9 (Nat.lt_of_succ_le (Nat.le_of_ble_eq_true kR)))
 have t:=mk1 (d.2)
 dsimp only[RG.putV,Nat.reduceAdd]
 simp only[Act.put,List.setIfInBounds_toArray,List.set_cons_succ,List.set_cons_zero]
 go_wp2
 go_ret
 exact ⟨_,rfl,t.out,o.out⟩
theorem hideG_c (O:Ord N) {Q:Nat→Prop} (n c:Nat) (G H:Nat→List (Nat × Bs)) (U:List (Nat × Bs)) (hG:GOk N n c G H U) (a b:Nat→Nat) (Z:∀ i,i<n→a i<N) (f:∀ i,i<n→b i<N) (v va m:Value) (w:World) (T:GRq Q w v n G H U) (X:SLq Q w va n a) (R:SLq Q w m n b) :
 Calls Tryz.prog 143 #[v,va,m] w (Ret fun e w'=>Below w.heap.size w w'∧Sm w.heap.size w' e (hidT N a b (prS N a b n) G H U n)):=by
 have D:=fun (W:World) (d:Below w.heap.size w W)=>listsG_c O n c G H U hG a b Z f v va m W (T.keep (Kq.of_below d)) (X.keep (Kq.of_below d)) (R.keep (Kq.of_below d))
 have E:=fun (W:World) (d:Below w.heap.size w W)=>cmbS_c O n (by have:=hG.nle;omega) a b Z f va m W (X.keep (Kq.of_below d)) (R.keep (Kq.of_below d))
 obtain ⟨q,s,j,rfl,-,-,h5⟩:=T.ex
 have l1:(cmbT N a G n).length=c*n:=cmbT_len N a n fun i r=>(hG.g i r).2
 have l2:(cmbT N b H n).length=c*n:=cmbT_len N b n fun i r=>(hG.h i r).2
 have t1:TOk N (cmbT N a G n):=cmbT_ok O.pos n fun i r=>(hG.g i r).1
 have t2:TOk N (cmbT N b H n):=cmbT_ok O.pos n fun i r=>(hG.h i r).1
 have h3:=Nat.mul_pos hG.c0 hG.n0
 have h4:=hG.cn
 unfold hidT
 have pl:=prS_lt O.pos a b n
 have P:=hG.u.tm O.pos (prS N a b n)
 have l3:(U.map (tmT N (prS N a b n))).length≤16:=by rw[List.length_map];exact hG.u9
 generalize prS N a b n=p at E pl P l3 ⊢
 have A:=fun (W:World) (d:Below w.heap.size w W)=>sumTimes_c O pl 0 j U (by have:=hG.u9;omega) hG.u.szm hG.u.lt W (h5.sm.grow d)
 generalize U.map (tmT N p)=I at A P l3 ⊢
 have t4:=t1.app t2
 have l4:(cmbT N a G n++cmbT N b H n).length=c*n+c*n:=by rw[List.length_append,l1,l2]
 generalize cmbT N a G n++cmbT N b H n=l at D t4 l4 ⊢
 have L:=fun (W:World) (u z:Value) (hu:Sm 0 W u l) (M:Sm 0 W z I)=>sumPlusZ_c 0 u z l I (by rw[List.length_append];omega) oM oM t4.sz P.sz W (Or.inr hu) (Or.inr M)
 have K:=Hid.mk' (And.intro D (And.intro E (And.intro A L)))
 obtain ⟨J,C⟩:=hE (w.alloc (.cells #[q,s,j] 150))
 obtain ⟨k,S⟩:=hE (w.heap.size)
 have Y:Hid (Row J k [q,s,j]∧Below w.heap.size w J):=by rw[← C.out,← S.out];exact ⟨row_new w _ _,below1 w _⟩
 obtain ⟨v0,t⟩:=hE (Value.agg #[q,s,j])
 have B1:Hid ((Instr.box 150 v0).run Tryz.prog w=.ok (.pointer (some ⟨k,0,none⟩)) J):=by rw[← t.out,← C.out,← S.out];exact boxG _ _ _ _
 rw[t.out]
 go_enter Tryz.func143,Tryz.ntmps143
 go_wp2_with (first|(refine wpList_box (u:=v0) (v:=.pointer (some ⟨k,0,none⟩)) (w':=J) rfl 150 (.tmp 0) rfl ?_ ?_ ?_;rfl;exact B1.out)|fail)
 refine (RG.gwL [RG.pE (.agg #[q,s,j]),RG.pE va,RG.pE m,RG.pM (w.heap.size≤·) l,RG.pE (.pointer (some ⟨k,2,none⟩)),RG.pE j,RG.pE va,RG.pE m,RG.pE (nv p),RG.pM (w.heap.size≤·) I,RG.pM (w.heap.size≤·) (l++I),RG.pM (w.heap.size≤·) (l++I)] (fun W=>Row W k [q,s,j]∧Below w.heap.size w W) (fun W W' f h=>⟨h.1.below f,h.2.trans (f.mono h.2.size)⟩)).draws kR kR ⟨
  RG.gw_lo 150 3 k 0 [q,s,j] uGr iGr rfl (fun W d=>d.1.2.1) (fun _=>rfl),
  RG.gO 1 va,
  RG.gO 2 m,
  RG.gw_c3 0 7 1 8 2 9 78 (fun x y z=>#[x,y,z]) (fun x y z W hx o M d=>by
   obtain rfl:x=.agg #[q,s,j]:=hx
   obtain rfl:y=va:=o
   obtain rfl:z=m:=M
   refine (K.1 W d.2).mono ?_
   rintro e W' ⟨u,rfl,f,F⟩
   exact ⟨_,rfl,f,F.q.mono fun g B=>Nat.le_trans d.2.size B⟩),
  RG.gP 3 (.pointer (some ⟨k,0,none⟩)) (.pointer (some ⟨k,2,none⟩)),
  RG.gw_l1 82 4 11 k 2 j uSum (fun x W h=>h) (fun W d=>d.1.2.1 2 _ rfl) (fun _=>rfl),
  RG.gO 1 va,
  RG.gO 2 m,
  RG.gw_c2 6 13 7 14 87 (fun x y=>#[x,y]) (fun x y W hx o d=>by
   obtain rfl:x=va:=hx
   obtain rfl:y=m:=o
   refine (K.2.1 W d.2).mono ?_
   rintro e W' ⟨u,rfl,f,rfl⟩
   exact ⟨_,rfl,f,rfl⟩),
  RG.gw_c2 5 12 8 15 149 (fun x y=>#[x,y]) (fun x y W hx o d=>by
   obtain rfl:x=j:=hx
   obtain rfl:y=nv p:=o
   refine (K.2.2.1 W d.2).mono ?_
   rintro e W' ⟨u,rfl,f,F⟩
   exact ⟨_,rfl,f,F.q.mono fun g B=>Nat.le_trans d.2.size B⟩),
  RG.gw_c2 3 10 9 16 31 (fun x y=>#[x,y]) (fun x y W hx o d=>by
   have hx:=hx
   have o:=o
   refine (K.2.2.2 W x y hx.sm o.sm).mono ?_
   rintro e W' ⟨u,rfl,f,F⟩
   exact ⟨_,rfl,f,F.q.mono fun g B=>Nat.le_trans d.2.size B⟩),
  RG.gw_m 10 17 id (fun x W h=>h),trivial⟩ ⟨Y.1,Y.2.drew⟩ ?_
 intro V F hR d
 have o:=mk1 (hR 11 (Nat.lt_of_succ_le (Nat.le_of_ble_eq_true kR)))
 have B:=mk1 (d.2)
 dsimp only[RG.putV,Nat.reduceAdd]
 simp only[Act.put,List.setIfInBounds_toArray,List.set_cons_succ,List.set_cons_zero]
 go_wp2
 go_ret
 exact ⟨_,rfl,B.out,o.out⟩
end
namespace RG
open Go Go.RowKit
variable {P:Program} {ops:Array Oper} {Q:Exit→Act→World→Prop} {w:World} {a0:Act} {G:Gw} {S:World→World→Prop} {m k:Nat} {o:Oper}
def Gw.st (G:Gw) (m:Nat) (S:World→World→Prop):Flow:=⟨G.R,fun _=>G.B,fun i w w'=>(i=m∧S w w')∨Below w.heap.size w w',fun _=>[],fun _=>[]⟩
theorem st_c (h:CertF P Q G.flow ops a0 k o):CertF P Q (G.st m S) ops a0 k o:=fun a w K e b c d=>h a w K e b c fun v w' hE hR=>d v w' (Or.inr hE) hR
theorem st_v (h:∀ (a:Act) (w:World),PreG G ops a0 m o a w→∃ w',(execOp a.eval o).run P w=.ok .skip w'∧S w w'∧G.R m undef w'):CertF P Q (G.st m S) ops a0 m o:=by
 intro a w K i b g k
 obtain ⟨w',c,f,hR⟩:=h a w ⟨fun j d e hd=>i j d e rfl hd,b,g 0 rfl⟩
 unfold Oper.wp
 rw[c]
 exact k _ _ (Or.inl ⟨rfl,f⟩) hR
theorem Gw.tailS {id:Nat} (G:Gw) (m:Nat) (S:World→World→Prop) (n:Nat) (f:∀ j v w w',j≠m→S w w'→G.R j v w→G.R j v w') (c:∀ w w',S w w'→G.B w→G.B w') (o:(decide (n<ops.size) && chain2 ops n)=true) (r:P.follows .mixedOrders=true) (t:chkF ops a0.tmps.size=true) (h:CertsF P Q (G.st m S) ops a0 0 (ops.toList.take n)) (k:G.B w.drew)
 (q:∀ (V:Nat→Value) (w':World),(∀ i,i<n→G.R i (V i) w')→G.B w'→wpList P ops Q (ops.toList.drop n) (putV V (ops.toList.take n) 0 a0) w'):(Code.region id ops true).wp P Q a0 w:=by
 rw[Bool.and_eq_true,decide_eq_true_eq] at o
 refine flow_tail2 (G.st m S) n o.1 o.2 r ⟨t,certs_but h,fun i j _ _ g _ _ v w w' hE hR=>?_,fun i b _ _ w w' hE k=>?_⟩ (fun _=>k) fun V w' s p=>q V w' (fun i l=>s i l rfl) (p 0 rfl)
 ·rcases hE with ⟨l,d⟩|hE
  ·exact f j v w w' (fun e=>g (l.trans e.symm)) d hR
  ·exact G.sR j v w w' hE hR
 ·rcases hE with ⟨-,d⟩|hE
  ·exact c w w' d k
  ·exact G.sB w w' hE k
end RG
section
open Go.RowKit Go.Sort Go.Deep
variable {P:Nat} [NeZero P] {N:Nat}
theorem results_cc {P:Program} {m:Func} {tmps:Array Value} {W:World} {k e:Nat} {vs us:List Value} (t f:Tmp) (T c:TypeId) (s:m.results=#[.cell t T,.cell f c]) (h:Row W k vs) (o:Row W e us) (w:tmps[t]? = some (.pointer (some ⟨k,0,none⟩))) (j:tmps[f]? = some (.pointer (some ⟨e,0,none⟩)))
 (l:(P.underlying T).map (·.isRow)=some true) (u:(P.info? T).map (·.size)=some vs.length) (b:(P.underlying c).map (·.isRow)=some true) (i:(P.info? c).map (·.size)=some us.length):(results m tmps).run P W=.ok (.tuple #[.agg vs.toArray,.agg us.toArray]) W:=by
 obtain ⟨d,l,hd⟩:=Option.map_eq_some_iff.1 l
 obtain ⟨v,b,g⟩:=Option.map_eq_some_iff.1 b
 have r:=run_loadVar_mid (P:=P) W k 0 T vs d h.2.1 l hd u
 have q:=run_loadVar_mid (P:=P) W e 0 c us v o.2.1 b g i
 have n:tmps.getD t undef=.pointer (some ⟨k,0,none⟩):=by rw[Array.getD_eq_getD_getElem?,w];rfl
 have p:tmps.getD f undef=.pointer (some ⟨e,0,none⟩):=by rw[Array.getD_eq_getD_getElem?,j];rfl
 unfold results
 rw[s]
 simp only[Array.mapM_eq_mapM_toList,List.mapM_cons,List.mapM_nil,n,p,asAddr]
 simp[Sem.run_bind,r,q]
section
variable {P:Program} {ops:Array Oper} {rest:List Oper} {op:Oper} {a:Act} {w w':World} {v:Value} {Q:Exit→Act→World→Prop}
theorem wpList_al (k:op.guard=none) (T:TypeId) (t:Tmp) (_:op.op=.alloc T) (_:op.dst=some t) (b:(execOp a.eval op).run P w=.ok (.value v) w') (h:wpList P ops Q rest (a.put op.dst v) w'):wpList P ops Q (op :: rest) a w:=
 wpList_plain k fun K c=>by
  unfold Oper.wp
  rw[b]
  exact c _ _ h
end
theorem addQ0 (g o j:Nat):(⟨g,o,none⟩:Addr).add j=⟨g,o+j,none⟩:=by
 unfold Addr.add
 by_cases k:j=0
 ·subst k;rw[if_pos rfl];rfl
 ·rw[if_neg k]
theorem slM_hi (b o n c k:Nat) (e:k≤c) (w:World):(Instr.sliceAt 148 (.slice (some ⟨b,o,none⟩) n c) none (some (.int .i64 k)) none).run Tryz.prog w=.ok (.slice (some ⟨b,o,none⟩) k c) w:=by
 have f:¬ (k:Int)<0:=oM
 have d:(k:Int)≤(c:Int):=oM
 go_simp
theorem slM_lo (b o n c k:Nat) (f:k<n) (g:n≤c) (w:World):(Instr.sliceAt 148 (.slice (some ⟨b,o,none⟩) n c) (some (.int .i64 k)) none none).run Tryz.prog w=.ok (.slice (some ⟨b,o+k,none⟩) (n-k) (c-k)) w:=by
 have i:¬ (k:Int)<0:=oM
 have d:(k:Int)≤(n:Int):=oM
 have j:¬ c=k:=oM
 have e:=addQ0 b o (1*k)
 rw[Nat.one_mul] at e
 go_simp
theorem slS_hi (b o n c k:Nat) (e:k≤c) (w:World):(Instr.sliceAt 143 (.slice (some ⟨b,o,none⟩) n c) none (some (.int .i64 k)) none).run Tryz.prog w=.ok (.slice (some ⟨b,o,none⟩) k c) w:=by
 have f:¬ (k:Int)<0:=oM
 have d:(k:Int)≤(c:Int):=oM
 go_simp
theorem slS_lo (b o n c k:Nat) (f:k<n) (g:n≤c) (w:World):(Instr.sliceAt 143 (.slice (some ⟨b,o,none⟩) n c) (some (.int .i64 k)) none none).run Tryz.prog w=.ok (.slice (some ⟨b,o+k*4,none⟩) (n-k) (c-k)) w:=by
 have i:¬ (k:Int)<0:=oM
 have d:(k:Int)≤(n:Int):=oM
 have j:¬ c=k:=oM
 have e:=addQ0 b o (k*4)
 rw[Nat.mul_comm] at e
 rw[Nat.mul_comm k 4]
 go_simp
theorem GLq.high {Q:Nat→Prop} {W:World} {g o n c:Nat} {T:Nat→List (Nat × Bs)} (h:GLq Q W (.slice (some ⟨g,o,none⟩) (n+n) c) (n+n) T):GLq Q W (.slice (some ⟨g,o+n,none⟩) n (c-n)) n (fun i=>T (n+i)):=by
 obtain ⟨r,p,s,e,m,k,l,d⟩:=h
 injection e with e1 e2 e3
 injection e1 with e1
 injection e1 with e1 e4
 subst e1 e3 e4
 refine ⟨g,o+n,c-n,rfl,oM,k,l,fun j q=>?_⟩
 obtain ⟨x,f,b⟩:=d (n+j) oM
 exact ⟨x,by rw[Nat.add_assoc];exact f,b⟩
theorem GLq.low {Q:Nat→Prop} {W:World} {g o n c:Nat} {T:Nat→List (Nat × Bs)} (h:GLq Q W (.slice (some ⟨g,o,none⟩) (n+n) c) (n+n) T):GLq Q W (.slice (some ⟨g,o,none⟩) n c) n T:=by
 obtain ⟨i,m,l,e,p,k,d,b⟩:=h
 injection e with e1 e2 e3
 injection e1 with e1
 injection e1 with e1 e4
 subst e1 e3 e4
 exact ⟨g,o,c,rfl,oM,k,d,fun j f=>b j oM⟩
theorem SLq.high {Q:Nat→Prop} {W:World} {g o n c:Nat} {T:Nat→Nat} (h:SLq Q W (.slice (some ⟨g,o,none⟩) (n+n) c) (n+n) T):SLq Q W (.slice (some ⟨g,o+n*4,none⟩) n (c-n)) n (fun i=>T (n+i)):=by
 obtain ⟨p,l,q,e,f,k,d,b⟩:=h
 injection e with e1 e2 e3
 injection e1 with e1
 injection e1 with e1 e4
 subst e1 e3 e4
 refine ⟨g,o+n*4,c-n,rfl,oM,k,d,fun j m=>?_⟩
 have:=b (n+j) oM
 rw[show o+4*(n+j)=o+n*4+4*j by omega] at this
 exact this
theorem SLq.low {Q:Nat→Prop} {W:World} {g o n c:Nat} {T:Nat→Nat} (h:SLq Q W (.slice (some ⟨g,o,none⟩) (n+n) c) (n+n) T):SLq Q W (.slice (some ⟨g,o,none⟩) n c) n T:=by
 obtain ⟨i,m,l,e,p,k,d,b⟩:=h
 injection e with e1 e2 e3
 injection e1 with e1
 injection e1 with e1 e4
 subst e1 e3 e4
 exact ⟨g,o,c,rfl,oM,k,d,fun j f=>b j oM⟩
def CrR (Q:Nat→Prop) (w:World) (n:Nat) (G H:Nat→List (Nat × Bs)) (U:List (Nat × Bs)) (e:Value) (w':World):Prop:=Below w.heap.size w w'∧∃ b k,e=.tuple #[.agg b,.agg k]∧b.size=3∧k.size=3∧b.all (·.oneCell')=true∧k.all (·.oneCell')=true∧GRq Q w' (.agg b) n (fun i=>G (n+i)) H U∧GRq Q w' (.agg k) n G (fun i=>H (n+i)) U
theorem crossed_c {Q:Nat→Prop} (n:Nat) (he:0<n) (hn:n≤500) (G H:Nat→List (Nat × Bs)) (U:List (Nat × Bs)) (v:Value) (w:World) (h0:GRq Q w v (n+n) G H U) :
 Calls Tryz.prog 142 #[v] w (Ret (CrR Q w n G H U)):=by
 obtain ⟨vg,vh,b,rfl,h3,h4,h5⟩:=h0.ex
 obtain ⟨c,d,c1,rfl,h8,-⟩:=id h3
 obtain ⟨f,g,c2,rfl,h9,-⟩:=id h4
 obtain ⟨g3,c3,rfl,-⟩:=id h5
 have O:Hid (GLq Q w (.slice (some ⟨c,d+n,none⟩) n (c1-n)) n (fun i=>G (n+i))∧GLq Q w (.slice (some ⟨f,g,none⟩) n c2) n H∧GLq Q w (.slice (some ⟨c,d,none⟩) n c1) n G∧GLq Q w (.slice (some ⟨f,g+n,none⟩) n (c2-n)) n (fun i=>H (n+i))∧SmQ Q w (.slice (some ⟨g3,0,none⟩) U.length c3) U):=⟨h3.high,h4.low,h3.low,h4.high,h5⟩
 have y:=slM_lo c d (n+n) c1 n oM h8
 have C:=slM_hi f g (n+n) c2 n oM
 have E:=slM_hi c d (n+n) c1 n oM
 have t:=slM_lo f g (n+n) c2 n oM h9
 rw[Nat.add_sub_cancel] at y t
 obtain ⟨m,hm⟩:∃ m,Hid (n+n=m):=⟨_,rfl⟩
 have hq:(m:Int).tdiv 2=(n:Int):=by rw[← hm.out,Int.tdiv_eq_ediv_of_nonneg oM];omega
 rw[hm.out] at y C E t
 rw[hm.out]
 obtain ⟨b,q⟩:∃ v,Hid (Value.slice (some ⟨g3,0,none⟩) U.length c3=v):=⟨_,rfl⟩
 have h7:b.oneCell'=true:=by rw[← q.out];rfl
 rw[q.out] at O
 rw[q.out]
 obtain ⟨k,R⟩:∃ k,Hid (w.heap.size=k):=⟨_,rfl⟩
 obtain ⟨B,z⟩:∃ B,Hid (w.alloc (.cells #[.slice (some ⟨c,d,none⟩) m c1,.slice (some ⟨f,g,none⟩) m c2,b] 150)=B):=⟨_,rfl⟩
 obtain ⟨P,L⟩:∃ P,Hid (B.alloc (.cells #[.slice none 0 0,.slice none 0 0,.slice none 0 0] 150)=P):=⟨_,rfl⟩
 obtain ⟨F,Z⟩:∃ F,Hid (P.alloc (.cells #[.slice none 0 0,.slice none 0 0,.slice none 0 0] 150)=F):=⟨_,rfl⟩
 have h6:P.heap.size=k+2:=by rw[← L.out,World.size_alloc,← z.out,World.size_alloc,R.out]
 have D:B.heap.size=k+1:=by rw[← z.out,World.size_alloc,R.out]
 have I:Hid (Below w.heap.size w F∧Row F k [.slice (some ⟨c,d,none⟩) m c1,.slice (some ⟨f,g,none⟩) m c2,b]∧Row F (k+1) [.slice none 0 0,.slice none 0 0,.slice none 0 0]∧Row F (k+2) [.slice none 0 0,.slice none 0 0,.slice none 0 0]):=by
  have b1:Below w.heap.size w B:=by rw[← z.out];exact below1 _ _
  have p:Row B k [.slice (some ⟨c,d,none⟩) m c1,.slice (some ⟨f,g,none⟩) m c2,b]:=by rw[← z.out,← R.out];exact row_new w _ _
  have l:=row_new B [.slice none 0 0,.slice none 0 0,.slice none 0 0] 150
  have o:=row_new (B.alloc (.cells #[.slice none 0 0,.slice none 0 0,.slice none 0 0] 150)) [.slice none 0 0,.slice none 0 0,.slice none 0 0] 150
  rw[World.size_alloc,D] at o
  rw[D] at l
  rw[← Z.out,← L.out]
  exact ⟨(b1.alloc b1.size _).alloc (by rw[World.size_alloc];have:=b1.size;omega) _,(p.alloc _).alloc _,l.alloc _,o⟩
 obtain ⟨v0,Y⟩:∃ v,Hid (Value.agg #[.slice (some ⟨c,d,none⟩) m c1,.slice (some ⟨f,g,none⟩) m c2,b]=v):=⟨_,rfl⟩
 have B1:Hid ((Instr.box 150 v0).run Tryz.prog w=.ok (.pointer (some ⟨k,0,none⟩)) B):=by rw[← Y.out,← z.out,← R.out];exact boxG _ _ _ _
 rw[Y.out]
 have HK:Hid (w.heap.size=k):=R
 have HV:Hid (b.oneCell'=true):=h7
 have HZ:Hid (B.heap.size=k+1∧P.heap.size=k+2):=⟨D,h6⟩
 have cK:F.cell? ⟨k,0,none⟩=some (.slice (some ⟨c,d,none⟩) m c1):=I.2.1.2.1 0 _ rfl
 clear h0 h3 h4 h5 h8 h9 h7 R D h6
 go_enter Tryz.func142,Tryz.ntmps142
 go_wp2_with (first|(refine wpList_box (u:=v0) (v:=.pointer (some ⟨k,0,none⟩)) (w':=B) rfl 150 (.tmp 0) rfl ?_ ?_ ?_;rfl;exact B1.out)|(refine wpList_al (v:=.pointer (some ⟨k+1,0,none⟩)) (w':=P) rfl 150 2 rfl rfl ?_ ?_;(rw[← L.out,← HZ.1];kernel_rfl))|(refine wpList_al (v:=.pointer (some ⟨k+2,0,none⟩)) (w':=F) rfl 150 3 rfl rfl ?_ ?_;(rw[← Z.out,← HZ.2];kernel_rfl))|fail)
 clear cK hq
 obtain ⟨S,hc⟩:∃ s,Hid (Value.slice (some ⟨c,d,none⟩) m c1=s):=⟨_,rfl⟩
 obtain ⟨sh,ha⟩:∃ s,Hid (Value.slice (some ⟨f,g,none⟩) m c2=s):=⟨_,rfl⟩
 rw[hc.out] at y E I
 rw[ha.out] at C t I
 obtain ⟨p,M⟩:∃ e,Hid ((#[.slice (some ⟨c,d+n,none⟩) n (c1-n),.slice (some ⟨f,g,none⟩) n c2,b]:Array Value)=e):=⟨_,rfl⟩
 obtain ⟨A,K⟩:∃ e,Hid ((#[.slice (some ⟨c,d,none⟩) n c1,.slice (some ⟨f,g+n,none⟩) n (c2-n),b]:Array Value)=e):=⟨_,rfl⟩
 have r:Hid (p.size=3∧A.size=3∧p.all (·.oneCell')=true∧A.all (·.oneCell')=true):=by
  rw[← M.out,← K.out,← q.out]
  exact ⟨rfl,rfl,kR,kR⟩
 have HI:Hid ((Tryz.prog.info? 150).map (·.size)=some p.size∧(Tryz.prog.info? 150).map (·.size)=some A.size∧(Tryz.prog.info? 150).map (·.size)=some p.toList.length∧(Tryz.prog.info? 150).map (·.size)=some A.toList.length):=by
  rw[Array.length_toList,Array.length_toList,r.1,r.2.1]
  exact ⟨iGr,iGr,iGr,iGr⟩
 refine (RG.gwL [RG.pE (.pointer (some ⟨k,0,none⟩)),RG.pE S,RG.pE (.int .i64 n),RG.pE (.slice (some ⟨c,d+n,none⟩) n (c1-n)),RG.pE (.pointer (some ⟨k,1,none⟩)),RG.pE sh,RG.pE (.int .i64 n),RG.pE (.slice (some ⟨f,g,none⟩) n c2),RG.pE (.pointer (some ⟨k,2,none⟩)),RG.pE b,RG.pE (.agg #[.slice (some ⟨c,d+n,none⟩) n (c1-n),.slice (some ⟨f,g,none⟩) n c2,b]),
  RG.pE (.pointer (some ⟨k,0,none⟩)),RG.pE S,RG.pE (.int .i64 n),RG.pE (.slice (some ⟨c,d,none⟩) n c1),RG.pE (.pointer (some ⟨k,1,none⟩)),RG.pE sh,RG.pE (.int .i64 n),RG.pE (.slice (some ⟨f,g+n,none⟩) n (c2-n)),RG.pE (.pointer (some ⟨k,2,none⟩)),RG.pE b,RG.pE (.agg #[.slice (some ⟨c,d,none⟩) n c1,.slice (some ⟨f,g+n,none⟩) n (c2-n),b]),⟨fun _ W=>Row W (k+1) p.toList,fun _ _ _ J h=>h.below J⟩] (fun W=>Below w.heap.size w W∧Row W k [S,sh,b]∧(k+1<W.heap.size∧W.there (k+1) 0 3)∧Row W (k+2) [.slice none 0 0,.slice none 0 0,.slice none 0 0]) (fun W W' J h=>⟨h.1.trans (J.mono h.1.size),h.2.1.below J,⟨Nat.lt_of_lt_of_le h.2.2.1.1 J.size,RG.there_below h.2.2.1.2 J h.2.2.1.1⟩,h.2.2.2.below J⟩)).tailS 22 (fun W W'=>W'=W.setCells (k+1) 0 p.toList) 23 (fun j v W W' N T hR=>by
  subst T
  match j,hR,N with
  | 0,hR,_=>exact hR
  | 1,hR,_=>exact hR
  | 2,hR,_=>exact hR
  | 3,hR,_=>exact hR
  | 4,hR,_=>exact hR
  | 5,hR,_=>exact hR
  | 6,hR,_=>exact hR
  | 7,hR,_=>exact hR
  | 8,hR,_=>exact hR
  | 9,hR,_=>exact hR
  | 10,hR,_=>exact hR
  | 11,hR,_=>exact hR
  | 12,hR,_=>exact hR
  | 13,hR,_=>exact hR
  | 14,hR,_=>exact hR
  | 15,hR,_=>exact hR
  | 16,hR,_=>exact hR
  | 17,hR,_=>exact hR
  | 18,hR,_=>exact hR
  | 19,hR,_=>exact hR
  | 20,hR,_=>exact hR
  | 21,hR,_=>exact hR
  | 22,_,N=>exact absurd rfl N
  | _+23,_,_=>trivial) (fun W W' T h=>by subst T;exact ⟨RG.below_setCells (by rw[HK.out];omega) _ _ _ h.1,row_set h.2.1 oM,⟨by rw[RG.setCells_size];exact h.2.2.1.1,World.there_setCells h.2.2.1.2 _ _ _⟩,row_set h.2.2.2 oM⟩) kR kR kR ⟨
  RG.st_c (RG.gO 1 (.pointer (some ⟨k,0,none⟩))),
  RG.st_c (RG.gw_l1 148 0 9 k 0 S uGL (fun x W h=>h) (fun W l=>l.2.1.2.1 0 _ rfl) (fun _=>rfl)),
  RG.st_c (RG.gO 4 (.int .i64 n)),
  RG.st_c (RG.gX 1 10 2 11 y),
  RG.st_c (RG.gP 1 (.pointer (some ⟨k,0,none⟩)) (.pointer (some ⟨k,1,none⟩))),
  RG.st_c (RG.gw_l1 148 4 13 k 1 sh uGL (fun x W h=>h) (fun W l=>l.2.1.2.1 1 _ rfl) (fun _=>rfl)),
  RG.st_c (RG.gO 4 (.int .i64 n)),
  RG.st_c (RG.gX 5 14 6 15 C),
  RG.st_c (RG.gP 1 (.pointer (some ⟨k,0,none⟩)) (.pointer (some ⟨k,2,none⟩))),
  RG.st_c (RG.gw_l1 82 8 17 k 2 b uSum (fun x W h=>h) (fun W l=>l.2.1.2.1 2 _ rfl) (fun _=>rfl)),
  RG.st_c (RG.gw_v [(12,.slice (some ⟨c,d+n,none⟩) n (c1-n)),(16,.slice (some ⟨f,g,none⟩) n c2),(18,b)] (.agg #[.slice (some ⟨c,d+n,none⟩) n (c1-n),.slice (some ⟨f,g,none⟩) n c2,b]) (fun a W o=>⟨o.n 3 12 kR kR,o.n 7 16 kR kR,o.n 9 18 kR kR,trivial⟩) (fun _=>rfl) (fun W=>by
   rw[← q.out]
   kernel_rfl)),
  RG.st_c (RG.gO 1 (.pointer (some ⟨k,0,none⟩))),
  RG.st_c (RG.gw_l1 148 11 20 k 0 S uGL (fun x W h=>h) (fun W l=>l.2.1.2.1 0 _ rfl) (fun _=>rfl)),
  RG.st_c (RG.gO 4 (.int .i64 n)),
  RG.st_c (RG.gX 12 21 13 22 E),
  RG.st_c (RG.gP 1 (.pointer (some ⟨k,0,none⟩)) (.pointer (some ⟨k,1,none⟩))),
  RG.st_c (RG.gw_l1 148 15 24 k 1 sh uGL (fun x W h=>h) (fun W l=>l.2.1.2.1 1 _ rfl) (fun _=>rfl)),
  RG.st_c (RG.gO 4 (.int .i64 n)),
  RG.st_c (RG.gX 16 25 17 26 t),
  RG.st_c (RG.gP 1 (.pointer (some ⟨k,0,none⟩)) (.pointer (some ⟨k,2,none⟩))),
  RG.st_c (RG.gw_l1 82 19 28 k 2 b uSum (fun x W h=>h) (fun W l=>l.2.1.2.1 2 _ rfl) (fun _=>rfl)),
  RG.st_c (RG.gw_v [(23,.slice (some ⟨c,d,none⟩) n c1),(27,.slice (some ⟨f,g+n,none⟩) n (c2-n)),(29,b)] (.agg #[.slice (some ⟨c,d,none⟩) n c1,.slice (some ⟨f,g+n,none⟩) n (c2-n),b]) (fun a W o=>⟨o.n 14 23 kR kR,o.n 18 27 kR kR,o.n 20 29 kR kR,trivial⟩) (fun _=>rfl) (fun W=>by
   rw[← q.out]
   kernel_rfl)),
  RG.st_v fun a W o=>⟨_,by
   have V:a.eval (.tmp 19)=.agg p:=by
    have:=o.n 10 19 kR kR
    rw[← M.out];exact this
   have h2:a.eval (.tmp 2)=.pointer (some ⟨k+1,0,none⟩):=(o.o 2 kR).trans rfl
   have X:W.there (k+1) 0 p.size:=by rw[r.1];exact o.b.2.2.1.2
   unfold execOp
   simp only[V,h2,Instr.storeAt,Instr.sureAddr,Sem.run_bind,Sem.run_pure,Result.andThen_ok,run_storeVar_mid W (k+1) 0 150 p X HI.1 r.2.2.1],rfl,⟨by rw[RG.setCells_size];exact o.b.2.2.1.1,World.rangeAt_setCells_same W (k+1) 0 p.toList (by rw[Array.length_toList,r.1];exact o.b.2.2.1.2),World.there_setCells (by rw[Array.length_toList,r.1];exact o.b.2.2.1.2) _ _ _⟩⟩,trivial⟩ ⟨I.1.drew,I.2.1,⟨I.2.2.1.1,I.2.2.1.2.2⟩,I.2.2.2⟩ ?_
 intro V w3 hR l
 have o:V 21=.agg #[.slice (some ⟨c,d,none⟩) n c1,.slice (some ⟨f,g+n,none⟩) n (c2-n),b]:=hR 21 dC
 have J:Row w3 (k+1) p.toList:=hR 22 dC
 rw[K.out] at o
 obtain ⟨N,X⟩:∃ N,Hid (w3.setCells (k+2) 0 A.toList=N):=⟨_,rfl⟩
 have K5:Hid (Row N (k+1) p.toList∧Row N (k+2) A.toList∧Below w.heap.size w N):=by
  rw[← X.out]
  exact ⟨row_set J oM,l.2.2.2.put (by rw[Array.length_toList,r.2.1];rfl),RG.below_setCells (by rw[HK.out];omega) _ _ _ l.1⟩
 have HT:Hid (w3.there (k+2) 0 A.size):=by
  rw[r.2.1]
  exact l.2.2.2.2.2
 have HP:Hid (CrR Q w n G H U (.tuple #[.agg p.toList.toArray,.agg A.toList.toArray]) N):=by
  have kq:∀ {Q:Nat→Prop},Kq Q w N:=Kq.of_below K5.2.2
  refine ⟨K5.2.2,p,A,rfl,r.1,r.2.1,r.2.2.1,r.2.2.2,?_,?_⟩
  ·rw[← M.out];exact ⟨_,_,_,rfl,O.1.keep kq,O.2.1.keep kq,O.2.2.2.2.keep kq⟩
  ·rw[← K.out];exact ⟨_,_,_,rfl,O.2.2.1.keep kq,O.2.2.2.1.keep kq,O.2.2.2.2.keep kq⟩
 dsimp only[RG.putV,Nat.reduceAdd,List.take,List.drop]
 simp only[Act.put,List.setIfInBounds_toArray,List.set_cons_succ,List.set_cons_zero]
 obtain ⟨x2,T⟩:∃ x,Hid (Value.agg A=x):=⟨_,rfl⟩
 rw[o,T.out]
 clear hR l o J y C E t
 generalize V 0=s0
 generalize V 1=s1
 generalize V 2=s2
 generalize V 3=s3
 generalize V 4=s4
 generalize V 5=s5
 generalize V 6=s6
 generalize V 7=s7
 generalize V 8=s8
 generalize V 9=s9
 generalize V 10=s10
 generalize V 11=s11
 generalize V 12=s12
 generalize V 13=s13
 generalize V 14=s14
 generalize V 15=s15
 generalize V 16=s16
 generalize V 17=s17
 generalize V 18=s18
 generalize V 19=s19
 generalize V 20=s20
 go_wp2_with (first|(refine wpList_store_mid rfl 150 (.tmp 3) _ rfl (k+2) 0 A ?_ ?_ ?_ ?_ ?_ ?_;rfl;exact T.symm;exact HT.out;exact HI.2.1;exact r.2.2.2;rw[X.out])|fail)
 refine bodyPost_ret (results_cc 2 3 150 150 rfl K5.1 K5.2.1 rfl rfl uGr HI.2.2.1 uGr HI.2.2.2) rfl ?_
 exact ⟨_,rfl,HP.out⟩
end
section
open Go.RowKit Go.Sort Go.Deep
variable {P:Nat} [NeZero P] {N:Nat}
theorem GRq.ar {Q:Nat→Prop} {W:World} {v:Value} {n:Nat} {G H:Nat→List (Nat × Bs)} {U:List (Nat × Bs)} (h:GRq Q W v n G H U):∃ e:Array Value,v=.agg e∧e.size=3∧e.all (·.oneCell')=true:=by
 obtain ⟨d,j,i,rfl,⟨k,f,c1,rfl,-⟩,⟨c,g,c2,rfl,-⟩,⟨l,b,rfl,-⟩⟩:=h.ex
 exact ⟨_,rfl,rfl,kR⟩
structure FgI (w W:World) (k x xi:Nat) (vg vh vu:Value):Prop where
 bl:Below w.heap.size w W
 r2:Row W k [vg,vh,vu]
 r3:Row W (k+1) (wn x)
 r4:Row W (k+2) [.slice none 0 0,.slice none 0 0,.slice none 0 0]
theorem FgI.grow {w W W':World} {k x c:Nat} {e d f:Value} (h:FgI w W k x c e d f) (b:Below W.heap.size W W'):FgI w W' k x c e d f:=⟨h.bl.trans (b.mono h.bl.size),h.r2.below b,h.r3.below b,h.r4.below b⟩
theorem FgI.drew {w W:World} {k x b:Nat} {d c e:Value} (h:FgI w W k x b d c e):FgI w W.drew k x b d c e:=h.grow ⟨rfl,rfl,rfl,Nat.le_refl _,fun _ _=>rfl⟩
theorem foldG_c (O:Ord N) {Q:Nat→Prop} (n c:Nat) (hu:0<n) (G H:Nat→List (Nat × Bs)) (U:List (Nat × Bs)) (hG:GOk N (n+n) c G H U) (x:Nat) (hx:x<N) (v:Value) (w:World) (hQ:∀ g,w.heap.size≤g→Q g) (h0:GRq Q w v (n+n) G H U) :
 Calls Tryz.prog 146 #[v,nv x] w (Ret fun e w'=>Below w.heap.size w w'∧GRq Q w' e n (fldT N (sIn N x) x n G) (fldT N x (sIn N x) n H) U):=by
 obtain ⟨q,r,i,rfl,h3,h4,h5⟩:=h0.ex
 have hi:sIn N x<N:=Nat.mod_lt _ O.pos
 have h6:=fun W=>sInv2_c O x hx W
 have E:=fun (W:World) (f:Below w.heap.size w W)=>fldM_c O n (by have:=hG.nle;omega) c (by have:=hG.cle;omega) hG.c0 G (sIn N x) x hi hx hG.g q W (h3.keep (Kq.of_below f))
 have K:=fun (W:World) (f:Below w.heap.size w W)=>fldM_c O n (by have:=hG.nle;omega) c (by have:=hG.cle;omega) hG.c0 H x (sIn N x) hx hi hG.h r W (h4.keep (Kq.of_below f))
 generalize fldT N (sIn N x) x n G=G' at E ⊢
 generalize fldT N x (sIn N x) n H=H' at K ⊢
 generalize sIn N x=j at h6 E K
 have HX:=mk3 h6 E K
 have HU:=mk2 h5 hQ
 obtain ⟨k,hk⟩:=hE (w.heap.size)
 obtain ⟨p,A⟩:=hE (w.alloc (.cells #[q,r,i] 150))
 obtain ⟨t,B⟩:=hE (p.alloc (.cells (wn x).toArray 44))
 obtain ⟨P,J⟩:=hE (t.alloc (.cells #[.slice none 0 0,.slice none 0 0,.slice none 0 0] 150))
 have F:p.heap.size=k+1:=by rw[← A.out,World.size_alloc,hk.out]
 have h8:t.heap.size=k+2:=by rw[← B.out,World.size_alloc,F]
 have K3:Hid (FgI w P k x j q r i):=by
  have b1:Below w.heap.size w p:=by rw[← A.out];exact below1 _ _
  have l:Below p.heap.size p t:=by rw[← B.out];exact below1 _ _
  have m:Below t.heap.size t P:=by rw[← J.out];exact below1 _ _
  have C:Row p k [q,r,i]:=by rw[← A.out,← hk.out];exact row_new w _ _
  have o:Row t (k+1) (wn x):=by rw[← B.out,← F];exact row_new p _ _
  have s:Row P (k+2) [.slice none 0 0,.slice none 0 0,.slice none 0 0]:=by rw[← J.out,← h8];exact row_new t _ _
  exact ⟨(b1.trans (l.mono b1.size)).trans (m.mono (Nat.le_trans b1.size l.size)),(C.below l).below m,o.below m,s⟩
 obtain ⟨v0,h7⟩:=hE (Value.agg #[q,r,i])
 obtain ⟨vx,s⟩:=hE (nv x)
 have B1:Hid ((Instr.box 150 v0).run Tryz.prog w=.ok (.pointer (some ⟨k,0,none⟩)) p):=by rw[← h7.out,← A.out,← hk.out];exact boxG _ _ _ _
 have B2:Hid ((Instr.box 44 vx).run Tryz.prog p=.ok (.pointer (some ⟨k+1,0,none⟩)) t):=by rw[← s.out,← B.out,← F];exact boxS x p
 have HZ:=mk1 (h8)
 obtain ⟨d,hm,hr⟩:=Option.map_eq_some_iff.1 u40
 have HD:=mk2 hm hr
 rw[h7.out,s.out]
 go_enter Tryz.func146,Tryz.ntmps146
 go_wp2_with (first|(refine wpList_box (u:=v0) (v:=.pointer (some ⟨k,0,none⟩)) (w':=p) rfl 150 (.tmp 0) rfl ?_ ?_ ?_;rfl;exact B1.out)|(refine wpList_box (u:=vx) (v:=.pointer (some ⟨k+1,0,none⟩)) (w':=t) rfl 44 (.tmp 1) rfl ?_ ?_ ?_;rfl;exact B2.out)|(refine wpList_al (v:=.pointer (some ⟨k+2,0,none⟩)) (w':=P) rfl 150 4 rfl rfl ?_ ?_;(rw[← J.out,← HZ.out];kernel_rfl))|(refine ldR 3 K3.r3.2.1 s u40 nSc ?_)|fail)
 rw[← s.out]
 refine (HX.1 P).mono ?_
 rintro e X ⟨u,rfl,ht,rfl⟩
 obtain ⟨M,D⟩:=hE (X.heap.size)
 obtain ⟨w5,Z⟩:=hE (X.alloc (.cells #[.int .u64 0,.int .u64 0,.int .u64 0,.int .u64 0] 44))
 obtain ⟨w6,R⟩:=hE (w5.setCells M 0 (wn j))
 have F5:Hid (Row w5 M [.int .u64 0,.int .u64 0,.int .u64 0,.int .u64 0]∧Below X.heap.size X w5):=by rw[← Z.out,← D.out];exact ⟨row_new X _ _,below1 _ _⟩
 have K6:Hid (FgI w w6 k x j q r i∧Row w6 M (wn j)):=by
  rw[← R.out]
  exact ⟨(K3.grow ht).grow (RG.below_setCells (by rw[D.out];exact Nat.le_refl _) _ _ _ F5.2),F5.1.put rfl⟩
 obtain ⟨vi,T⟩:=hE (nv j)
 rw[T.out]
 go_wp2_with (first|(refine alR 5 D Z ?_)|(refine stR 5 R T F5.1.2.2 nSc (wn_one j) ?_)|fail)
 refine (RG.gwL [RG.pE (.pointer (some ⟨k,0,none⟩)),RG.pE q,RG.pE (nv j),RG.pE (nv x),RG.pG (fun g=>w.heap.size≤g∧g≠k+2) n G',RG.pE (.pointer (some ⟨k,1,none⟩)),RG.pE r,RG.pE (nv x),RG.pE (nv j),RG.pG (fun g=>w.heap.size≤g∧g≠k+2) n H',RG.pE (.pointer (some ⟨k,2,none⟩)),RG.pE i,⟨fun v W=>∃ x y,v=.agg #[x,y,i]∧GLq (fun g=>w.heap.size≤g∧g≠k+2) W x n G'∧GLq (fun g=>w.heap.size≤g∧g≠k+2) W y n H',fun _ _ _ l ⟨x,y,S,h2,h3⟩=>⟨x,y,S,h2.keep (Kq.of_below l),h3.keep (Kq.of_below l)⟩⟩] (fun W=>FgI w W k x j q r i∧Row W M (wn j)) (fun W W' l h=>⟨h.1.grow l,h.2.below l⟩)).last 13 kR kR kR ⟨
  RG.gO 2 (.pointer (some ⟨k,0,none⟩)),
  RG.gw_l1 148 0 8 k 0 q uGL (fun x W h=>h) (fun W f=>f.1.r2.2.1 0 _ rfl) (fun _=>rfl),
  RG.gw_lo 44 5 M 0 (wn j) rSc nSc rfl (fun W f=>f.2.2.1) (fun _=>rfl),
  RG.gw_lo 44 3 (k+1) 0 (wn x) rSc nSc rfl (fun W f=>f.1.r3.2.1) (fun _=>rfl),
  RG.gw_c3 1 9 2 10 3 11 190 (fun x y z=>#[x,y,z]) (fun a b c W C l m f=>by
   obtain rfl:a=q:=C
   obtain rfl:b=nv j:=l
   obtain rfl:c=nv x:=m
   refine (HX.2.1 W f.1.bl).mono ?_
   rintro e W' ⟨u,rfl,l,o⟩
   exact ⟨_,rfl,l,o.mono fun g I=>⟨Nat.le_trans f.1.bl.size I,by have:=f.1.r4.1;omega⟩⟩),
  RG.gP 2 (.pointer (some ⟨k,0,none⟩)) (.pointer (some ⟨k,1,none⟩)),
  RG.gw_l1 148 5 13 k 1 r uGL (fun x W h=>h) (fun W f=>f.1.r2.2.1 1 _ rfl) (fun _=>rfl),
  RG.gw_lo 44 3 (k+1) 0 (wn x) rSc nSc rfl (fun W f=>f.1.r3.2.1) (fun _=>rfl),
  RG.gw_lo 44 5 M 0 (wn j) rSc nSc rfl (fun W f=>f.2.2.1) (fun _=>rfl),
  RG.gw_c3 6 14 7 15 8 16 190 (fun x y z=>#[x,y,z]) (fun a b c W C l m f=>by
   obtain rfl:a=r:=C
   obtain rfl:b=nv x:=l
   obtain rfl:c=nv j:=m
   refine (HX.2.2 W f.1.bl).mono ?_
   rintro e W' ⟨u,rfl,l,o⟩
   exact ⟨_,rfl,l,o.mono fun g I=>⟨Nat.le_trans f.1.bl.size I,by have:=f.1.r4.1;omega⟩⟩),
  RG.gP 2 (.pointer (some ⟨k,0,none⟩)) (.pointer (some ⟨k,2,none⟩)),
  RG.gw_l1 82 10 18 k 2 i uSum (fun x W h=>h) (fun W f=>f.1.r2.2.1 2 _ rfl) (fun _=>rfl),
  RG.gw_val (fun a W o=>by
   have S:=o.n 4 12 kR kR
   have h2:=o.n 9 17 kR kR
   have h3:=o.n 11 19 kR kR
   obtain ⟨g1,o1,c1,V,-⟩:=id S
   obtain ⟨L,Y,c2,e2,-⟩:=id h2
   obtain ⟨g3,c3,e3,-⟩:=HU.1
   rw[V] at S
   rw[e2] at h2
   refine ⟨[(12,.slice (some ⟨g1,o1,none⟩) n c1),(17,.slice (some ⟨L,Y,none⟩) n c2),(19,i)],.agg #[.slice (some ⟨g1,o1,none⟩) n c1,.slice (some ⟨L,Y,none⟩) n c2,i],W,⟨V,e2,h3,trivial⟩,?_,Below.refl _ _,⟨_,_,rfl,S,h2⟩⟩
   rw[e3]
   kernel_rfl),trivial⟩ ⟨K6.1.drew,K6.2⟩ ?_
 intro V L hR f
 obtain ⟨o,m,hV,h9,hj⟩:∃ x y,V 12=.agg #[x,y,i]∧GLq (fun g=>w.heap.size≤g∧g≠k+2) L x n G'∧GLq (fun g=>w.heap.size≤g∧g≠k+2) L y n H':=hR 12 dC
 have hn:=HU.1.keep (Kq.of_below f.1.bl)
 have C:∀ g,w.heap.size≤g∧g≠k+2→Q g:=fun g I=>HU.2 g I.1
 have gr:GRq Q L (.agg #[o,m,i]) n G' H' U:=⟨_,_,_,rfl,h9.mono C,hj.mono C,hn⟩
 obtain ⟨e,he,hw,hq⟩:=gr.ar
 obtain rfl:#[o,m,i]=e:=by injection he
 obtain ⟨w8,hl⟩:=hE (L.setCells (k+2) 0 [o,m,i])
 have K8:Hid (Below w.heap.size w w8∧Row w8 (k+2) [o,m,i]∧GRq Q w8 (.agg #[o,m,i]) n G' H' U):=by
  rw[← hl.out]
  have kq:Kq (fun g=>w.heap.size≤g∧g≠k+2) L (L.setCells (k+2) 0 [o,m,i]):=Kq.set fun g I=>I.2
  have Y:Below w.heap.size w (L.setCells (k+2) 0 [o,m,i]):=RG.below_setCells (by rw[hk.out];omega) _ _ _ f.1.bl
  exact ⟨Y,f.1.r4.put rfl,_,_,_,rfl,(h9.keep kq).mono C,(hj.keep kq).mono C,HU.1.keep (Kq.of_below Y)⟩
 have HT:=mk2 f.1.r4.2.2 hq
 dsimp only[RG.putV,Nat.reduceAdd,List.take,List.drop]
 simp only[Act.put,List.setIfInBounds_toArray,List.set_cons_succ,List.set_cons_zero]
 obtain ⟨ve,Y⟩:=hE (Value.agg #[o,m,i])
 rw[hV,Y.out]
 go_wp2_with (first|(refine wpList_store_mid rfl 150 (.tmp 4) _ rfl (k+2) 0 #[o,m,i] ?_ ?_ ?_ ?_ ?_ ?_;rfl;exact Y.symm;exact HT.1;exact iGr;exact HT.2;rw[show (#[o,m,i]:Array Value).toList=[o,m,i] from rfl,hl.out])|fail)
 refine bodyPost_ret (results_cell 4 150 rfl K8.2.1 rfl uGr iGr) rfl ?_
 exact ⟨_,rfl,K8.1,K8.2.2⟩
end
end Go.Proofs.YtlofhpkoaljmeaaGreat
