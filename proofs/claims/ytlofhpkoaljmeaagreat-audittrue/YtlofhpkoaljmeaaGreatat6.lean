import Derived.Laws.AppendOwn
import Derived.Deep.AppendSrc
import Derived.Lib.AppendZeros
import Derived.Deep.MidRow
import Derived.BigQuiet
import Derived.Lib.ConvBytes
import Derived.BigRegion
import Derived.Deep.RegionLaw
import Derived.Laws.OwnMore
import Derived.ArgAppend
import Derived.Laws.IdiomCopy
import Derived.Lib.SlBuf
import Derived.Test.YtlofhpkoaljmeaaGreatat5
set_option linter.unusedVariables false
set_option linter.constructorNameAsVariable false
set_option linter.unusedSimpArgs false
set_option maxRecDepth 1000000
set_option maxHeartbeats 4000000
namespace Go.Proofs.YtlofhpkoaljmeaaGreat
section
open Go.RowKit Go.Sort Go.Deep
variable {P:Nat} [NeZero P] {N:Nat}
def lgV (r:Nat):Value:=.agg #[.pointer (some ⟨r,0,none⟩)]
theorem uLg:(Tryz.prog.underlying 159).map (·.isRow)=some true:=kR
theorem iLg:(Tryz.prog.info? 159).map (·.size)=some 1:=kR
theorem uLp:(Tryz.prog.underlying 155).map (·.isRow)=some false:=kR
theorem boxL (r:Nat) (w:World):(Instr.box 159 (lgV r)).run Tryz.prog w=.ok (.pointer (some ⟨w.heap.size,0,none⟩)) (w.alloc (.cells #[.pointer (some ⟨r,0,none⟩)] 159)):=kR
theorem holds_set {W:World} {r K o:Nat} {vs:List Value} {L:Bs} (h:Holds encB W r 0 L) (k:r≠K):Holds encB (W.setCells K o vs) r 0 L:=fun j b=>by
 have e:=RG.setCells_other K vs o W r k
 rw[World.cell?_of_block (a:=⟨r,0+j,none⟩) e,World.frozen?_of_block (a:=⟨r,0+j,none⟩) e]
 exact h j b
theorem newLogS_c (k:ByteArray) (w:World) (b:k.size≤1048576):Calls Tryz.prog 133 #[.string k] w (Ret fun e w'=>Below w.heap.size w w'∧∃ r,e=lgV r∧w.heap.size≤r∧r<w'.heap.size∧Holds encB w' r 0 (SP.newL k.data.toList)):=by
 obtain ⟨L,s⟩:=hE (SP.newL k.data.toList)
 rw[s.out]
 obtain ⟨n,f⟩:=hE (w.alloc (.cells #[.pointer none] 159))
 have l:Hid (Row n w.heap.size [.pointer none]∧Below w.heap.size w n):=by rw[← f.out];exact ⟨row_new w _ _,below1 w _⟩
 go_enter Tryz.func133,Tryz.ntmps133
 go_wp2_with fail
 rw[f.out]
 refine (sNewLog_c k n b).mono ?_
 rintro e q ⟨u,rfl,i,r,rfl,p,o,d⟩
 rw[s.out] at d
 have t:=Nat.lt_of_lt_of_le l.1.1 p
 have g:=mk4 (l.1.below i) (l.2.trans (i.mono l.2.size)) d o
 obtain ⟨m,c⟩:=hE (q.setCells w.heap.size 0 [.pointer (some ⟨r,0,none⟩)])
 have j:Hid (Row m w.heap.size [.pointer (some ⟨r,0,none⟩)]∧Below w.heap.size w m∧Holds encB m r 0 L∧r<m.heap.size):=by
  rw[← c.out]
  exact ⟨g.1.put rfl,RG.below_setCells (Nat.le_refl _) _ _ _ g.2.1,holds_set g.2.2.1 oM,by rw[RG.setCells_size];exact g.2.2.2⟩
 go_wp2_with (refine wpList_op (v:=.agg #[.pointer (some ⟨r,0,none⟩)]) (w':=q) rfl (.build 159 _) rfl ?_ ?_;kernel_rfl;refine Hid.out ?_)
 show wpList _ _ _ _ _ _
 refine wpList_store_mid rfl 159 _ _ rfl w.heap.size 0 #[.pointer (some ⟨r,0,none⟩)] ?_ ?_ ?_ ?_ ?_ ?_
 ·kernel_rfl
 ·kernel_rfl
 ·exact g.1.2.2
 ·exact iLg
 ·kernel_rfl
 rw[show (#[Value.pointer (some ⟨r,0,none⟩)]).toList=[.pointer (some ⟨r,0,none⟩)] from rfl,c.out]
 go_wp2
 refine bodyPost_ret (results_cell 2 159 rfl j.1 rfl uLg iLg) rfl ?_
 exact ⟨_,rfl,j.2.1,r,rfl,oM,j.2.2.2,j.2.2.1⟩
theorem sChallengeK_c (O:Ord N) (r:Nat) (L:Bs) (w:World) (x:Holds encB w r 0 L) (E:L.size=32) :
 Calls Tryz.prog 187 #[.agg #[.pointer (some ⟨r,0,none⟩)]] w (Ret fun e w'=>SP.Only r 0 32 w w'∧Holds encB w' r 0 (wentF L)∧e=nv (cha N L)):=by
 have s:=Holds.lt x oM
 obtain ⟨k,b⟩:∃ k,Hid ((w.alloc (.cells #[.pointer (some ⟨r,0,none⟩)] 157)).alloc (.cells #[.int .u64 0,.int .u64 0,.int .u64 0,.int .u64 0] 44)=k):=⟨_,rfl⟩
 have p:Hid (Row k (w.heap.size+1) [.int .u64 0,.int .u64 0,.int .u64 0,.int .u64 0]∧Below w.heap.size w k∧Holds encB k r 0 L∧k.rangeAt w.heap.size 0 [.pointer (some ⟨r,0,none⟩)]):=by
  rw[← b.out]
  have c:Below w.heap.size w ((w.alloc (.cells #[.pointer (some ⟨r,0,none⟩)] 157)).alloc (.cells #[.int .u64 0,.int .u64 0,.int .u64 0,.int .u64 0] 44)):=(below1 w _).alloc (by rw[World.size_alloc];omega) _
  have hR:=row_new (w.alloc (.cells #[.pointer (some ⟨r,0,none⟩)] 157)) [.int .u64 0,.int .u64 0,.int .u64 0,.int .u64 0] 44
  rw[World.size_alloc] at hR
  exact ⟨hR,c,Holds.below x c s,((row_new w [.pointer (some ⟨r,0,none⟩)] 157).alloc _).2.1⟩
 clear x
 obtain ⟨d,i,j⟩:=Option.map_eq_some_iff.1 u124
 have B:Hid (Tryz.prog.underlying 157=some d∧d.isRow=true):=⟨i,j⟩
 clear i j
 have z:=sScalarK_c O r L ⟨#[99,104,97,108,108,101,110,103,101]⟩ k dC p.2.2.1 E
 have l:redu N (SP.askL L (⟨#[99,104,97,108,108,101,110,103,101]⟩:ByteArray).data.toList 64)=cha N L:=rfl
 have n:SP.askedL L (⟨#[99,104,97,108,108,101,110,103,101]⟩:ByteArray).data.toList=wentF L:=rfl
 rw[l,n] at z
 have t:(wentF L).size=32:=SP.askedL_size _ _
 have a:=Hid.mk' z
 obtain ⟨m,y⟩:=hE (cha N L)
 obtain ⟨D,c⟩:=hE (wentF L)
 rw[y.out,c.out] at a
 rw[c.out] at t
 rw[y.out,c.out]
 go_enter Tryz.func187,Tryz.ntmps187
 go_wp2_with (refine wpList_load_mid rfl 157 _ rfl w.heap.size 0 ?_ [.pointer (some ⟨r,0,none⟩)] d ?_ ?_ ?_ ?_ ?_;kernel_rfl;(rw[b.out];exact p.2.2.2);exact B.1;exact B.2;exact i124;rw[b.out])
 refine a.mono ?_
 rintro e F ⟨v,rfl,C,A,rfl⟩
 have G:=Holds.lt A oM
 have o:=mk3 (p.1.only C oM) ((SP.Only.of_below p.2.1 rfl s).trans C) A
 obtain ⟨u,g⟩:=hE (F.setCells (w.heap.size+1) 0 (wn m))
 have q:Hid (Row u (w.heap.size+1) (wn m)∧SP.Only r 0 32 w u∧Holds encB u r 0 D):=by rw[← g.out];exact ⟨o.1.put rfl,only_setCells o.2.1 s oM _,holds_set o.2.2 oM⟩
 obtain ⟨H,f⟩:=hE (nv m)
 rw[f.out]
 go_wp2_with (refine wpList_store_mid rfl 44 _ _ rfl (w.heap.size+1) 0 (wn m).toArray ?_ ?_ ?_ ?_ ?_ ?_;rfl;exact f.symm;exact o.1.2.2;exact i40;exact wn_one m;rw[show (wn m).toArray.toList=wn m from rfl,g.out])
 refine bodyPost_ret (results_cell 2 44 rfl q.1 rfl u40 i40) rfl ?_
 exact ⟨_,rfl,q.2.1,q.2.2,rfl⟩
def chS (N:Nat) (L:Bs):Nat:=orOne (cha N L)
theorem chS_ask [NeZero N] (d:1<N) (L:Bs) (b:cha N L<N):chS N L=(askF N L).val:=by
 unfold chS askF oneF orOne
 generalize cha N L=c at b
 have hv:(ofF N c).val=c:=Nat.mod_eq_of_lt b
 by_cases k:c=0
 ·subst k
  rw[if_pos rfl,if_pos ofF_zero]
  exact (Nat.mod_eq_of_lt d).symm
 ·rw[if_neg k,if_neg (fun e=>k (by rw[← hv,e];exact Nat.zero_mod N)),hv]
theorem challS_c (O:Ord N) (r:Nat) (L:Bs) (w:World) (B:Holds encB w r 0 L) (K:L.size=32) :
 Calls Tryz.prog 136 #[lgV r] w (Ret fun e w'=>SP.Only r 0 32 w w'∧Holds encB w' r 0 (wentF L)∧e=nv (chS N L)):=by
 have y:=Holds.lt B oM
 obtain ⟨k,b⟩:∃ k,Hid ((w.alloc (.cells #[.pointer (some ⟨r,0,none⟩)] 159)).alloc (.cells #[.int .u64 0,.int .u64 0,.int .u64 0,.int .u64 0] 44)=k):=⟨_,rfl⟩
 have s:Hid (Row k (w.heap.size+1) [.int .u64 0,.int .u64 0,.int .u64 0,.int .u64 0]∧Below w.heap.size w k∧Holds encB k r 0 L∧k.rangeAt w.heap.size 0 [.pointer (some ⟨r,0,none⟩)]):=by
  rw[← b.out]
  have c:Below w.heap.size w ((w.alloc (.cells #[.pointer (some ⟨r,0,none⟩)] 159)).alloc (.cells #[.int .u64 0,.int .u64 0,.int .u64 0,.int .u64 0] 44)):=(below1 w _).alloc (by rw[World.size_alloc];omega) _
  have hR:=row_new (w.alloc (.cells #[.pointer (some ⟨r,0,none⟩)] 159)) [.int .u64 0,.int .u64 0,.int .u64 0,.int .u64 0] 44
  rw[World.size_alloc] at hR
  exact ⟨hR,c,Holds.below B c y,((row_new w [.pointer (some ⟨r,0,none⟩)] 159).alloc _).2.1⟩
 clear B
 obtain ⟨d,l,n⟩:=Option.map_eq_some_iff.1 u124
 have H:Hid (Tryz.prog.underlying 157=some d∧d.isRow=true):=⟨l,n⟩
 clear l n
 have M:=sChallengeK_c O r L k s.2.2.1 K
 have t:cha N L<N:=redu_lt O _
 have i:=fun W=>orOne_c O t W
 have z:orOne (cha N L)=chS N L:=rfl
 rw[z] at i
 have a:(wentF L).size=32:=SP.askedL_size _ _
 obtain ⟨m,C⟩:=hE (cha N L)
 obtain ⟨q,D⟩:=hE (chS N L)
 obtain ⟨J,c⟩:=hE (wentF L)
 have E:=Hid.mk' M
 have G:=Hid.mk' i
 rw[C.out,c.out] at E
 rw[C.out,D.out] at G
 rw[c.out] at a
 rw[D.out,c.out]
 unfold lgV
 go_enter Tryz.func136,Tryz.ntmps136
 go_wp2_with (refine wpList_load_mid rfl 157 _ rfl w.heap.size 0 ?_ [.pointer (some ⟨r,0,none⟩)] d ?_ ?_ ?_ ?_ ?_;kernel_rfl;(rw[b.out];exact s.2.2.2);exact H.1;exact H.2;exact i124;rw[b.out])
 refine E.mono ?_
 rintro e P ⟨v,rfl,I,F,rfl⟩
 have o:=Holds.lt F oM
 have u:=mk3 (s.1.only I oM) ((SP.Only.of_below s.2.1 rfl y).trans I) F
 go_wp2_with fail
 refine (G P).mono ?_
 rintro e Q ⟨S,rfl,f,rfl⟩
 have p:=mk3 (u.1.below f) (u.2.1.trans (SP.Only.of_below f rfl o)) (Holds.below u.2.2 f o)
 obtain ⟨A,j⟩:=hE (Q.setCells (w.heap.size+1) 0 (wn q))
 have x:Hid (Row A (w.heap.size+1) (wn q)∧SP.Only r 0 32 w A∧Holds encB A r 0 J):=by rw[← j.out];exact ⟨p.1.put rfl,only_setCells p.2.1 y oM _,holds_set p.2.2 oM⟩
 obtain ⟨R,g⟩:=hE (nv q)
 rw[g.out]
 go_wp2_with (refine wpList_store_mid rfl 44 _ _ rfl (w.heap.size+1) 0 (wn q).toArray ?_ ?_ ?_ ?_ ?_ ?_;rfl;exact g.symm;exact p.1.2.2;exact i40;exact wn_one q;rw[show (wn q).toArray.toList=wn q from rfl,j.out])
 refine bodyPost_ret (results_cell 2 44 rfl x.1 rfl u40 i40) rfl ?_
 exact ⟨_,rfl,x.2.1,x.2.2,rfl⟩
structure CaI (w W:World) (k r:Nat) (X Y L:Bs):Prop where
 on:SP.Only r 0 32 w W
 r0:Row W k [.pointer (some ⟨r,0,none⟩)]
 r1:Row W (k+1) (bl33 X)
 r2:Row W (k+2) (bl33 Y)
 r3:Row W (k+3) [.int .u64 0,.int .u64 0,.int .u64 0,.int .u64 0]
 lg:Holds encB W r 0 L
theorem CaI.grow {w W W':World} {k r:Nat} {X Y L:Bs} (h:CaI w W k r X Y L) (d:L.size=32) (b:Below W.heap.size W W'):CaI w W' k r X Y L:=
 have c:=Holds.lt h.lg oM
 ⟨h.on.trans (SP.Only.of_below b rfl c),h.r0.below b,h.r1.below b,h.r2.below b,h.r3.below b,Holds.below h.lg b c⟩
theorem CaI.say {w W W':World} {k r:Nat} {X Y L c:Bs} (h:CaI w W k r X Y L) (e:r<k) (b:SP.Only r 0 32 W W') (d:Holds encB W' r 0 c):CaI w W' k r X Y c:=
 ⟨h.on.trans b,h.r0.only b oM,h.r1.only b oM,h.r2.only b oM,h.r3.only b oM,d⟩
theorem chAfter_c (O:Ord N) (r:Nat) (L X Y:Bs) (n l:ByteArray) (h1:n.size≤1048576) (h2:l.size≤1048576) (hX:X.size=33) (hY:Y.size=33) (w:World) (hL:Holds encB w r 0 L) (hl:L.size=32) :
 Calls Tryz.prog 135 #[lgV r,.string n,pvl X,.string l,pvl Y] w (Ret fun e w'=>SP.Only r 0 32 w w'∧Holds encB w' r 0 (wentF (saidF n.data.toList l.data.toList L X Y))∧e=nv (chS N (saidF n.data.toList l.data.toList L X Y))):=by
 have hr:=Holds.lt hL oM
 obtain ⟨H,B⟩:∃ H,Hid (SP.sayL L n.data.toList X.toList=H):=⟨_,rfl⟩
 have s1:H.size=32:=by rw[← B.out];exact SP.sayL_size _ _ _
 obtain ⟨y,C⟩:∃ y,Hid (SP.sayL H l.data.toList Y.toList=y):=⟨_,rfl⟩
 have s2:y.size=32:=by rw[← C.out];exact SP.sayL_size _ _ _
 have e2:saidF n.data.toList l.data.toList L X Y=y:=by unfold saidF;rw[B.out,C.out]
 rw[e2]
 obtain ⟨k,I⟩:∃ k,Hid (w.heap.size=k):=⟨_,rfl⟩
 obtain ⟨c,i⟩:∃ c,Hid (w.alloc (.cells #[.pointer (some ⟨r,0,none⟩)] 159)=c):=⟨_,rfl⟩
 obtain ⟨b,o⟩:∃ b,Hid (c.alloc (.cells (bl33 X).toArray 51)=b):=⟨_,rfl⟩
 obtain ⟨f,p⟩:∃ f,Hid (b.alloc (.cells (bl33 Y).toArray 51)=f):=⟨_,rfl⟩
 obtain ⟨D,G⟩:∃ D,Hid (f.alloc (.cells #[.int .u64 0,.int .u64 0,.int .u64 0,.int .u64 0] 44)=D):=⟨_,rfl⟩
 have z1:c.heap.size=k+1:=by rw[← i.out,World.size_alloc,I.out]
 have Z:b.heap.size=k+2:=by rw[← o.out,World.size_alloc,z1]
 have z3:f.heap.size=k+3:=by rw[← p.out,World.size_alloc,Z]
 have F:r<k:=by rw[← I.out];exact hr
 have HK:Hid (w.heap.size≤k):=by show _≤_;rw[I.out];exact Nat.le_refl _
 have K4:Hid (CaI w D k r X Y L):=by
  have b1:Below w.heap.size w c:=by rw[← i.out];exact below1 _ _
  have g:Below c.heap.size c b:=by rw[← o.out];exact below1 _ _
  have s:Below b.heap.size b f:=by rw[← p.out];exact below1 _ _
  have j:Below f.heap.size f D:=by rw[← G.out];exact below1 _ _
  have E:Row c k [.pointer (some ⟨r,0,none⟩)]:=by rw[← i.out,← I.out];exact row_new w _ _
  have a:Row b (k+1) (bl33 X):=by rw[← o.out,← z1];exact row_new c _ _
  have A:Row f (k+2) (bl33 Y):=by rw[← p.out,← Z];exact row_new b _ _
  have z:Row D (k+3) [.int .u64 0,.int .u64 0,.int .u64 0,.int .u64 0]:=by rw[← G.out,← z3];exact row_new f _ _
  have t:Below w.heap.size w D:=((b1.trans (g.mono b1.size)).trans (s.mono (Nat.le_trans b1.size g.size))).trans (j.mono (Nat.le_trans b1.size (Nat.le_trans g.size s.size)))
  exact ⟨SP.Only.of_below t rfl hr,((E.below g).below s).below j,(a.below s).below j,A.below j,z,Holds.below hL t hr⟩
 obtain ⟨vl,S⟩:∃ v,Hid (lgV r=v):=⟨_,rfl⟩
 obtain ⟨vX,K⟩:∃ v,Hid (pvl X=v):=⟨_,rfl⟩
 obtain ⟨vY,T⟩:∃ v,Hid (pvl Y=v):=⟨_,rfl⟩
 have B1:Hid ((Instr.box 159 vl).run Tryz.prog w=.ok (.pointer (some ⟨k,0,none⟩)) c):=by rw[← S.out,← i.out,← I.out];exact boxL r w
 have B2:Hid ((Instr.box 51 vX).run Tryz.prog c=.ok (.pointer (some ⟨k+1,0,none⟩)) b):=by rw[← K.out,← o.out,← z1];exact boxCP hX c
 have B3:Hid ((Instr.box 51 vY).run Tryz.prog b=.ok (.pointer (some ⟨k+2,0,none⟩)) f):=by rw[← T.out,← p.out,← Z];exact boxCP hY b
 have HZ:Hid (f.heap.size=k+3):=z3
 rw[S.out,K.out,T.out]
 have R:Hid (Ord N∧n.size≤1048576∧l.size≤1048576∧X.size=33∧Y.size=33):=⟨O,h1,h2,hX,hY⟩
 clear hL z1 Z z3 i o p I e2 O h1 h2 hX hY
 go_enter Tryz.func135,Tryz.ntmps135
 go_wp2_with (first|(refine wpList_box (u:=vl) (v:=.pointer (some ⟨k,0,none⟩)) (w':=c) rfl 159 (.tmp 0) rfl ?_ ?_ ?_;rfl;exact B1.out)|(refine wpList_box (u:=vX) (v:=.pointer (some ⟨k+1,0,none⟩)) (w':=b) rfl 51 (.tmp 2) rfl ?_ ?_ ?_;rfl;exact B2.out)|(refine wpList_box (u:=vY) (v:=.pointer (some ⟨k+2,0,none⟩)) (w':=f) rfl 51 (.tmp 4) rfl ?_ ?_ ?_;rfl;exact B3.out)|(refine wpList_al (v:=.pointer (some ⟨k+3,0,none⟩)) (w':=D) rfl 44 10 rfl rfl ?_ ?_;(rw[← G.out,← HZ.out];kernel_rfl))|fail)
 refine (RG.gwL [RG.pE (.pointer (some ⟨k,0,none⟩)),RG.pE (.pointer (some ⟨k,0,none⟩)),RG.pE (.pointer (some ⟨r,0,none⟩)),RG.pE (.string n),RG.pE (.slice (some ⟨k+1,0,none⟩) 33 33)] (fun W=>CaI w W k r X Y L) (fun W W' hb h=>h.grow hl hb)).tail2 5 kR kR kR ⟨
  RG.gO 5 (.pointer (some ⟨k,0,none⟩)),
  RG.gw_n 0 11 (.pointer (some ⟨k,0,none⟩)) (.pointer (some ⟨k,0,none⟩)) (fun x W h=>h) (fun _=>rfl),
  RG.gw_l1 155 1 12 k 0 (.pointer (some ⟨r,0,none⟩)) uLp (fun x W h=>h) (fun W z=>z.r0.2.1 0 _ rfl) (fun _=>rfl),
  RG.gO 1 (.string n),
  RG.gP 7 (.pointer (some ⟨k+1,0,none⟩)) (.slice (some ⟨k+1,0,none⟩) 33 33),trivial⟩ (K4.grow hl ⟨rfl,rfl,rfl,Nat.le_refl _,fun _ _=>rfl⟩) ?_
 intro V w5 hR z
 have s:V 2=.pointer (some ⟨r,0,none⟩):=hR 2 dC
 have j:V 3=.string n:=hR 3 dC
 have g:V 4=.slice (some ⟨k+1,0,none⟩) 33 33:=hR 4 dC
 dsimp only[RG.putV,Nat.reduceAdd,List.take,List.drop]
 simp only[Act.put,List.setIfInBounds_toArray,List.set_cons_succ,List.set_cons_zero]
 rw[s,j,g]
 have a:=Hid.mk' z
 clear hR z s j g K4
 generalize V 0=s0
 generalize V 1=h4
 go_wp2_with fail
 refine (SP.Say_any r L n (some ⟨k+1,0,none⟩) 33 33 X.toList w5 R.2.1 (sp_h a.lg) hl (row_part R.2.2.2.1 a.r1)).mono ?_
 rintro e w6 ⟨rfl,A,t⟩
 rw[B.out] at t
 have K6:Hid (CaI w w6 k r X Y H):=a.say F A (sp_k t)
 clear A t a
 go_wp2_with fail
 refine (RG.gwL [RG.pE (.pointer (some ⟨k,0,none⟩)),RG.pE (.pointer (some ⟨k,0,none⟩)),RG.pE (.pointer (some ⟨r,0,none⟩)),RG.pE (.string l),RG.pE (.slice (some ⟨k+2,0,none⟩) 33 33)] (fun W=>CaI w W k r X Y H) (fun W W' hb h=>h.grow s1 hb)).tail2 5 kR kR kR ⟨
  RG.gO 5 (.pointer (some ⟨k,0,none⟩)),
  RG.gw_n 0 17 (.pointer (some ⟨k,0,none⟩)) (.pointer (some ⟨k,0,none⟩)) (fun x W h=>h) (fun _=>rfl),
  RG.gw_l1 155 1 18 k 0 (.pointer (some ⟨r,0,none⟩)) uLp (fun x W h=>h) (fun W z=>z.r0.2.1 0 _ rfl) (fun _=>rfl),
  RG.gO 3 (.string l),
  RG.gP 9 (.pointer (some ⟨k+2,0,none⟩)) (.slice (some ⟨k+2,0,none⟩) 33 33),trivial⟩ (K6.grow s1 ⟨rfl,rfl,rfl,Nat.le_refl _,fun _ _=>rfl⟩) ?_
 intro V w7 hR z
 have s:V 2=.pointer (some ⟨r,0,none⟩):=hR 2 dC
 have j:V 3=.string l:=hR 3 dC
 have g:V 4=.slice (some ⟨k+2,0,none⟩) 33 33:=hR 4 dC
 dsimp only[RG.putV,Nat.reduceAdd,List.take,List.drop]
 simp only[Act.put,List.setIfInBounds_toArray,List.set_cons_succ,List.set_cons_zero]
 rw[s,j,g]
 have a:=Hid.mk' z
 clear hR z s j g K6
 generalize V 0=h3
 generalize V 1=s3
 go_wp2_with fail
 refine (SP.Say_any r H l (some ⟨k+2,0,none⟩) 33 33 Y.toList w7 R.2.2.1 (sp_h a.lg) s1 (row_part R.2.2.2.2 a.r2)).mono ?_
 rintro e w8 ⟨rfl,A,t⟩
 rw[C.out] at t
 have K8:Hid (CaI w w8 k r X Y y):=a.say F A (sp_k t)
 clear A t a
 have HS:=Hid.mk' (challS_c R.1 r y w8 K8.lg s2)
 have h0:(wentF y).size=32:=SP.askedL_size _ _
 obtain ⟨q,hq⟩:∃ m,Hid (chS N y=m):=⟨_,rfl⟩
 obtain ⟨L3,E⟩:∃ m,Hid (wentF y=m):=⟨_,rfl⟩
 rw[hq.out,E.out] at HS
 rw[E.out] at h0
 obtain ⟨d,M,U⟩:=Option.map_eq_some_iff.1 uLg
 have HD:Hid (Tryz.prog.underlying 159=some d∧d.isRow=true):=⟨M,U⟩
 clear M U
 go_wp2_with (first|(refine wpList_load_mid rfl 159 (.tmp 5) rfl k 0 ?_ [.pointer (some ⟨r,0,none⟩)] d ?_ ?_ ?_ ?_ ?_;rfl;exact K8.r0.2.1;exact HD.1;exact HD.2;exact iLg;skip)|fail)
 refine HS.mono ?_
 rintro e w9 ⟨v,rfl,A,t,rfl⟩
 have K9:Hid (CaI w w9 k r X Y L3):=K8.say F A t
 clear A t K8 HS
 obtain ⟨P,Q⟩:∃ P,Hid (w9.setCells (k+3) 0 (wn q)=P):=⟨_,rfl⟩
 have KA:Hid (Row P (k+3) (wn q)∧SP.Only r 0 32 w P∧Holds encB P r 0 L3):=by
  have J:=HZ.out
  rw[← Q.out]
  exact ⟨K9.r3.put rfl,only_setCells K9.on hr (by have:=HK.out;omega) _,holds_set K9.lg oM⟩
 obtain ⟨vm,J⟩:∃ vm,Hid (nv q=vm):=⟨_,rfl⟩
 rw[J.out]
 go_wp2_with (refine wpList_store_mid rfl 44 _ _ rfl (k+3) 0 (wn q).toArray ?_ ?_ ?_ ?_ ?_ ?_;rfl;exact J.symm;exact K9.r3.2.2;exact nSc;exact wn_one q;rw[show (wn q).toArray.toList=wn q from rfl,Q.out])
 refine bodyPost_ret (results_cell 10 44 rfl KA.1 rfl rSc nSc) rfl ?_
 exact ⟨_,rfl,KA.2.1,by rw[E.out];exact KA.2.2,by rw[hq.out];rfl⟩
end
namespace SP
open Go.RowKit Go.Sort Go.Deep
end SP
section
open Go.RowKit Go.Sort Go.Deep
variable {P:Nat} [NeZero P] {N:Nat}
theorem undBB:Tryz.prog.underlying 27=some (.slice 23):=kR
theorem infoBB:(Tryz.prog.info? 23).map (fun i=>(i.size,i.bytes,i.zero.map fun z=>z.cells.size))=some (1,24,some 1):=kR
theorem addP0 (g o j:Nat):(⟨g,o,none⟩:Addr).add j=⟨g,o+j,none⟩:=by
 unfold Addr.add
 by_cases k:j=0
 ·subst k;rw[if_pos rfl];rfl
 ·rw[if_neg k]
structure VL (w:World) (q:Option Addr) (m:Nat) (ys:List Value):Prop where
 len:ys.length=m
 nil:q=none→m=0
 cells:ys=[]∨∃ b o,q=some ⟨b,o,none⟩∧b<w.heap.size∧∀ (j:Nat) u,ys[j]? = some u→w.cell? ⟨b,o+j,none⟩=some u
 one:∀ u∈ys,u.oneCell'=true
theorem VL.below {w w':World} {q:Option Addr} {m:Nat} {ys:List Value} (h:VL w q m ys) (k:Below w.heap.size w w'):VL w' q m ys:=
 ⟨h.len,h.nil,by
  rcases h.cells with d|⟨b,o,g,c,f⟩
  ·exact Or.inl d
  ·exact Or.inr ⟨b,o,g,Nat.lt_of_lt_of_le c k.size,fun j u e=>by rw[k.cell (p:=⟨b,o+j,none⟩) c];exact f j u e⟩,h.one⟩
end
section
open Go.RowKit Go.Sort Go.Deep
theorem Hid.mkP {p:Prop} (h:p):Hid p:=h
section
variable {P:Program} {ops:Array Oper} {rest:List Oper} {op:Oper} {a:Act} {w w':World} {v:Value} {Q:Exit→Act→World→Prop}
theorem wpList_opP (k:op.guard=none) (X:Op) (_:op.op=X) (b:(execOp a.eval op).run P w=.ok (.value v) w') (h:wpList P ops Q rest (a.put op.dst v) w'):wpList P ops Q (op :: rest) a w:=
 wpList_plain k fun K c=>by
  unfold Oper.wp
  rw[b]
  exact c _ _ h
end
theorem alloc_below (w:World) (o:Obj):Below w.heap.size w (w.alloc o):=(Below.refl _ _).alloc (Nat.le_refl _) _
theorem alloc_cell (w:World) (cs:Array Value) (T:TypeId) (j:Nat) (v:Value) (h:cs[j]? = some v):(w.alloc (.cells cs T)).cell? ⟨w.heap.size,j,none⟩=some v:=by
 unfold World.alloc World.cell?
 simp[h]
end
section
open Go.RowKit Go.Sort Go.Deep
variable {P:Nat} [NeZero P] {N:Nat}
structure Sv where
 q:Option Addr
 n:Nat
 c:Nat
def Sv.v (s:Sv):Value:=.slice s.q s.n s.c
def rgC (a b c d e f g l r x y:Sv):List Value:=[a.v,b.v,c.v,d.v,e.v,f.v,g.v,l.v,r.v,x.v,y.v]
theorem uRg:(Tryz.prog.underlying 66).map (·.isRow)=some true:=kR
theorem iRg:(Tryz.prog.info? 66).map (·.size)=some 11:=kR
theorem idxP (g n c i:Nat) (k:i<n) (w:World):(Instr.indexAt 27 (.slice (some ⟨g,0,none⟩) n c) (.int .i64 i)).run Tryz.prog w=.ok (.pointer (some ⟨g,i,none⟩)) w:=by
 go_simp
def Pt (W:World) (u:Value) (b:SP.Bs):Prop:=∃ q c,u=.slice q (Array.size b) c∧(b.size=0∨∃ g o,q=some ⟨g,o,none⟩∧g<W.heap.size∧Holds SP.encB W g o b)
theorem Pt.below {W W':World} {u:Value} {b:SP.Bs} (h:Pt W u b) (k:Below W.heap.size W W'):Pt W' u b:=by
 obtain ⟨q,c,e,f|⟨g,o,j,d,i⟩⟩:=h
 ·exact ⟨q,c,e,Or.inl f⟩
 ·exact ⟨q,c,e,Or.inr ⟨g,o,j,Nat.lt_of_lt_of_le d k.size,SP.Holds.below i k d⟩⟩
theorem alloc_range (w:World) (cs:List Value) (T:TypeId):(w.alloc (.cells cs.toArray T)).rangeAt w.heap.size 0 cs:=fun j u k=>by rw[Nat.zero_add];exact alloc_cell w _ _ j u (by simpa using k)
theorem range_below {w w':World} {b o:Nat} {cs:List Value} (h:w.rangeAt b o cs) (c:Below w.heap.size w w') (k:b<w.heap.size):w'.rangeAt b o cs:=fun j u d=>by rw[c.cell (p:=⟨b,o+j,none⟩) k];exact h j u d
structure Rg where
 a:Sv
 b:Sv
 c:Sv
 d:Sv
 e:Sv
 f:Sv
 g:Sv
 l:Sv
 r:Sv
 x:Sv
 y:Sv
def Rg.cs (p:Rg):List Value:=rgC p.a p.b p.c p.d p.e p.f p.g p.l p.r p.x p.y
theorem nextcap_leP (n c:Nat) (h:c<n):Builtin.nextslicecap n c≤2*n+768:=by
 unfold Builtin.nextslicecap
 split
 ·omega
 ·split
  ·omega
  ·simp only[Builtin.growBy]
   repeat' split
   all_goals omega
theorem own_blockP {w n m size c:Nat} {T e:TypeId} {i:TypeInfo} {z:Value} {W W':World} {v y:Value} {xs d:List Value} {a:Addr} (G:Tryz.prog.underlying T=some (.slice e)) (E:Tryz.prog.info? e=some i) (K:i.zero=some z) (F:i.size=size) (H:i.bytes≤1000)
 (k:W.ownsRow w e size v n xs) (s:Src Tryz.prog size T (.slice (some a) m c) m d W) (b:n+m≤1000000000)
 (p:(Builtin.append_ #[T,T] T #[v,.slice (some a) m c]).run Tryz.prog W=.ok y W'):y.ownBlock=v.ownBlock∨y.ownBlock=some W.heap.size:=by
 subst F
 have b:∀ (q:Option Addr) (cap:Nat) (olds:List Value),v=.slice q n cap→cap<n+m→(Builtin.firstCells i.size n (.slice q n cap)).run Tryz.prog W.drew=.ok olds.toArray W.drew→y.ownBlock=v.ownBlock∨y.ownBlock=some W.heap.size:=fun q cap olds hv J t=>by
  have C:=nextcap_leP (n+m) cap J
  have A:Builtin.nextslicecap (n+m) cap*i.bytes≤(2*(n+m)+768)*1000:=Nat.mul_le_mul C H
  have r:=run_append_grow_src (P:=Tryz.prog) W T T T e i z G E K q n cap olds t (.slice (some a) m c) m d s J oM (Nat.le_trans A (by clear C A;omega))
  rw[hv,r] at p
  injection p with hr1 o
  right
  rw[← hr1]
  rfl
 rcases id k with ⟨-,⟨rfl,rfl⟩|⟨g,cap,cur,rfl,N,I,Q,R,M,O⟩⟩
 ·by_cases D:m=0
  ·subst D
   have L:=p
   obtain ⟨B,o⟩:∃ B,(Builtin.append_ #[T,T] T #[.slice none 0 0,.slice (some a) 0 c]).run Tryz.prog W=.ok (.slice none 0 0) B:=by
    rcases s.kind with ⟨e',f⟩|f<;>exact ⟨_,by simp[Builtin.append_,run_underlying G,run_underlying f,sizeOf,typeInfo,E,s.len,s.cells];rfl⟩
   rw[o] at p
   injection p with hr1 o
   left
   rw[← hr1]
  ·exact b none 0 [] rfl oM (run_firstCells_none W.drew i.size 0 0 0)
 ·by_cases f:n+m≤cap
  ·have r:=run_append_room_src (P:=Tryz.prog) W T T T e i G E g 0 n cap (.slice (some a) m c) m d s f
    (fun j B=>by
     have D:n*i.size+j<cur.size:=by
      rw[M]
      have C:j<m*i.size:=by rw[← s.newsLen];exact B
      have A:(n+m)*i.size≤cap*i.size:=Nat.mul_le_mul_right _ f
      rw[Nat.add_mul] at A
      omega
     simp[World.cell?,I,Nat.zero_add,Array.getElem?_eq_getElem D])
    (fun j B=>by simp[World.frozen?,I])
   rw[r] at p
   injection p with hr1 o
   left
   rw[← hr1]
   rfl
  ·refine b (some ⟨g,0,none⟩) cap xs rfl oM ?_
   exact run_firstCells_some W.drew i.size n ⟨g,0,none⟩ n cap xs k.1 (fun j u B=>by rw[World.cell?_drew];exact k.cells (g:=g) rfl j u B)
theorem step_runP {P:Program} {k:Array Oper} {o:Oper} {a:Act} {w:World} {K:Act→World→Prop} {Q:Exit→Act→World→Prop} {E:Prop} (e:o.guard=none) (s x:Operand) (t c:TypeId)
 (ho:o.op=.call { callee:=.builtin .append,args:=#[s,x],argTypes:=#[t,c] }) (vs b:Value) (i:a.eval s=vs) (hx:a.eval x=b)
 (d:Value) (w':World) (f:(Builtin.append_ #[t,c] o.type #[vs,b]).run P w=.ok d w') (h:K (a.put o.dst d) w'):if Region.wanted o (yielded k a.tmps)=true then Oper.wp P o a w K Q else E:=by
 have g:Region.wanted o (yielded k a.tmps)=true:=by simp[Region.wanted,e]
 rw[if_pos g]
 exact Lib.wp_append_run w s x t c ho vs b i hx d w' f h
theorem undPT:Tryz.prog.underlying 96=some (.slice 101):=kR
theorem infoPT:(Tryz.prog.info? 101).map (fun i=>(i.size,i.bytes,i.zero.map fun z=>z.cells.size))=some (2,16,some 2):=kR
def pC (x:Addr × Nat):List Value:=[.pointer (some x.1),.int .i64 (x.2:Int)]
def psC (k:List (Addr × Nat)):List Value:=k.flatMap pC
theorem psC_len:∀ k:List (Addr × Nat),(psC k).length=k.length*2
 | []=>rfl
 | x :: r=>by
  have:=psC_len r
  unfold psC at *
  rw[List.flatMap_cons,List.length_append,this,List.length_cons]
  show 2+_=_
  omega
theorem psC_app (a b:List (Addr × Nat)):psC (a++b)=psC a++psC b:=List.flatMap_append
theorem psC_one:∀ (k:List (Addr × Nat)),∀ u∈psC k,u.oneCell'=true:=by
 intro k u b
 obtain ⟨x,-,hx⟩:=List.mem_flatMap.1 b
 unfold pC at hx
 simp only[List.mem_cons,List.not_mem_nil,or_false] at hx
 rcases hx with rfl|rfl<;>rfl
theorem psC_at:∀ (k:List (Addr × Nat)) (j:Nat) (x:Addr × Nat),k[j]? = some x→(psC k)[2*j]? = some (.pointer (some x.1))∧(psC k)[2*j+1]? = some (.int .i64 (x.2:Int))
 | [],j,x,h=>by simp at h
 | y :: r,0,x,h=>by
  obtain rfl:y=x:=by simpa using h
  exact ⟨rfl,rfl⟩
 | y :: r,j+1,x,h=>by
  have:=psC_at r j x (by simpa using h)
  have e:psC (y :: r)=pC y++psC r:=rfl
  rw[e,List.getElem?_append_right (by show 2≤_;omega),List.getElem?_append_right (by show 2≤_;omega)]
  show (psC r)[2*(j+1)-2]? = _∧(psC r)[2*(j+1)+1-2]? = _
  rw[show 2*(j+1)-2=2*j by omega,show 2*(j+1)+1-2=2*j+1 by omega]
  exact this
structure PLs (w W:World) (v:Value) (ps:List (Addr × Nat)):Prop where
 bl:Below w.heap.size w W
 ow:W.ownsRow w.heap.size 101 2 v ps.length (psC ps)
 nn:v.ownBlock≠none
theorem PLs.lt {w W:World} {v:Value} {b:List (Addr × Nat)} (h:PLs w W v b):∃ g cap,v=.slice (some ⟨g,0,none⟩) b.length cap∧w.heap.size≤g∧g<W.heap.size:=by
 rcases id h.ow with ⟨-,⟨rfl,e⟩|⟨g,cap,cur,rfl,d,k,-⟩⟩
 ·exact absurd rfl h.nn
 ·refine ⟨g,cap,rfl,d,?_⟩
  by_cases c:g<W.heap.size
  ·exact c
  ·rw[Array.getElem?_eq_none oM] at k;cases k
theorem PLs.below {w W W':World} {v:Value} {e:List (Addr × Nat)} (h:PLs w W v e) (c:Below W.heap.size W W'):PLs w W' v e:=by
 refine ⟨h.bl.trans (c.mono h.bl.size),?_,h.nn⟩
 rcases h.ow with ⟨d,b|⟨g,cap,cur,b,f,k,j⟩⟩
 ·exact ⟨d,Or.inl b⟩
 ·refine ⟨d,Or.inr ⟨g,cap,cur,b,f,?_,j⟩⟩
  rw[c.block g (by
   by_cases i:g<W.heap.size
   ·exact i
   ·rw[Array.getElem?_eq_none oM] at k;cases k)]
  exact k
theorem PLs.app {w W:World} {v:Value} {f ys:List (Addr × Nat)} {b m c:Nat} (h:PLs w W v f) (hx:W.rangeAt b 0 (psC ys)) (n:ys.length=m) (J:f.length+m≤1000000) (H:0<m) :
 ∃ e W',(Builtin.append_ #[96,96] 96 #[v,.slice (some ⟨b,0,none⟩) m c]).run Tryz.prog W=.ok e W'∧PLs w W' e (f++ys)∧W.grownBy W' v.ownBlock∧(e.ownBlock=v.ownBlock∨e.ownBlock=some W.heap.size):=by
 obtain ⟨i,t,p⟩:=Option.map_eq_some_iff.1 infoPT
 simp only[Prod.mk.injEq] at p
 obtain ⟨q,A,E⟩:=p
 obtain ⟨z,r,l⟩:=Option.map_eq_some_iff.1 E
 obtain ⟨g,cap,rfl,G,C⟩:=h.lt
 have x:∀ (j:Nat) u,(psC ys)[j]? = some u→W.cell? ((⟨b,0,none⟩:Addr).add j)=some u:=fun j u I=>by rw[addP0];exact hx j u I
 obtain ⟨e,W',y,s,d,B⟩:=run_append_own (P:=Tryz.prog) W w.heap.size 96 96 101 i z 2 16 undPT t r q A l dC _ f.length (psC f) h.ow ⟨b,0,none⟩ m c (psC ys) (by rw[psC_len,n]) x (psC_one ys) (by unfold maxLen;omega) oM h.bl.size
 have F:=own_blockP (c:=c) undPT t r q oM h.ow (Src.ofSlice (P:=Tryz.prog) (size:=2) W undPT ⟨b,0,none⟩ m c (psC ys) (by rw[psC_len,n]) x (psC_one ys)) oM y
 refine ⟨e,W',y,⟨⟨by rw[d.os,h.bl.os],by rw[d.tape,h.bl.tape],by rw[d.output,h.bl.output],Nat.le_trans h.bl.size d.size,fun k o=>?_⟩,?_,?_⟩,d,F⟩
 ·rw[d.block k (Nat.lt_of_lt_of_le o h.bl.size) (by simp[Value.ownBlock];omega)]
  exact h.bl.block k o
 ·rw[List.length_append,n,psC_app];exact s
 ·rcases s.2 with ⟨D,-⟩|⟨K,a,cur,rfl,-⟩
  ·have:=(B.1 D).1
   exact absurd this (by simp)
  ·simp[Value.ownBlock]
theorem PLs.at {w W:World} {g n c:Nat} {b:List (Addr × Nat)} (h:PLs w W (.slice (some ⟨g,0,none⟩) n c) b) (j:Nat) (x:Addr × Nat) (f:b[j]? = some x):W.rangeAt g (2*j) (pC x):=fun k u e=>by
 have d:=psC_at b j x f
 have:=h.ow.cells (g:=g) rfl (2*j+k) u (by
  match k,e with
  | 0,h=>rw[← h];exact d.1
  | 1,h=>rw[← h];exact d.2)
 rw[addP0,Nat.zero_add] at this
 exact this
theorem pls_new (w:World) (k:List (Addr × Nat)) (b:k.length≤1000000):PLs w (w.alloc (.cells (psC k).toArray 101)) (.slice (some ⟨w.heap.size,0,none⟩) k.length k.length) k:=
 ⟨alloc_below w _,⟨psC_len k,.inr ⟨w.heap.size,k.length,(psC k).toArray,rfl,Nat.le_refl _,Array.getElem?_push_size,Nat.le_refl _,by unfold maxLen;omega,by rw[List.size_toArray,psC_len],by rw[← psC_len k];simp⟩⟩,by simp[Value.ownBlock]⟩
def lp (b o n:Nat):List (Addr × Nat):=(List.range n).map fun j=>((⟨b,o+j,none⟩:Addr),33)
def basP (k:Nat):List (Addr × Nat):=[(⟨k,0,none⟩,33),(⟨k,1,none⟩,33),(⟨k,2,none⟩,33),(⟨k,3,none⟩,33),(⟨k,4,none⟩,32),(⟨k,5,none⟩,32),(⟨k,6,none⟩,32)]
def endP (k:Nat):List (Addr × Nat):=[(⟨k,9,none⟩,32),(⟨k,10,none⟩,32)]
theorem lp_succ (b o n:Nat):lp b o (n+1)=lp b o n++[(⟨b,o+n,none⟩,33)]:=by
 unfold lp
 rw[List.range_succ,List.map_append]
 rfl
theorem lp_len (b o n:Nat):(lp b o n).length=n:=by unfold lp;simp
def curP (k c d b f or e:Nat):Nat→List (Addr × Nat)
 | 0=>basP k
 | 1=>basP k++lp c d b
 | _=>basP k++lp c d b++lp f or e
structure PI (w w1 w2 W:World) (v:Value) (ps:List (Addr × Nat)):Prop where
 pl:PLs w W v ps
 ne:v.ownBlock≠some w1.heap.size
 eq:W.heap[w1.heap.size]? = w2.heap[w1.heap.size]?
 sz:w2.heap.size≤W.heap.size
theorem PI.app {w k d W:World} {v:Value} {f:List (Addr × Nat)} {x:Addr × Nat} (h:PI w k d W v f) (q:k.heap.size<d.heap.size) (s:f.length≤10000) :
 ∃ b W',(Builtin.append_ #[96,96] 96 #[v,.slice (some ⟨W.heap.size,0,none⟩) 1 1]).run Tryz.prog (W.alloc (.cells (pC x).toArray 101))=.ok b W'∧PI w k d W' b (f++[x]):=by
 have i:=alloc_below W (.cells (pC x).toArray 101)
 have o:(W.alloc (.cells (pC x).toArray 101)).rangeAt W.heap.size 0 (psC [x]):=by
  have e:psC [x]=pC x:=List.append_nil _
  rw[e]
  exact alloc_range W (pC x) _
 obtain ⟨b,W',r,p,g,l⟩:=(h.pl.below i).app (m:=1) (c:=1) o rfl oM dC
 have t:=h.sz
 have n:(W.alloc (.cells (pC x).toArray 101)).heap.size=W.heap.size+1:=World.size_alloc _ _
 refine ⟨b,W',r,p,?_,?_,?_⟩
 ·rcases l with e|e
  ·rw[e];exact h.ne
  ·rw[e,n]
   intro h
   have:=Option.some.inj h
   omega
 ·rw[g.block k.heap.size oM (fun j=>h.ne j.symm),i.block k.heap.size oM]
  exact h.eq
 ·have:=g.size
  omega
theorem idxO (b o n c i:Nat) (d:i<n) (w:World):(Instr.indexAt 27 (.slice (some ⟨b,o,none⟩) n c) (.int .i64 i)).run Tryz.prog w=.ok (.pointer (some ⟨b,o+i,none⟩)) w:=by
 have e:¬ (i:Int)<0:=oM
 have k:(i:Int)<(n:Int):=oM
 have f:=addP0 b o i
 go_simp
theorem partsOf_c (d:Nat) (l r:Sv) (t y z or:Nat) (w:World) (J:d<w.heap.size) (h7:w.cell? ⟨d,7,none⟩=some l.v) (h8:w.cell? ⟨d,8,none⟩=some r.v)
 (H:l.n=0∨l.q=some ⟨t,y,none⟩) (L:r.n=0∨r.q=some ⟨z,or,none⟩) (C:l.n≤1000) (F:r.n≤1000) :
 Calls Tryz.prog 44 #[.pointer (some ⟨d,0,none⟩)] w fun e w'=>∃ v,e=.returned v∧PLs w w' v (basP d++lp t y l.n++lp z or r.n++endP d):=by
 obtain ⟨P,s,cl⟩:=l
 obtain ⟨Q,u,cr⟩:=r
 dsimp only[Sv.v] at *
 obtain ⟨f,D⟩:∃ f,Hid ((w.alloc (.cells #[.pointer (some ⟨d,0,none⟩),.int .i64 33,.pointer (some ⟨d,1,none⟩),.int .i64 33,.pointer (some ⟨d,2,none⟩),.int .i64 33,.pointer (some ⟨d,3,none⟩),.int .i64 33,.pointer (some ⟨d,4,none⟩),.int .i64 32,.pointer (some ⟨d,5,none⟩),.int .i64 32,.pointer (some ⟨d,6,none⟩),.int .i64 32] 101)).drew=f):=⟨_,rfl⟩
 obtain ⟨a,A⟩:∃ a,Hid ((f.alloc (.cells #[.slice P s cl,.slice Q u cr] 27)).drew=a):=⟨_,rfl⟩
 have E:∀ W:World,Below W.heap.size W W.drew:=fun W=>⟨rfl,rfl,rfl,Nat.le_refl _,fun _ _=>rfl⟩
 have p1:PLs w f (.slice (some ⟨w.heap.size,0,none⟩) 7 7) (basP d):=by
  rw[← D.out]
  exact (pls_new w (basP d) (by show 7≤_;omega)).below (E _)
 have Y:Below f.heap.size f a:=by
  rw[← A.out]
  exact (alloc_below f _).trans ((E _).mono (by rw[World.size_alloc];omega))
 have p2:=p1.below Y
 have c7:f.cell? ⟨d,7,none⟩=some (.slice P s cl):=by rw[p1.bl.cell (p:=⟨d,7,none⟩) J];exact h7
 have c8:f.cell? ⟨d,8,none⟩=some (.slice Q u cr):=by rw[p1.bl.cell (p:=⟨d,8,none⟩) J];exact h8
 have d0:a.cell? ⟨f.heap.size,0,none⟩=some (.slice P s cl):=by rw[← A.out,World.cell?_drew];exact alloc_cell f _ _ 0 _ rfl
 have d1:a.cell? ⟨f.heap.size,1,none⟩=some (.slice Q u cr):=by rw[← A.out,World.cell?_drew];exact alloc_cell f _ _ 1 _ rfl
 have s2:f.heap.size<a.heap.size:=by rw[← A.out,World.size_drew,World.size_alloc];omega
 have S:Hid (PI w f a a (.slice (some ⟨w.heap.size,0,none⟩) 7 7) (curP d t y s z or u 0)):=⟨p2,by
  have:f.heap.size=w.heap.size+1:=by rw[← D.out,World.size_drew,World.size_alloc]
  simp[Value.ownBlock];omega,rfl,Nat.le_refl _⟩
 have HN:Hid (∀ (i:Nat) (W:World),i<2→W.heap[f.heap.size]? = a.heap[f.heap.size]?→∃ q n c b o,W.cell? ⟨f.heap.size,i,none⟩=some (.slice q n c)∧(n=0∨q=some ⟨b,o,none⟩)∧n≤1000∧curP d t y s z or u (i+1)=curP d t y s z or u i++lp b o n∧(curP d t y s z or u i).length≤1007):=fun i W R hW=>by
  have B:∀ k,W.cell? ⟨f.heap.size,k,none⟩=a.cell? ⟨f.heap.size,k,none⟩:=fun k=>by
   unfold World.cell?
   rw[hW]
  match i,R with
  | 0,_=>exact ⟨P,s,cl,t,y,by rw[B];exact d0,H,C,rfl,by show 7≤_;omega⟩
  | 1,_=>exact ⟨Q,u,cr,z,or,by rw[B];exact d1,L,F,rfl,by show (basP d++lp t y s).length≤_;rw[List.length_append,lp_len];show 7+s≤_;omega⟩
 have T:=Hid.mkP s2
 clear p1 p2 Y h7 h8 d0 d1 s2 E H L
 go_enter Tryz.func44,Tryz.ntmps44
 go_wp2
 go_region
 rw[D.out]
 go_wp2
 go_region
 rw[A.out]
 go_wp2
 go_loopg [4,50] 2 (fun gk s4 s50 wr=>∃ i:Nat,i+gk=2∧s50=.int .i64 i∧Hid (PI w f a wr s4 (curP d t y s z or u i)))
 case atStart=>exact ⟨0,rfl,rfl,S⟩
 case round =>
  obtain ⟨i,R,rfl,K⟩:=hrel
  by_cases h2:i<2
  ·obtain ⟨q,n,c,b,o,e1,N,e3,e4,e5⟩:=HN.out i wr h2 K.eq
   have U:(i:Int)<2:=oM
   have h0:∀ W:World,(Instr.indexAt 177 (.slice (some ⟨f.heap.size,0,none⟩) 2 2) (.int .i64 i)).run Tryz.prog W=.ok (.pointer (some ⟨f.heap.size,i,none⟩)) W:=fun W=>by
    have C:¬ (i:Int)<0:=oM
    have B:=addP0 f.heap.size 0 i
    rw[Nat.zero_add] at B
    go_simp
   have E2:=Hid.mkP N
   have E4:=Hid.mkP e4
   have E5:=Hid.mkP e5
   clear N e4 e5
   obtain ⟨g,cap,rfl,-,-⟩:=K.pl.lt
   have X:Hid (i+gk=2):=R
   clear R
   go_wp2
   go_loopg [4,56] n (fun m s4 s56 wi=>∃ j:Nat,j+m=n∧s56=.int .i64 j∧Hid (PI w f a wi s4 (curP d t y s z or u i++lp b o j)))
   case atStart=>exact ⟨0,oM,rfl,by
    have e:lp b o 0=[]:=rfl
    rw[e,List.append_nil]
    exact K⟩
   case round =>
    clear K
    obtain ⟨j,hj,rfl,K⟩:=hrel
    obtain ⟨g,cap,rfl,-,-⟩:=K.pl.lt
    have H:(curP d t y s z or u i++lp b o j).length≤10000:=by
     have:=E5.out
     rw[List.length_append,lp_len]
     omega
    by_cases V:j<n
    ·have B:(j:Int)<(n:Int):=oM
     obtain rfl:q=some ⟨b,o,none⟩:=by
      rcases E2.out with h|h
      ·omega
      ·exact h
     have h4:=idxO b o n c j V
     obtain ⟨O,I⟩:∃ O,Hid (wr.alloc (.cells (pC (⟨b,o+j,none⟩,33)).toArray 101)=O):=⟨_,rfl⟩
     obtain ⟨v',W',F,C⟩:=K.app (x:=(⟨b,o+j,none⟩,33)) T.out H
     rw[I.out] at F
     obtain ⟨g',G,rfl,-,-⟩:=C.pl.lt
     generalize (curP d t y s z or u i++lp b o j++[((⟨b,o+j,none⟩:Addr),33)]).length=N2 at F C
     rw[List.append_assoc,← lp_succ] at C
     have M:=Hid.mkP C
     have R1:=Hid.mkP F
     generalize (curP d t y s z or u i++lp b o j).length=Z at R1 ⊢
     clear K F C H
     go_wp2_with (first|(refine wpList_opP (v:=.slice (some ⟨wr.heap.size,0,none⟩) 1 1) (w':=O) rfl (.buildSlice 96 1 #[(0,.tmp 63)]) rfl ?_ ?_;(rw[← I.out];kernel_rfl))|(at_builtin;refine Lib.wpList_append_run O rfl _ _ _ _ rfl _ _ rfl rfl _ _ R1.out ?_)|fail)
     go_roundg (gk-1)
     case measure=>omega
     case rel=>exact ⟨j+1,oM,rfl,M⟩
    ·have B:¬ (j:Int)<(n:Int):=oM
     obtain rfl:j=n:=oM
     rw[← E4.out] at K ⊢
     go_wp2
     go_roundg (1-i)
     case measure =>
      have:=X.out
      omega
     case rel=>exact ⟨i+1,oM,rfl,K⟩
  ·have U:¬ (i:Int)<2:=oM
   obtain rfl:i=2:=oM
   obtain ⟨g,cap,rfl,-,-⟩:=K.pl.lt
   have I:(curP d t y s z or u 2).length≤2007:=by
    show (basP d++lp t y s++lp z or u).length≤_
    rw[List.length_append,List.length_append,lp_len,lp_len]
    show 7+_+_≤_
    omega
   have O:=(alloc_below wr (.cells (psC (endP d)).toArray 101)).trans (⟨rfl,rfl,rfl,Nat.le_refl _,fun _ _=>rfl⟩:Below wr.heap.size (wr.alloc (.cells (psC (endP d)).toArray 101)) (wr.alloc (.cells (psC (endP d)).toArray 101)).drew)
   have L:(wr.alloc (.cells (psC (endP d)).toArray 101)).drew.rangeAt wr.heap.size 0 (psC (endP d)):=by
    rw[World.rangeAt_drew]
    exact alloc_range wr _ _
   obtain ⟨v',W',F,C,-,-⟩:=(K.pl.below O).app (m:=2) (c:=2) L rfl oM dC
   have B:Hid ((Builtin.append_ #[96,96] 96 #[.slice (some ⟨g,0,none⟩) (curP d t y s z or u 2).length cap,.slice (some ⟨wr.heap.size,0,none⟩) 2 2]).run Tryz.prog (wr.alloc (.cells #[.pointer (some ⟨d,9,none⟩),.int .i64 32,.pointer (some ⟨d,10,none⟩),.int .i64 32] 101)).drew=.ok v' W'):=F
   have M:=Hid.mkP C
   obtain ⟨g',G,rfl,-,-⟩:=C.lt
   have N:curP d t y s z or u 2++endP d=basP d++lp t y s++lp z or u++endP d:=rfl
   rw[N] at M B
   generalize (basP d++lp t y s++lp z or u++endP d).length=N2 at M B
   generalize (curP d t y s z or u 2).length=Z at B ⊢
   clear K I F C O L N
   go_wp2
   go_region_law (refine step_runP rfl (.tmp 68) (.tmp 77) 96 96 rfl (.slice (some ⟨g,0,none⟩) Z cap) (.slice (some ⟨wr.heap.size,0,none⟩) 2 2) (by simp[Act.eval,Act.put]) (by simp[Act.eval,Act.put]) _ _ B.out ?_)
   go_wp2
   go_ret
   exact ⟨_,rfl,M.out⟩
theorem infoU8:(Tryz.prog.info? 5).map (fun i=>(i.size,i.bytes,i.zero.map fun z=>z.cells.size))=some (1,1,some 1):=kR
def bC (b:SP.Bs):List Value:=b.toList.map SP.encB
theorem bC_len (b:SP.Bs):(bC b).length=b.size:=by unfold bC;simp
theorem bC_one (b:SP.Bs):∀ u∈bC b,u.oneCell'=true:=by
 intro u k
 obtain ⟨x,-,rfl⟩:=List.mem_map.1 k
 rfl
theorem bC_app (a b:SP.Bs):bC (a++b)=bC a++bC b:=by unfold bC;simp
theorem Pt.vl {W:World} {q:Option Addr} {n c:Nat} {b:SP.Bs} (h:Pt W (.slice q n c) b):n=b.size∧VL W q n (bC b):=by
 obtain ⟨p,r,m,k⟩:=h
 injection m with e1 e2 e3
 subst e1 e2
 refine ⟨rfl,⟨bC_len b,?_,?_,bC_one b⟩⟩
 ·intro d
  rcases k with k|⟨g,o,e,-⟩
  ·exact k
  ·rw[d] at e;cases e
 ·rcases k with k|⟨g,o,e,i,l⟩
  ·left
   have:(bC b).length=0:=by rw[bC_len];exact k
   exact List.length_eq_zero_iff.1 this
  ·right
   refine ⟨g,o,e,i,fun j u f=>?_⟩
   unfold bC at f
   rw[List.getElem?_map] at f
   obtain ⟨x,hx,rfl⟩:=Option.map_eq_some_iff.1 f
   have d:j<b.size:=by
    have:=(List.getElem?_eq_some_iff.1 hx).1
    simpa using this
   rw[(l j d).1]
   rw[getElem!_pos b j d]
   have:=(List.getElem?_eq_some_iff.1 hx).2
   rw[Array.getElem_toList] at this
   rw[this]
structure PuI (w w4 W:World) (gp gq:Nat) (v:Value) (b:SP.Bs):Prop where
 bl:Below w.heap.size w W
 ow:W.ownsRow w.heap.size 5 1 v b.size (bC b)
 nn:v.ownBlock≠none
 n1:v.ownBlock≠some gp
 n2:v.ownBlock≠some gq
 e1:W.heap[gp]? = w4.heap[gp]?
 e2:W.heap[gq]? = w4.heap[gq]?
 sz:w4.heap.size≤W.heap.size
 l1:gp<w4.heap.size
 l2:gq<w4.heap.size
theorem PuI.lt {w e W:World} {c f:Nat} {v:Value} {b:SP.Bs} (h:PuI w e W c f v b):∃ g cap,v=.slice (some ⟨g,0,none⟩) b.size cap∧w.heap.size≤g∧g<W.heap.size:=by
 rcases id h.ow with ⟨-,⟨rfl,j⟩|⟨g,cap,cur,rfl,i,k,-⟩⟩
 ·exact absurd rfl h.nn
 ·refine ⟨g,cap,rfl,i,?_⟩
  by_cases d:g<W.heap.size
  ·exact d
  ·rw[Array.getElem?_eq_none oM] at k;cases k
theorem PuI.below {w j W W':World} {c d:Nat} {v:Value} {b:SP.Bs} (h:PuI w j W c d v b) (k:Below W.heap.size W W'):PuI w j W' c d v b:=by
 have o:=h.sz
 refine ⟨h.bl.trans (k.mono h.bl.size),?_,h.nn,h.n1,h.n2,by rw[k.block c (by have:=h.l1;omega)];exact h.e1,by rw[k.block d (by have:=h.l2;omega)];exact h.e2,Nat.le_trans o k.size,h.l1,h.l2⟩
 rcases h.ow with ⟨i,f|⟨g,cap,cur,f,l,e,m⟩⟩
 ·exact ⟨i,Or.inl f⟩
 ·refine ⟨i,Or.inr ⟨g,cap,cur,f,l,?_,m⟩⟩
  rw[k.block g (by
   by_cases n:g<W.heap.size
   ·exact n
   ·rw[Array.getElem?_eq_none oM] at e;cases e)]
  exact e
theorem undB5:Tryz.prog.underlying 23=some (.slice 5):=kR
theorem PuI.app {w t W:World} {m n:Nat} {v:Value} {b x:SP.Bs} {q:Option Addr} {c:Nat} (h:PuI w t W m n v b) (hx:VL W q x.size (bC x)) (N:b.size+x.size≤1000000) :
 ∃ l W',(Builtin.append_ #[23,23] 23 #[v,.slice q x.size c]).run Tryz.prog W=.ok l W'∧PuI w t W' m n l (b++x):=by
 obtain ⟨i,y,B⟩:=Option.map_eq_some_iff.1 infoU8
 simp only[Prod.mk.injEq] at B
 obtain ⟨C,G,I⟩:=B
 obtain ⟨z,E,r⟩:=Option.map_eq_some_iff.1 I
 obtain ⟨g,cap,rfl,K,H⟩:=h.lt
 have L:=h.sz
 cases q with
 | none =>
  have A:=hx.nil rfl
  obtain rfl:x=#[]:=Array.eq_empty_of_size_eq_zero A
  rcases id h.ow with ⟨-,⟨d,-⟩|⟨M,s,cur,d,F,J,D,O⟩⟩
  ·cases d
  ·injection d with d _ h0'
   injection d with d
   injection d with d
   subst d h0'
   have p:=run_append_room_src (P:=Tryz.prog) W 23 23 23 5 i undB5 y g 0 b.size cap (.slice none 0 c) 0 [] (Src.ofNil (e':=5) _ undB5 c) D (fun j f=>by cases f) (fun j f=>by cases f)
   refine ⟨_,_,p,?_⟩
   rw[Array.append_empty]
   exact h
 | some a =>
  have p:∀ (j:Nat) u,(bC x)[j]? = some u→W.cell? (a.add j)=some u:=fun j u f=>by
   rcases hx.cells with d|⟨b,o,s,-,p⟩
   ·rw[d] at f;cases f
   ·obtain rfl:=Option.some.inj s
    rw[addP0];exact p j u f
  obtain ⟨l,W',F,J,d,M⟩:=run_append_own (P:=Tryz.prog) W w.heap.size 23 23 5 i z 1 1 undB5 y E C G r dC _ b.size (bC b) h.ow a x.size c (bC x) (by rw[bC_len];omega) p (bC_one x) (by unfold maxLen;omega) oM h.bl.size
  have D:=own_blockP (c:=c) undB5 y E C oM h.ow (Src.ofSlice (P:=Tryz.prog) (size:=1) W undB5 a x.size c (bC x) (by rw[bC_len];omega) p (bC_one x)) oM F
  have A:∀ k,k<t.heap.size→l.ownBlock≠some k∨(Value.slice (some ⟨g,0,none⟩) b.size cap).ownBlock=some k:=fun k s=>by
   rcases D with e|e
   ·by_cases hh:(Value.slice (some ⟨g,0,none⟩) b.size cap).ownBlock=some k
    ·exact Or.inr hh
    ·left;rw[e];exact hh
   ·left;rw[e];intro hh;have:=Option.some.inj hh;omega
  refine ⟨l,W',F,⟨⟨by rw[d.os,h.bl.os],by rw[d.tape,h.bl.tape],by rw[d.output,h.bl.output],Nat.le_trans h.bl.size d.size,fun k s=>?_⟩,?_,?_,?_,?_,?_,?_,?_,h.l1,h.l2⟩⟩
  ·rw[d.block k (Nat.lt_of_lt_of_le s h.bl.size) (by simp[Value.ownBlock];omega)]
   exact h.bl.block k s
  ·rw[Array.size_append,bC_app];exact J
  ·rcases D with e|e<;>rw[e]
   ·simp[Value.ownBlock]
   ·simp
  ·rcases A m h.l1 with e|e
   ·exact e
   ·exact absurd e h.n1
  ·rcases A n h.l2 with e|e
   ·exact e
   ·exact absurd e h.n2
  ·rw[d.block m (by have:=h.l1;omega) (fun e=>h.n1 e.symm)];exact h.e1
  ·rw[d.block n (by have:=h.l2;omega) (fun e=>h.n2 e.symm)];exact h.e2
  ·exact Nat.le_trans L d.size
theorem own_blockQ {w n m size c:Nat} {T e:TypeId} {i:TypeInfo} {z:Value} {W W':World} {v y:Value} {xs d:List Value} {a:Addr} (G:Tryz.prog.underlying T=some (.slice e)) (E:Tryz.prog.info? e=some i) (K:i.zero=some z) (F:i.size=size) (H:i.bytes≤1000)
 (k:W.ownsRow w e size v n xs) (s:Src Tryz.prog size T (.slice (some a) m c) m d W) (b:n+m≤1000000000)
 (p:(Builtin.append_ #[T,T] T #[v,.slice (some a) m c]).run Tryz.prog W=.ok y W'):y.ownBlock=v.ownBlock∨(y.ownBlock=some W.heap.size∧Below W.heap.size W W'):=by
 subst F
 have b:∀ (q:Option Addr) (cap:Nat) (olds:List Value),v=.slice q n cap→cap<n+m→(Builtin.firstCells i.size n (.slice q n cap)).run Tryz.prog W.drew=.ok olds.toArray W.drew→y.ownBlock=v.ownBlock∨(y.ownBlock=some W.heap.size∧Below W.heap.size W W'):=fun q cap olds hv J t=>by
  have C:=nextcap_leP (n+m) cap J
  have A:Builtin.nextslicecap (n+m) cap*i.bytes≤(2*(n+m)+768)*1000:=Nat.mul_le_mul C H
  have r:=run_append_grow_src (P:=Tryz.prog) W T T T e i z G E K q n cap olds t (.slice (some a) m c) m d s J oM (Nat.le_trans A (by clear C A;omega))
  rw[hv,r] at p
  injection p with hr1 f
  right
  refine ⟨by rw[← hr1];rfl,?_⟩
  rw[← f]
  exact (⟨rfl,rfl,rfl,Nat.le_refl _,fun _ _=>rfl⟩:Below W.heap.size W W.drew).trans (alloc_below W.drew _)
 rcases id k with ⟨-,⟨rfl,rfl⟩|⟨g,cap,cur,rfl,N,I,Q,R,M,O⟩⟩
 ·by_cases D:m=0
  ·subst D
   have L:=p
   obtain ⟨B,f⟩:∃ B,(Builtin.append_ #[T,T] T #[.slice none 0 0,.slice (some a) 0 c]).run Tryz.prog W=.ok (.slice none 0 0) B:=by
    rcases s.kind with ⟨e',o⟩|o<;>exact ⟨_,by simp[Builtin.append_,run_underlying G,run_underlying o,sizeOf,typeInfo,E,s.len,s.cells];rfl⟩
   rw[f] at p
   injection p with hr1 f
   left
   rw[← hr1]
  ·exact b none 0 [] rfl oM (run_firstCells_none W.drew i.size 0 0 0)
 ·by_cases o:n+m≤cap
  ·have r:=run_append_room_src (P:=Tryz.prog) W T T T e i G E g 0 n cap (.slice (some a) m c) m d s o
    (fun j B=>by
     have D:n*i.size+j<cur.size:=by
      rw[M]
      have C:j<m*i.size:=by rw[← s.newsLen];exact B
      have A:(n+m)*i.size≤cap*i.size:=Nat.mul_le_mul_right _ o
      rw[Nat.add_mul] at A
      omega
     simp[World.cell?,I,Nat.zero_add,Array.getElem?_eq_getElem D])
    (fun j B=>by simp[World.frozen?,I])
   rw[r] at p
   injection p with hr1 f
   left
   rw[← hr1]
   rfl
  ·refine b (some ⟨g,0,none⟩) cap xs rfl oM ?_
   exact run_firstCells_some W.drew i.size n ⟨g,0,none⟩ n cap xs k.1 (fun j u B=>by rw[World.cell?_drew];exact k.cells (g:=g) rfl j u B)
structure Ap1 (W W':World) (v v':Value):Prop where
 os:W'.os=W.os
 tape:W'.tape=W.tape
 output:W'.output=W.output
 size:W.heap.size≤W'.heap.size
 keep:∀ g,g<W.heap.size→v.ownBlock≠some g→W'.heap[g]? = W.heap[g]?
 mv:v'.ownBlock=v.ownBlock∨((∃ g,v'.ownBlock=some g∧W.heap.size≤g)∧∀ g,g<W.heap.size→W'.heap[g]? = W.heap[g]?)
theorem own_keep {W W':World} {b n k:Nat} {e:TypeId} {v:Value} {xs:List Value} (h:W.ownsRow b e k v n xs) (i:∀ g,v.ownBlock=some g→W'.heap[g]? = W.heap[g]?):W'.ownsRow b e k v n xs:=by
 rcases h with ⟨c,l|⟨g,cap,cur,rfl,d,j,f⟩⟩
 ·exact ⟨c,Or.inl l⟩
 ·exact ⟨c,Or.inr ⟨g,cap,cur,rfl,d,by rw[i g rfl];exact j,f⟩⟩
theorem own_lt {W:World} {b n k g:Nat} {e:TypeId} {v:Value} {xs:List Value} (h:W.ownsRow b e k v n xs) (c:v.ownBlock=some g):b≤g∧g<W.heap.size∧∃ cur,W.heap[g]? = some (.cells cur e (0,0)):=by
 rcases h with ⟨j,⟨rfl,-⟩|⟨f,cap,cur,rfl,i,d,l⟩⟩
 ·cases c
 ·obtain rfl:f=g:=Option.some.inj c
  refine ⟨i,?_,cur,d⟩
  by_cases c:f<W.heap.size
  ·exact c
  ·rw[Array.getElem?_eq_none oM] at d;cases d
def TyQ (W:World) (L g:Nat):Prop:=g<W.heap.size∧(g<L∨∃ cur,W.heap[g]? = some (.cells cur 5 (0,0)))
theorem own_holdsQ {W:World} {B g c:Nat} {b:SP.Bs} (h:W.ownsRow B 5 1 (.slice (some ⟨g,0,none⟩) b.size c) b.size (bC b)):Holds SP.encB W g 0 b:=fun k d=>by
 obtain ⟨-,-,cur,f⟩:=own_lt h (g:=g) rfl
 refine ⟨?_,by simp[World.frozen?,f]⟩
 have e:=h.cells (g:=g) rfl k (SP.encB b[k]!) (by
  unfold bC
  rw[List.getElem?_map,List.getElem?_eq_getElem (by simpa using d),Option.map_some,getElem!_pos b k d]
  simp)
 rw[addP0] at e
 exact e
def RV (W:World) (L:Nat) (v:Value) (b:SP.Bs):Prop:=(b.size=0∧v=.slice none 0 0)∨∃ g c,v=.slice (some ⟨g,0,none⟩) b.size c∧TyQ W L g∧Holds SP.encB W g 0 b
end
section
open Go.RowKit Go.Sort Go.Deep
variable {P:Nat} [NeZero P] {N:Nat}
theorem app_own {k n ga:Nat} {W:World} {v x:Value} {xs:List Value} (b:W.ownsRow k 23 1 v n xs) (hx:x.oneCell'=true) (d:W.cell? ⟨ga,0,none⟩=some x) (I:n≤1000) (F:k≤W.heap.size) :
 ∃ m W',(Builtin.append_ #[27,27] 27 #[v,.slice (some ⟨ga,0,none⟩) 1 1]).run Tryz.prog W=.ok m W'∧W'.ownsRow k 23 1 m (n+1) (xs++[x])∧Ap1 W W' v m:=by
 obtain ⟨i,w,r⟩:=Option.map_eq_some_iff.1 infoBB
 simp only[Prod.mk.injEq] at r
 obtain ⟨s,C,D⟩:=r
 obtain ⟨z,t,o⟩:=Option.map_eq_some_iff.1 D
 have y:∀ (j:Nat) u,[x][j]? = some u→W.cell? ((⟨ga,0,none⟩:Addr).add j)=some u:=fun j u A=>by
  rw[addP0,Nat.zero_add]
  have e:j=0:=by have:=(List.getElem?_eq_some_iff.1 A).1;simp at this;omega
  subst e
  obtain rfl:x=u:=by simpa using A
  exact d
 have e:∀ u∈[x],u.oneCell'=true:=fun u H=>by
  obtain rfl:u=x:=by simpa using H
  exact hx
 obtain ⟨m,W',B,G,f,-⟩:=run_append_own (P:=Tryz.prog) W k 27 27 23 i z 1 24 undBB w t s C o dC v n xs b ⟨ga,0,none⟩ 1 1 [x] rfl y e (by unfold maxLen;omega) oM F
 have E:=own_blockQ (c:=1) undBB w t s oM b (Src.ofSlice (P:=Tryz.prog) (size:=1) W undBB ⟨ga,0,none⟩ 1 1 [x] rfl y e) oM B
 refine ⟨m,W',B,G,f.os,f.tape,f.output,f.size,fun g q hv=>f.block g q (fun h=>hv h.symm),?_⟩
 rcases E with h|⟨h,p⟩
 ·exact Or.inl h
 ·exact Or.inr ⟨⟨_,h,Nat.le_refl _⟩,fun g q=>p.block g q⟩
section
variable {Q Q':Nat→Prop} {W:World} {v:Value} {n:Nat}
theorem SmQ.mono2 {l:List (Nat × Bs)} (h:SmQ Q W v l) (b:∀ g,g<W.heap.size→Q g→Q' g):SmQ Q' W v l:=by
 obtain ⟨g,c,i,d,f,k,e⟩:=h
 exact ⟨g,c,i,d,b g k f,k,e⟩
theorem SLq.mono2 {a:Nat→Nat} (h:SLq Q W v n a) (b:∀ g,g<W.heap.size→Q g→Q' g):SLq Q' W v n a:=by
 obtain ⟨g,o,c,i,d,f,k,e⟩:=h
 exact ⟨g,o,c,i,d,b g k f,k,e⟩
theorem GLq.mono2 {T:Nat→List (Nat × Bs)} (h:GLq Q W v n T) (k:∀ g,g<W.heap.size→Q g→Q' g):GLq Q' W v n T:=by
 obtain ⟨g,o,c,p,d,m,b,i⟩:=h
 refine ⟨g,o,c,p,d,k g b m,b,fun j f=>?_⟩
 obtain ⟨x,e,l⟩:=i j f
 exact ⟨x,e,l.mono2 k⟩
theorem GRq.mono2 {G H:Nat→List (Nat × Bs)} {U:List (Nat × Bs)} (h:GRq Q W v n G H U) (k:∀ g,g<W.heap.size→Q g→Q' g):GRq Q' W v n G H U:=by
 obtain ⟨e,d,i,j,b,f,c⟩:=h.ex
 exact ⟨e,d,i,j,b.mono2 k,f.mono2 k,c.mono2 k⟩
end
def ElQ (Q:Nat→Prop) (m:Nat) (W:World) (x:Value) (b:Bs):Prop:=∃ k c,x=.slice (some ⟨k,0,none⟩) m c∧m≤c∧b.size=m∧Q k∧k<W.heap.size∧Holds encB W k 0 b
section
variable {Q Q':Nat→Prop} {W W':World} {x:Value} {m:Nat} {b:Bs}
theorem ElQ.keep (h:ElQ Q m W x b) (g:Kq Q W W'):ElQ Q m W' x b:=by
 obtain ⟨k,c,p,i,o,f,d,l⟩:=h
 refine ⟨k,c,p,i,o,f,Nat.lt_of_lt_of_le d g.size,fun j n=>?_⟩
 have e:=g.block k f d
 rw[World.cell?_of_block (a:=⟨k,0+j,none⟩) e,World.frozen?_of_block (a:=⟨k,0+j,none⟩) e]
 exact l j n
theorem ElQ.mono2 (h:ElQ Q m W x b) (e:∀ g,g<W.heap.size→Q g→Q' g):ElQ Q' m W x b:=by
 obtain ⟨k,c,n,f,j,l,d,i⟩:=h
 exact ⟨k,c,n,f,j,e k d l,d,i⟩
theorem ElQ.one (h:ElQ Q m W x b):x.cells=#[x]∧x.oneCell'=true:=by
 obtain ⟨k,c,rfl,-⟩:=h
 exact ⟨rfl,rfl⟩
theorem ElQ.arg (h:ElQ Q 33 W x b):Arg33 W x b:=by
 obtain ⟨k,c,rfl,d,g,-,f,e⟩:=h
 exact ⟨_,33,c,rfl,g,fun _=>⟨k,0,rfl,d,f,e⟩⟩
end
def r33 (g:Nat):Value:=.slice (some ⟨g,0,none⟩) 33 33
def r32 (g:Nat):Value:=.slice (some ⟨g,0,none⟩) 32 32
theorem ptBytesQ_c {a:Bs} (i:a.size=33) (w:World):Calls Tryz.prog 19 #[pvl a] w (Ret fun e w'=>Below w.heap.size w w'∧ElQ (w.heap.size≤·) 33 w' e a∧∃ g,e=r33 g):=by
 have f:=Hid.mk' (boxCP i w)
 obtain ⟨c,b⟩:=hE (w.alloc (.cells (bl33 a).toArray 51))
 rw[b.out] at f
 have K:Hid (Row c w.heap.size (bl33 a)∧Below w.heap.size w c):=by rw[← b.out];exact ⟨row_new w _ _,below1 w _⟩
 obtain ⟨va,k⟩:=hE (pvl a)
 have d:Hid ((Instr.box 51 va).run Tryz.prog w=.ok (.pointer (some ⟨w.heap.size,0,none⟩)) c):=by rw[← k.out];exact f
 rw[k.out]
 have j:=slCP w.heap.size
 go_enter Tryz.func19,Tryz.ntmps19
 go_wp2_with (first|(refine wpList_box (u:=va) (v:=.pointer (some ⟨w.heap.size,0,none⟩)) (w':=c) rfl 51 (.tmp 0) rfl ?_ ?_ ?_;rfl;exact d.out))
 go_ret
 exact ⟨_,rfl,K.2,⟨w.heap.size,33,rfl,oM,i,Nat.le_refl _,K.1.1,row_holds K.1⟩,_,rfl⟩
structure TlL (Q:Nat→Prop) (base i:Nat) (W:World) (v:Value) (B:Nat→Bs):Prop where
 ex:∃ xs,W.ownsRow base 23 1 v i xs∧∀ j,j<i→∃ x,xs[j]? = some x∧ElQ Q 33 W x (B j)
def QH (r k:Nat) (b c:Value) (g:Nat):Prop:=g≠r∧(g<k∨k+4≤g)∧b.ownBlock≠some g∧c.ownBlock≠some g
def Dj (W:World) (B i j:Nat) (v u:Value):Prop:=∃ l m:List Nat,(l++m).Nodup∧W.ownsRow 0 23 1 v i (l.map r33)∧W.ownsRow 0 23 1 u j (m.map r33)∧∀ g,g∈l++m→B≤g∧g<W.heap.size
theorem nd_mid {l m:List Nat} {g:Nat} (h:(l++m).Nodup) (k:g ∉ l++m):(l++[g]++m).Nodup:=by
 simp only[List.nodup_append,List.mem_append,not_or,List.mem_singleton,List.nodup_cons,List.not_mem_nil,not_false_eq_true,List.nodup_nil,and_true,true_and] at *
 grind
theorem nd_comm {l m:List Nat} (h:(l++m).Nodup):(m++l).Nodup:=by
 simp only[List.nodup_append] at *
 grind
theorem own_uniq {W:World} {b e n:Nat} {T:TypeId} {v:Value} {xs ys:List Value} (k:W.ownsRow b T 1 v n xs) (c:W.ownsRow e T 1 v n ys):xs=ys:=by
 have i:=k.1
 have l:=c.1
 rcases id k with ⟨-,⟨-,d⟩|⟨g,cap,cur,rfl,-⟩⟩
 ·subst d
  rw[List.eq_nil_of_length_eq_zero (by omega:xs.length=0),List.eq_nil_of_length_eq_zero (by omega:ys.length=0)]
 ·refine List.ext_getElem? fun j=>?_
  by_cases m:j<n
  ·have f:=k.cells (g:=g) rfl j xs[j] (List.getElem?_eq_getElem oM)
   have a2:=c.cells (g:=g) rfl j ys[j] (List.getElem?_eq_getElem oM)
   rw[f] at a2
   rw[List.getElem?_eq_getElem (by omega:j<xs.length),List.getElem?_eq_getElem (by omega:j<ys.length)]
   exact a2
  ·rw[List.getElem?_eq_none oM,List.getElem?_eq_none oM]
section
variable {W W' W1:World} {B i j:Nat} {v u:Value}
theorem Dj.keep (h:Dj W B i j v u) (d:W.heap.size≤W'.heap.size) (hv:∀ g,v.ownBlock=some g→W'.heap[g]? = W.heap[g]?) (e:∀ g,u.ownBlock=some g→W'.heap[g]? = W.heap[g]?):Dj W' B i j v u:=by
 obtain ⟨l,m,n,c,f,k⟩:=h
 exact ⟨l,m,n,own_keep c hv,own_keep f e,fun g b=>⟨(k g b).1,Nat.lt_of_lt_of_le (k g b).2 d⟩⟩
theorem Dj.swap (h:Dj W B i j v u):Dj W B j i u v:=by
 obtain ⟨l,m,e,b,d,c⟩:=h
 exact ⟨m,l,nd_comm e,d,b,fun g k=>c g (by rw[List.mem_append] at k ⊢;exact k.symm)⟩
theorem Dj.app {g:Nat} {r:Value} {xs:List Value} {b:Nat} (h:Dj W B i j v u) (p:B≤g∧W.heap.size≤g∧g<W'.heap.size) (t:W.heap.size≤W'.heap.size) (hx:W1.ownsRow b 23 1 v i xs) (hv:∀ g,v.ownBlock=some g→W1.heap[g]? = W.heap[g]?) (w:∀ g,u.ownBlock=some g→W'.heap[g]? = W.heap[g]?) (q:W'.ownsRow b 23 1 r (i+1) (xs++[r33 g])):Dj W' B (i+1) j r u:=by
 obtain ⟨l,m,c,f,k,n⟩:=h
 rw[own_uniq hx (own_keep f hv)] at q
 refine ⟨l++[g],m,nd_mid c fun e=>by have:=(n g e).2;omega,?_,own_keep k w,fun s d=>?_⟩
 ·rw[List.map_append]
  rcases q with ⟨o,c|⟨g,cap,cur,rfl,f,k⟩⟩
  ·exact ⟨o,Or.inl c⟩
  ·exact ⟨o,Or.inr ⟨g,cap,cur,rfl,Nat.zero_le _,k⟩⟩
 ·by_cases e:s=g
  ·rw[e];exact ⟨p.1,p.2.2⟩
  ·have o:=n s (by simp only[List.mem_append,List.mem_singleton] at d ⊢;grind)
   exact ⟨o.1,Nat.lt_of_lt_of_le o.2 t⟩
end
def R3 (W:World) (K:Nat) (x y:Value):Prop:=K<W.heap.size∧∃ rs,rs.length=2∧Row W K (x :: y :: rs)
theorem R3.same {W W':World} {K:Nat} {x y:Value} (h:R3 W K x y) (k:W.heap.size≤W'.heap.size) (e:W'.heap[K]? = W.heap[K]?):R3 W' K x y:=by
 obtain ⟨d,rs,b,c⟩:=h
 exact ⟨Nat.lt_of_lt_of_le d k,rs,b,row_same c k e⟩
structure Ph (w W:World) (r k iL iR n:Nat) (cL cR vL vR v va vb:Value) (Lb Rb:Nat→Bs) (L:Bs) (a b:Nat→Nat) (G H:Nat→List (Nat × Bs)) (U:List (Nat × Bs)):Prop where
 on:SP.Only r 0 32 w W
 rk:r<k
 wk:w.heap.size=k
 r0:Row W k [.pointer (some ⟨r,0,none⟩)]
 r1:∃ e:Array Value,v=.agg e∧e.size=3∧e.all (·.oneCell')=true∧Row W (k+1) e.toList
 r2:Row W (k+2) [.slice none 0 0,.slice none 0 0,.slice none 0 0,.slice none 0 0]
 r3:R3 W (k+3) cL cR
 tL:TlL (QH r k vL vR) (k+4) iL W vL Lb
 tR:TlL (QH r k vL vR) (k+4) iR W vR Rb
 ne:∀ g,vL.ownBlock=some g→vR.ownBlock≠some g
 la:SLq (QH r k vL vR) W va n a
 lb:SLq (QH r k vL vR) W vb n b
 gr:GRq (QH r k vL vR) W v n G H U
 lg:Holds encB W r 0 L
 ls:L.size=32
 dj:Dj W (k+4) iL iR vL vR
section
variable {w W W' W1:World} {r k iL iR n:Nat} {cL cR vL vR v va vb:Value} {Lb Rb:Nat→Bs} {L:Bs} {a b:Nat→Nat} {G H:Nat→List (Nat × Bs)} {U:List (Nat × Bs)}
theorem TlL.lt {Q:Nat→Prop} {k i:Nat} {B:Nat→Bs} (h:TlL Q k i W v B) {g:Nat} (b:v.ownBlock=some g):k≤g∧g<W.heap.size:=by
 obtain ⟨xs,c,-⟩:=h.ex
 have:=own_lt c b
 exact ⟨this.1,this.2.1⟩
theorem TlL.keep {Q:Nat→Prop} {k i:Nat} {B:Nat→Bs} (h:TlL Q k i W v B) (f:Kq Q W W') (ho:∀ g,v.ownBlock=some g→W'.heap[g]? = W.heap[g]?):TlL Q k i W' v B:=by
 obtain ⟨xs,l,b⟩:=h.ex
 refine ⟨xs,own_keep l ho,fun j d=>?_⟩
 obtain ⟨x,e,c⟩:=b j d
 exact ⟨x,e,c.keep f⟩
theorem TlL.mono2 {Q Q':Nat→Prop} {k i:Nat} {B:Nat→Bs} (h:TlL Q k i W v B) (b:∀ g,g<W.heap.size→Q g→Q' g):TlL Q' k i W v B:=by
 obtain ⟨xs,l,c⟩:=h.ex
 refine ⟨xs,l,fun j e=>?_⟩
 obtain ⟨x,f,d⟩:=c j e
 exact ⟨x,f,d.mono2 b⟩
theorem Ph.qn (h:Ph w W r k iL iR n cL cR vL vR v va vb Lb Rb L a b G H U):∀ g,W.heap.size≤g→QH r k vL vR g:=fun g c =>
 ⟨by have:=h.rk;have:=h.r0.1;omega,Or.inr (by have:=h.r3.1;omega),fun e=>by have:=h.tL.lt e;omega,fun e=>by have:=h.tR.lt e;omega⟩
theorem Ph.any (h:Ph w W r k iL iR n cL cR vL vR v va vb Lb Rb L a b G H U) (m:SP.Only r 0 32 w W') (kq:Kq (QH r k vL vR) W W') (c:∀ g,k≤g→g<k+4→W'.heap[g]? = W.heap[g]?) (j:∀ g,vL.ownBlock=some g→W'.heap[g]? = W.heap[g]?) (i:∀ g,vR.ownBlock=some g→W'.heap[g]? = W.heap[g]?) {f:Bs} (p:Holds encB W' r 0 f) (d:f.size=32):Ph w W' r k iL iR n cL cR vL vR v va vb Lb Rb f a b G H U:=by
 obtain ⟨e,q,l,e3,o⟩:=h.r1
 exact ⟨m,h.rk,h.wk,row_same h.r0 kq.size (c k oM oM),⟨e,q,l,e3,row_same o kq.size (c _ oM oM)⟩,row_same h.r2 kq.size (c _ oM oM),h.r3.same kq.size (c _ oM oM),h.tL.keep kq j,h.tR.keep kq i,h.ne,h.la.keep kq,h.lb.keep kq,h.gr.keep kq,p,d,h.dj.keep kq.size j i⟩
theorem Ph.grow (h:Ph w W r k iL iR n cL cR vL vR v va vb Lb Rb L a b G H U) (c:Below W.heap.size W W'):Ph w W' r k iL iR n cL cR vL vR v va vb Lb Rb L a b G H U:=by
 have e:=Holds.lt h.lg (by rw[h.ls];decide)
 exact h.any (h.on.trans (SP.Only.of_below c rfl e)) (Kq.of_below c) (fun g i f=>c.block g (by have:=h.r3.1;omega)) (fun g d=>c.block g (h.tL.lt d).2) (fun g d=>c.block g (h.tR.lt d).2) (Holds.below h.lg c e) h.ls
theorem Ph.drew (h:Ph w W r k iL iR n cL cR vL vR v va vb Lb Rb L a b G H U):Ph w W.drew r k iL iR n cL cR vL vR v va vb Lb Rb L a b G H U:=h.grow ⟨rfl,rfl,rfl,Nat.le_refl _,fun _ _=>rfl⟩
theorem Ph.say {e:Bs} (h:Ph w W r k iL iR n cL cR vL vR v va vb Lb Rb L a b G H U) (d:SP.Only r 0 32 W W') (j:Holds encB W' r 0 e) (i:e.size=32):Ph w W' r k iL iR n cL cR vL vR v va vb Lb Rb e a b G H U:=by
 have f:=h.rk
 exact h.any (h.on.trans d) (Kq.of_only d fun g c=>c.1) (fun g m l=>d.block g (by have:=h.r3.1;omega) oM) (fun g c=>d.block g (h.tL.lt c).2 (by have:=(h.tL.lt c).1;omega)) (fun g c=>d.block g (h.tR.lt c).2 (by have:=(h.tR.lt c).1;omega)) j i
theorem ap_only {l p:Value} {k:Nat} (b:SP.Only r 0 32 w W) (c:Ap1 W W' l p) (q:w.heap.size=k) (i:r<k) (hv:∀ g,l.ownBlock=some g→k+4≤g):SP.Only r 0 32 w W':=by
 have n:=b.size
 have d:∀ j,j<k→W'.heap[j]? = W.heap[j]?:=fun j m=>c.keep j oM fun e=>by have:=hv j e;omega
 exact ⟨c.os.trans b.os,c.tape.trans b.tape,c.output.trans b.output,Nat.le_trans b.size c.size,fun j m f=>(d j oM).trans (b.block j m f),fun o ho=>by rw[World.cell?_of_block (a:=⟨r,o,none⟩) (d r i)];exact b.cell o ho,fun o=>by rw[World.frozen?_of_block (a:=⟨r,o,none⟩) (d r i)];exact b.froz o⟩
theorem holds_eq {W W':World} {r:Nat} {L:Bs} (h:Holds encB W r 0 L) (e:W'.heap[r]? = W.heap[r]?):Holds encB W' r 0 L:=fun j k=>by
 rw[World.cell?_of_block (a:=⟨r,0+j,none⟩) e,World.frozen?_of_block (a:=⟨r,0+j,none⟩) e]
 exact h j k
theorem TlL.app {Q Q':Nat→Prop} {k i:Nat} {B:Nat→Bs} {f x:Value} {xs:List Value} (c:∀ j,j<i→∃ x,xs[j]? = some x∧ElQ Q 33 W x (B j)) (b:xs.length=i) (ho:W'.ownsRow k 23 1 f (i+1) (xs++[x])) (hx:ElQ Q 33 W x (B i)) (d:∀ g,g<W.heap.size→Q g→Q' g) (kq:Kq Q' W W'):TlL Q' k (i+1) W' f B:=by
 refine ⟨_,ho,fun j n=>?_⟩
 by_cases e:j=i
 ·subst e
  exact ⟨x,by rw[List.getElem?_append_right oM,b];simp,(hx.mono2 d).keep kq⟩
 ·obtain ⟨y,m,l⟩:=c j oM
  exact ⟨y,by rw[List.getElem?_append_left oM];exact m,(l.mono2 d).keep kq⟩
theorem Ph.appL {ga gx:Nat} (l:Ph w W1 r k iL iR n cL cR vL vR v va vb Lb Rb L a b G H U) (i:Below W1.heap.size W1 W) (p:ElQ (W1.heap.size≤·) 33 W (r33 gx) (Lb iL)) (K:W.cell? ⟨ga,0,none⟩=some (r33 gx)) (Q:iL≤900) :
 ∃ j W',(Builtin.append_ #[27,27] 27 #[vL,.slice (some ⟨ga,0,none⟩) 1 1]).run Tryz.prog W=.ok j W'∧Ph w W' r k (iL+1) iR n cL cR j vR v va vb Lb Rb L a b G H U∧Ap1 W W' vL j:=by
 have h:=l.grow i
 have hx:=p.mono2 fun g _ c=>l.qn g c
 obtain ⟨xs,s,u⟩:=h.tL.ex
 obtain ⟨j,W',M,t,A⟩:=app_own s hx.one.2 K oM (by have:=h.r3.1;omega)
 have o:∀ g,g<W.heap.size→QH r k vL vR g→QH r k j vR g:=fun g c q=>⟨q.1,q.2.1,fun e=>by
  rcases A.mv with m|⟨⟨N,m,D⟩,-⟩
  ·rw[m] at e;exact q.2.2.1 e
  ·rw[m] at e;have:=Option.some.inj e;omega,q.2.2.2⟩
 have kq:Kq (QH r k j vR) W W':=⟨A.size,fun g q c=>by
  rcases A.mv with m|⟨-,m⟩
  ·exact A.keep g c (by rw[← m];exact q.2.2.1)
  ·exact m g c⟩
 have d:∀ g,vL.ownBlock=some g→k+4≤g:=fun g c=>(h.tL.lt c).1
 have J:=h.on.size
 have E:=h.wk
 have F:=h.rk
 have f:∀ g,k≤g→g<k+4→W'.heap[g]? = W.heap[g]?:=fun g O P=>A.keep g (by have:=h.r3.1;omega) fun e=>by have:=d g e;omega
 obtain ⟨e,y,z,e3,I⟩:=h.r1
 refine ⟨j,W',M,⟨ap_only h.on A h.wk h.rk d,h.rk,h.wk,row_same h.r0 A.size (f k oM oM),⟨e,y,z,e3,row_same I A.size (f _ oM oM)⟩,row_same h.r2 A.size (f _ oM oM),h.r3.same A.size (f _ oM oM),TlL.app u (by have:=s.1;omega) t hx o kq,(h.tR.mono2 o).keep kq fun g c=>A.keep g (h.tR.lt c).2 fun e=>h.ne g e c,fun g c e=>?_,(h.la.mono2 o).keep kq,(h.lb.mono2 o).keep kq,(h.gr.mono2 o).keep kq,holds_eq h.lg (A.keep r oM fun e=>by have:=d r e;omega),h.ls,(by
  obtain ⟨C,R,e,-,-,B,x,-⟩:=p
  have e:=congrArg Value.ownBlock e
  obtain rfl:gx=C:=Option.some.inj e
  exact (l.dj.app ⟨by have:=l.r3.1;omega,B,Nat.lt_of_lt_of_le x A.size⟩ (Nat.le_trans i.size A.size) s (fun g c=>i.block g (l.tL.lt c).2) (fun g c=>(A.keep g (h.tR.lt c).2 fun e=>h.ne g e c).trans (i.block g (l.tR.lt c).2)) t))⟩,A⟩
 rcases A.mv with m|⟨⟨N,m,D⟩,-⟩
 ·rw[m] at c;exact h.ne g c e
 ·rw[m] at c
  have:=Option.some.inj c
  have:=(h.tR.lt e).2
  omega
theorem Ph.appR {ga gx:Nat} (l:Ph w W1 r k iL iR n cL cR vL vR v va vb Lb Rb L a b G H U) (i:Below W1.heap.size W1 W) (p:ElQ (W1.heap.size≤·) 33 W (r33 gx) (Rb iR)) (K:W.cell? ⟨ga,0,none⟩=some (r33 gx)) (Q:iR≤900) :
 ∃ j W',(Builtin.append_ #[27,27] 27 #[vR,.slice (some ⟨ga,0,none⟩) 1 1]).run Tryz.prog W=.ok j W'∧Ph w W' r k iL (iR+1) n cL cR vL j v va vb Lb Rb L a b G H U∧Ap1 W W' vR j:=by
 have h:=l.grow i
 have hx:=p.mono2 fun g _ c=>l.qn g c
 obtain ⟨xs,s,u⟩:=h.tR.ex
 obtain ⟨j,W',M,t,A⟩:=app_own s hx.one.2 K oM (by have:=h.r3.1;omega)
 have o:∀ g,g<W.heap.size→QH r k vL vR g→QH r k vL j g:=fun g c q=>⟨q.1,q.2.1,q.2.2.1,fun e=>by
  rcases A.mv with m|⟨⟨N,m,D⟩,-⟩
  ·rw[m] at e;exact q.2.2.2 e
  ·rw[m] at e;have:=Option.some.inj e;omega⟩
 have kq:Kq (QH r k vL j) W W':=⟨A.size,fun g q c=>by
  rcases A.mv with m|⟨-,m⟩
  ·exact A.keep g c (by rw[← m];exact q.2.2.2)
  ·exact m g c⟩
 have d:∀ g,vR.ownBlock=some g→k+4≤g:=fun g c=>(h.tR.lt c).1
 have J:=h.on.size
 have E:=h.wk
 have F:=h.rk
 have f:∀ g,k≤g→g<k+4→W'.heap[g]? = W.heap[g]?:=fun g O P=>A.keep g (by have:=h.r3.1;omega) fun e=>by have:=d g e;omega
 obtain ⟨e,y,z,e3,I⟩:=h.r1
 refine ⟨j,W',M,⟨ap_only h.on A h.wk h.rk d,h.rk,h.wk,row_same h.r0 A.size (f k oM oM),⟨e,y,z,e3,row_same I A.size (f _ oM oM)⟩,row_same h.r2 A.size (f _ oM oM),h.r3.same A.size (f _ oM oM),(h.tL.mono2 o).keep kq fun g c=>A.keep g (h.tL.lt c).2 fun e=>h.ne g c e,TlL.app u (by have:=s.1;omega) t hx o kq,fun g c e=>?_,(h.la.mono2 o).keep kq,(h.lb.mono2 o).keep kq,(h.gr.mono2 o).keep kq,holds_eq h.lg (A.keep r oM fun e=>by have:=d r e;omega),h.ls,(by
  obtain ⟨C,R,e,-,-,B,x,-⟩:=p
  have e:=congrArg Value.ownBlock e
  obtain rfl:gx=C:=Option.some.inj e
  exact (l.dj.swap.app ⟨by have:=l.r3.1;omega,B,Nat.lt_of_lt_of_le x A.size⟩ (Nat.le_trans i.size A.size) s (fun g c=>i.block g (l.tR.lt c).2) (fun g c=>(A.keep g (h.tL.lt c).2 fun e=>h.ne g c e).trans (i.block g (l.tL.lt c).2)) t).swap)⟩,A⟩
 rcases A.mv with m|⟨⟨N,m,D⟩,-⟩
 ·rw[m] at e;exact h.ne g c e
 ·rw[m] at e
  have:=Option.some.inj e
  have:=(h.tL.lt c).2
  omega
theorem row_cell {W:World} {K o:Nat} {vs:List Value} {x:Value} (h:Row W K vs) (ho:o<vs.length):Row (W.setCells K o [x]) K (vs.set o x):=by
 have d:W.there K o 1:=fun t d=>by
  have k:t=0:=oM
  subst k
  have:=h.2.2 o ho
  rwa[Nat.zero_add] at this
 refine ⟨by rw[RG.setCells_size];exact h.1,fun j u b=>?_,by rw[List.length_set];exact World.there_setCells h.2.2 _ _ _⟩
 rw[List.getElem?_set] at b
 by_cases e:o=j
 ·subst e
  rw[if_pos rfl,if_pos ho] at b
  obtain rfl:x=u:=by simpa using b
  have:=World.rangeAt_setCells_same W K o [x] d 0 x rfl
  rw[Nat.zero_add]
  exact this
 ·rw[if_neg e] at b
  have f:W.rangeAt K j [u]:=fun t y c=>by
   have k:t=0:=by have:=(List.getElem?_eq_some_iff.1 c).1;simp at this;omega
   subst k
   obtain rfl:u=y:=by simpa using c
   have:=h.2.1 j u b
   rw[Nat.zero_add] at this
   exact this
  have:=World.rangeAt_setCells_apart f K o [x] (Or.inr (by simp;omega)) 0 u rfl
  rw[Nat.zero_add]
  exact this
theorem set_only {k K o:Nat} {vs:List Value} (h:SP.Only r 0 32 w W) (d:w.heap.size=k) (c:r<k) (b:k≤K):SP.Only r 0 32 w (W.setCells K o vs):=only_setCells h oM oM _
theorem Ph.put (h:Ph w W r k iL iR n cL cR vL vR v va vb Lb Rb L a b G H U):Ph w ((W.setCells (k+3) 0 [vL]).setCells (k+3) 1 [vR]) r k iL iR n vL vR vL vR v va vb Lb Rb L a b G H U:=by
 have i:=h.rk
 have c:∀ g,g≠k+3→((W.setCells (k+3) 0 [vL]).setCells (k+3) 1 [vR]).heap[g]? = W.heap[g]?:=fun g f=>(RG.setCells_other (k+3) [vR] 1 _ g f).trans (RG.setCells_other (k+3) [vL] 0 W g f)
 have d:W.heap.size≤((W.setCells (k+3) 0 [vL]).setCells (k+3) 1 [vR]).heap.size:=by rw[RG.setCells_size,RG.setCells_size];exact Nat.le_refl _
 have kq:Kq (QH r k vL vR) W ((W.setCells (k+3) 0 [vL]).setCells (k+3) 1 [vR]):=⟨d,fun g q _=>c g (by have:=q.2.1;omega)⟩
 obtain ⟨e,s,l,e3,m⟩:=h.r1
 exact ⟨set_only (set_only h.on h.wk h.rk oM) h.wk h.rk oM,h.rk,h.wk,row_same h.r0 d (c _ oM),⟨e,s,l,e3,row_same m d (c _ oM)⟩,row_same h.r2 d (c _ oM),(by
  obtain ⟨p,rs,j,o⟩:=h.r3
  exact ⟨Nat.lt_of_lt_of_le p d,rs,j,row_cell (row_cell o (Nat.zero_lt_succ _)) (Nat.succ_lt_succ (Nat.zero_lt_succ _))⟩),h.tL.keep kq fun g f=>c g (by have:=(h.tL.lt f).1;omega),h.tR.keep kq fun g f=>c g (by have:=(h.tR.lt f).1;omega),h.ne,h.la.keep kq,h.lb.keep kq,h.gr.keep kq,holds_eq h.lg (c r oM),h.ls,h.dj.keep d (fun g f=>c g (by have:=(h.tL.lt f).1;omega)) (fun g f=>c g (by have:=(h.tR.lt f).1;omega))⟩
theorem Ph.putA {o:Nat} {x:Value} (h:Ph w W r k iL iR n cL cR vL vR v va vb Lb Rb L a b G H U) (ho:o<2):Ph w (W.setCells (k+3) (o+2) [x]) r k iL iR n cL cR vL vR v va vb Lb Rb L a b G H U:=by
 have s:=h.rk
 have c:∀ g,g≠k+3→(W.setCells (k+3) (o+2) [x]).heap[g]? = W.heap[g]?:=fun g f=>RG.setCells_other (k+3) [x] _ _ g f
 have d:W.heap.size≤(W.setCells (k+3) (o+2) [x]).heap.size:=by rw[RG.setCells_size];exact Nat.le_refl _
 have kq:Kq (QH r k vL vR) W (W.setCells (k+3) (o+2) [x]):=⟨d,fun g q _=>c g (by have:=q.2.1;omega)⟩
 obtain ⟨e,j,l,e3,t⟩:=h.r1
 exact ⟨set_only h.on h.wk h.rk oM,h.rk,h.wk,row_same h.r0 d (c _ oM),⟨e,j,l,e3,row_same t d (c _ oM)⟩,row_same h.r2 d (c _ oM),(by
  obtain ⟨p,rs,i,m⟩:=h.r3
  exact ⟨Nat.lt_of_lt_of_le p d,rs.set o x,by rw[List.length_set,i],row_cell (o:=o+2) m (by simp;omega)⟩),h.tL.keep kq fun g f=>c g (by have:=(h.tL.lt f).1;omega),h.tR.keep kq fun g f=>c g (by have:=(h.tR.lt f).1;omega),h.ne,h.la.keep kq,h.lb.keep kq,h.gr.keep kq,holds_eq h.lg (c r oM),h.ls,h.dj.keep d (fun g f=>c g (by have:=(h.tL.lt f).1;omega)) (fun g f=>c g (by have:=(h.tR.lt f).1;omega))⟩
theorem Ph.next {m:Nat} {i j:Value} {e':Array Value} {p s:Nat→Nat} {o t:Nat→List (Nat × Bs)} (h:Ph w W r k iL iR n cL cR vL vR v va vb Lb Rb L a b G H U) (C:SLq (QH r k vL vR) W i m p) (z:SLq (QH r k vL vR) W j m s) (d:GRq (QH r k vL vR) W (.agg e') m o t U):Ph w (W.setCells (k+1) 0 e'.toList) r k iL iR m cL cR vL vR (.agg e') i j Lb Rb L p s o t U:=by
 have A:=h.rk
 have c:∀ g,g≠k+1→(W.setCells (k+1) 0 e'.toList).heap[g]? = W.heap[g]?:=fun g d=>RG.setCells_other (k+1) _ 0 W g d
 have f:W.heap.size≤(W.setCells (k+1) 0 e'.toList).heap.size:=by rw[RG.setCells_size];exact Nat.le_refl _
 have kq:Kq (QH r k vL vR) W (W.setCells (k+1) 0 e'.toList):=⟨f,fun g q _=>c g (by have:=q.2.1;omega)⟩
 obtain ⟨e,D,x,e3,B⟩:=h.r1
 obtain ⟨l,y,f2,u⟩:=d.ar
 obtain rfl:e'=l:=by injection y
 exact ⟨set_only h.on h.wk h.rk oM,h.rk,h.wk,row_same h.r0 f (c _ oM),⟨e',rfl,f2,u,B.put (by rw[Array.length_toList,Array.length_toList,f2,x])⟩,row_same h.r2 f (c _ oM),h.r3.same f (c _ oM),h.tL.keep kq fun g d=>c g (by have:=(h.tL.lt d).1;omega),h.tR.keep kq fun g d=>c g (by have:=(h.tR.lt d).1;omega),h.ne,C.keep kq,z.keep kq,d.keep kq,holds_eq h.lg (c r oM),h.ls,h.dj.keep f (fun g d=>c g (by have:=(h.tL.lt d).1;omega)) (fun g d=>c g (by have:=(h.tR.lt d).1;omega))⟩
end
end
section
open Go.RowKit Go.Sort Go.Deep SPA
variable {P:Nat} [NeZero P] {N:Nat} [NeZero N]
abbrev wP {P:Nat} [NeZero P] (X:OnP P):Bs:=wr X.1
theorem prS_val (a b:Nat→Fin N):∀ n,prS N (fun i=>(a i).val) (fun i=>(b i).val) n=(Md.pr a b n).val
 | 0=>(Nat.zero_mod N).symm
 | n+1=>by
  show sPl N (prS N _ _ n) (sTi N (b n).val (a n).val)=(Md.pr a b n+a n*b n).val
  rw[prS_val a b n,pl_val,ti_val]
  unfold sTi
  rw[Nat.mul_comm]
omit [NeZero N] in
theorem fldS_val (x y:Fin N) (n:Nat) (a:Nat→Fin N) (i:Nat):fldS N x.val y.val n (fun i=>(a i).val) i=(Md.fS x y n a i).val:=by
 show sPl N (sTi N (a i).val x.val) (sTi N (a (n+i)).val y.val)=(x*a i+y*a (n+i)).val
 rw[pl_val,ti_val,ti_val]
 unfold sTi
 rw[Nat.mul_comm (a i).val,Nat.mul_comm (a (n+i)).val]
omit [NeZero N] in
theorem gok_of {n c:Nat} {G H:Nat→List (Nat × Bs)} {U:List (Nat × Bs)} {g h:Nat→OnP P} {u:OnP P} (e:0<n) (j:0<c) (b:c*n≤64) (hG:Gd N n c G g) (d:Gd N n c H h) (m:Tl N U u) (f:0<U.length) (l:U.length≤16):GOk N n c G H U:=
 ⟨e,j,b,fun i k=>⟨(hG.tl i k).ok,hG.len i k⟩,fun i k=>⟨(d.tl i k).ok,d.len i k⟩,m.ok,f,l⟩
omit [NeZero N] in
theorem Tl.point (C:Fld P) (O:Ord N) (k:∀ r:EC.Pt P,EC.On r→EC.mul N r=none) {l:List (Nat × Bs)} {X:OnP P} (b:Tl N l X) (c:0<l.length) (d:l.length≤512) {w:World} {v:Value} (h:Sm 0 w v l) :
 Calls Tryz.prog 33 #[v] w (Ret fun e w'=>Below w.heap.size w w'∧e=pvl (wr X.1)):=by
 have:=h.point C O k c d b.lt b.pts
 rw[b.sum] at this
 exact this
theorem iCP:(Tryz.prog.info? 51).map (·.size)=some 33:=kR
theorem side_c (C:Fld P) (O:Ord N) (k:∀ r:EC.Pt P,EC.On r→EC.mul N r=none) {Q:Nat→Prop} {m c:Nat} {G H:Nat→List (Nat × Bs)} {U:List (Nat × Bs)} {g h:Nat→OnP P} {u:OnP P} (x:0<m) (B:0<c) (n:c*m≤64) (hG:Gd N m c G g) (p:Gd N m c H h) (o:Tl N U u) (w:0<U.length) (A:U.length≤16) (a b:Nat→Fin N) :
 ∃ l,(∀ (W:World) (v va f:Value),GRq Q W v m G H U→SLq Q W va m (fun i=>(a i).val)→SLq Q W f m (fun i=>(b i).val)→Calls Tryz.prog 143 #[v,va,f] W (Ret fun e w'=>Below W.heap.size W w'∧Sm W.heap.size w' e l)) ∧
  (∀ (W:World) (v:Value),Sm 0 W v l→Calls Tryz.prog 33 #[v] W (Ret fun e w'=>Below W.heap.size W w'∧e=pvl (wr ((ptMd C k).hd a b g h u m).1))):=by
 have t:=gok_of x B n hG p o w A
 obtain ⟨q,j⟩:=hid_tl C k hG p o (d:=U.length) rfl a b
 rw[← prS_val] at q j
 refine ⟨_,fun W v va f z s y=>hideG_c O m c G H U t _ _ (fun i _=>(a i).isLt) (fun i _=>(b i).isLt) v va f W z s y,fun W v hv=>q.point C O k (by rw[j];omega) (by rw[j];omega) hv⟩
end
section
open Go Go.RowKit
section
variable {P:Program} {ops:Array Oper} {Q:Exit→Act→World→Prop} {S:Array Bool→World→Prop}
theorem wanted_of {o:Oper} (k:o.guard=none) (t:Array Value):Region.wanted o (yielded ops t)=true:=by
 unfold Region.wanted
 rw[k]
def anyS (P:Program) (k:Array Oper) (Q:Exit→Act→World→Prop) (S:Array Bool→World→Prop):Nat→Array Bool→Act→World→Prop
 | 0,listed,a,w=>Region.ready .any k listed=[]∧Q .normal a w
 | fuel+1,listed,a,w=>(Region.ready .any k listed=[]→Q .normal a w) ∧
  ∀ i∈Region.ready .any k listed,wpOp P k Q i (fun b w'=>S (listed.setIfInBounds i true) w'∧anyS P k Q S fuel (listed.setIfInBounds i true) b w') a w
theorem anyS.any:∀ (b:Nat) (k:Array Bool) (a:Act) (w:World),anyS P ops Q S b k a w→wpAny P .any ops Q b k a w
 | 0,_,_,_,h=>h
 | b+1,_,_,_,h=>⟨h.1,fun i e=>wpOp_mono (fun c w' d=>anyS.any b _ c w' d.2) (h.2 i e)⟩
def Bef (S:Array Bool→World→Prop) (p:Nat) (w:World):Prop:=∃ l:Array Bool,l.getD p false=false∧S l w
theorem anyS.first {p i:Nat} {y op:Oper} {v:Value} (T:ops[i]? = some y) (hp:ops[p]? = some op) (K:∃ e∈op.after,Region.binds .any e=true∧e.on=i) (R:p≠i) (U:∀ l w,S (Array.setIfInBounds l i true) w→S l w)
 (r:∀ (j:Nat) (o:Oper) cs b,ops[j]? = some o→o.op≠.select cs b) (Z:∀ c a w,Q (.panic c) (a.put y.dst v) w→Q (.panic c) a w) :
 ∀ (g:Nat) (d:Array Bool) (a:Act) (w:World),d.getD p false=false →
  (∀ j x,ops[j]? = some x→j≠i→d.getD j true=false→(∀ e∈x.after,Region.binds .any e=true→e.on≠i)→y.apart ops x=true) →
  i∈Region.ready .any ops d→YieldsIf P ops (Bef S p) y v a→Bef S p w→S (d.setIfInBounds i true) w →
  anyS P ops Q S g (d.setIfInBounds i true) (a.put y.dst v) w→anyS P ops Q S (g+1) d a w:=by
 intro g
 induction g with
 | zero =>
  intro d a w _ _ A F N u H
  refine ⟨fun h=>absurd A (by rw[h];exact List.not_mem_nil),fun j G=>?_⟩
  by_cases f:j=i
  ·subst f;exact F.wpOp T N ⟨u,H⟩
  ·exact absurd (ready_mono G f) (by rw[H.1];exact List.not_mem_nil)
 | succ g ih =>
  intro d a w Y n A F N u H
  refine ⟨fun h=>absurd A (by rw[h];exact List.not_mem_nil),fun j G=>?_⟩
  by_cases f:j=i
  ·subst f;exact F.wpOp T N ⟨u,H⟩
  ·obtain ⟨q,x,m,z⟩:=mem_ready.1 G
   have s:∀ e∈x.after,Region.binds .any e=true→e.on≠i:=fun e L O J=>by
    have t:=z e L O
    have C:=(mem_ready.1 A).1
    rw[J] at t
    rcases Nat.lt_or_ge i d.size with B|B
    ·simp[B] at C t;rw[C] at t;cases t
    ·simp[Array.getElem?_eq_none B] at t
   have B:j≠p:=by
    intro h
    subst h
    rw[hp] at m
    obtain ⟨e,L,O,t⟩:=K
    injection m with m
    subst m
    exact s e L O t
   have h2:=wpOp_putIf m (n j x m f q s) (fun cs b=>r i y cs b T) (fun cs b=>r j x cs b m) Z F (H.2 j (ready_mono G f))
   have V:(d.setIfInBounds j true).getD p false=false:=by rw[getD_set_ne false B];exact Y
   refine wpOp_mono (fun a' w' E=>?_) h2
   have X:(d.setIfInBounds i true).setIfInBounds j true=(d.setIfInBounds j true).setIfInBounds i true:=(Array.setIfInBounds_comm _ _ (Ne.symm f))
   have t:=E.2.1
   rw[X] at t
   have W:Bef S p w':=⟨_,by rw[getD_set_ne false B,getD_set_ne false (Ne.symm R)];exact Y,E.2.1⟩
   refine ⟨U _ _ t,ih (d.setIfInBounds j true) a' w' V (fun k ok hk M C I=>?_) (ready_mono A (Ne.symm f)) E.1 W t ?_⟩
   ·refine n k ok hk M ?_ I
    by_cases D:j=k
    ·subst D;exact q
    ·rw[getD_set_ne true D] at C;exact C
   ·rw[← X]
    exact E.2.2
theorem anyS.take {p i:Nat} {f:Oper} {v:Value} {b:Nat} {k:Array Bool} {a:Act} {w:World} (o:ops[i]? = some f) (m:∀ l w,S (Array.setIfInBounds l i true) w→S l w) (u:YieldsIf P ops (Bef S p) f v a) (s:Bef S p w) (n:S (k.setIfInBounds i true) w)
 (h:anyS P ops Q S b (k.setIfInBounds i true) (a.put f.dst v) w) (d:waits ops p i=true:=by kernel_rfl) (x:Region.noSelect ops=true:=by kernel_rfl)
 (g:(k.getD p false || p == i)=false:=by kernel_rfl) (hf:Region.free .any ops k i=true:=by kernel_rfl) (t:(Region.ready .any ops k).contains i=true:=by kernel_rfl)
 (q:∀ c a w,Q (.panic c) (a.put f.dst v) w→Q (.panic c) a w:=by exact fun _ _ _ h=>h):anyS P ops Q S (b+1) k a w:=by
 rw[Bool.or_eq_false_iff] at g
 unfold waits at d
 cases ho:ops[p]? with
 | none=>rw[ho] at d;cases d
 | some op =>
  rw[ho] at d
  obtain ⟨e,r,j⟩:=Array.any_eq_true'.1 d
  simp only[Bool.and_eq_true,beq_iff_eq] at j
  exact anyS.first o ho ⟨e,r,j.1,j.2⟩ (by simpa using g.2) m (Region.noSelect_spec x) q b k a w g.1 (Region.free_spec o hf) (by simpa using t) u s n h
theorem anyS.step {i:Nat} {o:Oper} {b:Nat} {k:Array Bool} {a:Act} {w:World} (ho:ops[i]? = some o) (d:Region.ready .any ops k=[i])
 (h:∀ c:Act→World→Prop,Shut (∀ a w,S (k.setIfInBounds i true) w→anyS P ops Q S b (k.setIfInBounds i true) a w→c a w) →
  if Region.wanted o (yielded ops a.tmps)=true then Oper.wp P o a w c Q else c (a.put o.dst undef) w):anyS P ops Q S (b+1) k a w:=by
 refine ⟨fun e=>(by rw[d] at e;cases e),fun j f=>?_⟩
 rw[d,List.mem_singleton] at f
 subst f
 exact wpOp_step ho (fun c g=>h c (fun a w l m=>g a w ⟨l,m⟩))
theorem anyS.done {k:Array Bool} {a:Act} {w:World} (c:Region.ready .any ops k=[]) (h:Q .normal a w):∀ b,anyS P ops Q S b k a w
 | 0=>⟨c,h⟩
 | _+1=>⟨fun _=>h,by rw[c];intro i d;cases d⟩
theorem anyS.begin {id:Nat} {a:Act} {w:World} (S:Array Bool→World→Prop) (k:P.follows .mixedOrders=true) (h:anyS P ops Q S ops.size (Array.replicate ops.size false) a w.drew):(Code.region id ops true).wp P Q a w:=
 wp_region_any k (anyS.any _ _ _ _ h)
section
variable {i p fuel:Nat} {o:Oper} {listed:Array Bool} {a:Act} {w w':World} {v:Value}
theorem anyS.ins {d:Option Tmp} {I:Sem Value} (ho:ops[i]? = some o) (hx:I.run P w=.ok v w') (f:S (listed.setIfInBounds i true) w') (h:anyS P ops Q S fuel (listed.setIfInBounds i true) (a.put d v) w')
 (c:Region.ready .any ops listed=[i]:=by kernel_rfl) (e:o.guard=none:=by rfl) (k:execOp a.eval o=I >>= fun v=>pure (Next.value v):=by kernel_rfl) (hd:o.dst=d:=by kernel_rfl):anyS P ops Q S (fuel+1) listed a w:=by
 subst hd
 exact anyS.step ho c fun K b=>by
  rw[if_pos (wanted_of e _)]
  unfold Oper.wp
  rw[k,Sem.run_bind,hx]
  exact b.out _ _ f h
theorem anyS.cal {d:Option Tmp} {f:FuncId} {args:Array Value} {R:Value→World→Prop} (ho:ops[i]? = some o) (c:Calls P f args w (Ret R)) (h:∀ v w',R v w'→S (listed.setIfInBounds i true) w'∧anyS P ops Q S fuel (listed.setIfInBounds i true) (a.put d v) w')
 (b:Region.ready .any ops listed=[i]:=by kernel_rfl) (g:o.guard=none:=by rfl) (hx:(execOp a.eval o).run P w=.ok (.enter f args) w:=by kernel_rfl) (hd:o.dst=d:=by kernel_rfl):anyS P ops Q S (fuel+1) listed a w:=by
 subst hd
 exact anyS.step ho b fun K k=>by
  rw[if_pos (wanted_of g _)]
  unfold Oper.wp
  rw[hx,Oper.upon_enter]
  refine c.mono ?_
  rintro e w' ⟨v,rfl,hR⟩
  exact k.out _ _ (h v w' hR).1 (h v w' hR).2
theorem anyS.sto {d:Option Tmp} (ho:ops[i]? = some o) (k:TypeId) (x y:Operand) (f:o.op=.store k x y) (b off:Nat) (u:Value) (hv:u.cells=#[u]) (m:u.oneCell'=true) (q:w.there b off 1) (n:(P.info? k).map (·.size)=some 1)
 (l:S (listed.setIfInBounds i true) (w.setCells b off [u])) (h:anyS P ops Q S fuel (listed.setIfInBounds i true) (a.put d undef) (w.setCells b off [u])) (hx:a.eval x=.pointer (some ⟨b,off,none⟩):=by kernel_rfl) (p:a.eval y=u:=by kernel_rfl)
 (c:Region.ready .any ops listed=[i]:=by kernel_rfl) (j:o.guard=none:=by rfl) (hd:o.dst=d:=by kernel_rfl):anyS P ops Q S (fuel+1) listed a w:=by
 subst hd
 exact anyS.step ho c fun K g=>by
  rw[if_pos (wanted_of j _)]
  have c:=run_storeVar_mid (P:=P) w b off k #[u] q n (by simp[m])
  have e:storeVar k ⟨b,off,none⟩ u=storeVar k ⟨b,off,none⟩ (.agg #[u]):=by
   unfold storeVar
   rw[hv]
   rfl
  unfold Oper.wp execOp
  simp only[f,hx,p,Instr.storeAt,Instr.sureAddr,Sem.run_bind,Sem.run_pure,Result.andThen_ok,e,c]
  exact g.out _ _ l h
theorem anyS.cel {d:Option Tmp} {x:Value} (ho:ops[i]? = some o) (p:Nat) (e:∀ l w,S (Array.setIfInBounds l i true) w→S l w) (T:TypeId) (t:Tmp) (b off:Nat) (g:o.op=.load T (.tmp t)) (y:(P.underlying T).map (·.isRow)=some false) (v:∀ w,Bef S p w→w.cell? ⟨b,off,none⟩=some x) (r:Bef S p w) (f:S (listed.setIfInBounds i true) w)
 (h:anyS P ops Q S fuel (listed.setIfInBounds i true) (a.put d x) w) (hx:a.eval (.tmp t)=.pointer (some ⟨b,off,none⟩):=by kernel_rfl) (q:o.guard=none:=by rfl) (m:waits ops p i=true:=by kernel_rfl) (u:Region.noSelect ops=true:=by kernel_rfl)
 (n:(listed.getD p false || p == i)=false:=by kernel_rfl) (hf:Region.free .any ops listed i=true:=by kernel_rfl) (s:(Region.ready .any ops listed).contains i=true:=by kernel_rfl)
 (j:∀ c a w,Q (.panic c) (a.put o.dst x) w→Q (.panic c) a w:=by exact fun _ _ _ h=>h) (hd:o.dst=d:=by kernel_rfl):anyS P ops Q S (fuel+1) listed a w:=by
 subst hd
 exact anyS.take (p:=p) ho e (Or.inl ⟨wanted_of q _,fun w k=>by
  unfold execOp
  rw[g]
  dsimp only
  rw[hx,Sem.run_bind,RG.run_load1 (v w k) y]
  rfl⟩) r f h m u n hf s j
theorem anyS.row {d:Option Tmp} {cs:List Value} (ho:ops[i]? = some o) (p:Nat) (f:∀ l w,S (Array.setIfInBounds l i true) w→S l w) (T:TypeId) (t:Tmp) (b off:Nat) (e:TypeDesc) (j:o.op=.load T (.tmp t)) (z:P.underlying T=some e) (k:e.isRow=true) (v:(P.info? T).map (·.size)=some cs.length) (y:∀ w,Bef S p w→w.rangeAt b off cs) (s:Bef S p w) (g:S (listed.setIfInBounds i true) w)
 (h:anyS P ops Q S fuel (listed.setIfInBounds i true) (a.put d (.agg cs.toArray)) w) (hx:a.eval (.tmp t)=.pointer (some ⟨b,off,none⟩):=by kernel_rfl) (r:o.guard=none:=by rfl) (n:waits ops p i=true:=by kernel_rfl) (x:Region.noSelect ops=true:=by kernel_rfl)
 (q:(listed.getD p false || p == i)=false:=by kernel_rfl) (hf:Region.free .any ops listed i=true:=by kernel_rfl) (u:(Region.ready .any ops listed).contains i=true:=by kernel_rfl)
 (m:∀ c a w,Q (.panic c) (a.put o.dst (.agg cs.toArray)) w→Q (.panic c) a w:=by exact fun _ _ _ h=>h) (hd:o.dst=d:=by kernel_rfl):anyS P ops Q S (fuel+1) listed a w:=by
 subst hd
 exact anyS.take (p:=p) ho f (yieldsIf_load_mid (wanted_of r _) T (.tmp t) j b off hx cs e y z k v) s g h n x q hf u m
theorem anyS.val {d:Option Tmp} {x:Value} (ho:ops[i]? = some o) (p:Nat) (k:∀ l w,S (Array.setIfInBounds l i true) w→S l w) (m:Bef S p w) (b:S (listed.setIfInBounds i true) w) (h:anyS P ops Q S fuel (listed.setIfInBounds i true) (a.put d x) w) (hv:∀ w,(execOp a.eval o).run P w=.ok (.value x) w:=by intro _;kernel_rfl) (j:o.guard=none:=by rfl) (f:waits ops p i=true:=by kernel_rfl) (q:Region.noSelect ops=true:=by kernel_rfl)
 (g:(listed.getD p false || p == i)=false:=by kernel_rfl) (hf:Region.free .any ops listed i=true:=by kernel_rfl) (n:(Region.ready .any ops listed).contains i=true:=by kernel_rfl)
 (e:∀ c a w,Q (.panic c) (a.put o.dst x) w→Q (.panic c) a w:=by exact fun _ _ _ h=>h) (hd:o.dst=d:=by kernel_rfl):anyS P ops Q S (fuel+1) listed a w:=by
 subst hd
 exact anyS.take (p:=p) ho k (Or.inl ⟨wanted_of j _,fun w _=>hv w⟩) m b h f q g hf n e
theorem anyS.nxt {d:Option Tmp} {x:Value} (ho:ops[i]? = some o) (e:S (listed.setIfInBounds i true) w) (h:anyS P ops Q S fuel (listed.setIfInBounds i true) (a.put d x) w) (hv:(execOp a.eval o).run P w=.ok (.value x) w:=by kernel_rfl) (b:Region.ready .any ops listed=[i]:=by kernel_rfl) (c:o.guard=none:=by rfl) (hd:o.dst=d:=by kernel_rfl):anyS P ops Q S (fuel+1) listed a w:=by
 subst hd
 exact anyS.step ho b fun K k=>by
  rw[if_pos (wanted_of c _)]
  unfold Oper.wp
  rw[hv]
  exact k.out _ _ e h
end
end
end
section
open Go.RowKit Go.Sort Go.Deep SPA
variable {P:Nat} [NeZero P] {N:Nat} [NeZero N]
theorem uInn:(Tryz.prog.underlying 64).map (·.isRow)=some true:=kR
theorem iInn:(Tryz.prog.info? 64).map (·.size)=some 4:=kR
def DjF (B:Nat) (W:World) (t:Nat) (f e c d:Value):Prop:=∃ k b l m,c=r32 k∧d=r32 b∧(k :: b :: (l++m)).Nodup∧W.ownsRow 0 23 1 f t (l.map r33)∧W.ownsRow 0 23 1 e t (m.map r33)∧∀ g,g∈k :: b :: (l++m)→B≤g∧g<W.heap.size
theorem DjF.keep {B f t:Nat} {W W':World} {k b d i:Value} (h:DjF B W t k b d i) (s:f≤B) (u:W.heap.size≤W'.heap.size) (hv:∀ g,k.ownBlock=some g→W'.heap[g]? = W.heap[g]?) (v:∀ g,b.ownBlock=some g→W'.heap[g]? = W.heap[g]?):DjF f W' t k b d i:=by
 obtain ⟨n,w,l,m,o,p,r,j,q,c⟩:=h
 exact ⟨n,w,l,m,o,p,r,own_keep j hv,own_keep q v,fun g e=>⟨Nat.le_trans s (c g e).1,Nat.lt_of_lt_of_le (c g e).2 u⟩⟩
theorem DjF.of {B t b c:Nat} {W W':World} {v u:Value} (h:Dj W B t t v u) (s:W.heap.size≤W'.heap.size) (hv:∀ g,v.ownBlock=some g→W'.heap[g]? = W.heap[g]?) (n:∀ g,u.ownBlock=some g→W'.heap[g]? = W.heap[g]?) (r:B≤W.heap.size) (q:W.heap.size≤b) (o:b<c) (p:c<W'.heap.size):DjF B W' t v u (r32 b) (r32 c):=by
 obtain ⟨l,m,f,i,j,d⟩:=h
 refine ⟨b,c,l,m,rfl,rfl,?_,own_keep i hv,own_keep j n,fun g k=>?_⟩
 ·rw[List.nodup_cons,List.nodup_cons]
  refine ⟨fun e=>?_,fun e=>?_,f⟩
  ·rcases List.mem_cons.1 e with e|e
   ·omega
   ·have:=(d _ e).2;omega
  ·have:=(d _ e).2;omega
 ·rcases List.mem_cons.1 k with rfl|k
  ·exact ⟨oM,oM⟩
  ·rcases List.mem_cons.1 k with rfl|k
   ·exact ⟨oM,oM⟩
   ·have:=d _ k;exact ⟨this.1,oM⟩
structure PhR (w:World) (r t:Nat) (Lb Rb:Nat→Bs) (L:Bs) (A B:Bs) (e:Value) (w':World):Prop where
 on:SP.Only r 0 32 w w'
 ex:∃ vL vR vA vB,e=.agg #[vL,vR,vA,vB]∧TlL (fun _=>True) w.heap.size t w' vL Lb∧TlL (fun _=>True) w.heap.size t w' vR Rb∧ElQ (w.heap.size≤·) 32 w' vA A∧ElQ (w.heap.size≤·) 32 w' vB B
 lg:Holds encB w' r 0 L
 dj:∀ vL vR vA vB,e=.agg #[vL,vR,vA,vB]→DjF w.heap.size w' t vL vR vA vB
theorem uLL:(Tryz.prog.underlying 27).map (·.isRow)=some false:=kR
theorem iLL:(Tryz.prog.info? 27).map (·.size)=some 1:=kR
theorem bslB (k:Nat) (n c:Nat) (w:World):(Instr.buildSlice 27 1 #[(0,.slice (some ⟨k,0,none⟩) n c)]).run Tryz.prog w=.ok (.slice (some ⟨w.heap.size,0,none⟩) 1 1) (w.alloc (.cells #[.slice (some ⟨k,0,none⟩) n c] 23)):=kR
theorem bslQ {Q:Nat→Prop} {W:World} {x:Value} {b:Bs} (h:ElQ Q 33 W x b) (w:World):(Instr.buildSlice 27 1 #[(0,x)]).run Tryz.prog w=.ok (.slice (some ⟨w.heap.size,0,none⟩) 1 1) (w.alloc (.cells #[x] 23)):=by
 obtain ⟨k,c,rfl,-⟩:=h
 exact bslB k 33 c w
theorem TlL.one {Q:Nat→Prop} {k i:Nat} {W:World} {v:Value} {B:Nat→Bs} (h:TlL Q k i W v B):v.cells=#[v]∧v.oneCell'=true:=by
 obtain ⟨xs,⟨-,⟨rfl,-⟩|⟨g,cap,cur,rfl,-⟩⟩,-⟩:=h.ex<;>exact ⟨rfl,rfl⟩
theorem Ph.put' {w W W':World} {r k f i n:Nat} {m l c d v va j:Value} {g Rb:Nat→Bs} {L:Bs} {a b:Nat→Nat} {G H:Nat→List (Nat × Bs)} {U:List (Nat × Bs)} (h:Ph w W r k f i n m l c d v va j g Rb L a b G H U) (e:W'=(W.setCells (k+3) 0 [c]).setCells (k+3) 1 [d]):Ph w W' r k f i n c d c d v va j g Rb L a b G H U:=e ▸ h.put
theorem anyS.fin {P:Program} {c:Array Oper} {Q:Exit→Act→World→Prop} {S:Array Bool→World→Prop} {k:Array Bool} {a:Act} {w:World} (d:Region.ready .any c k=[]) (h:∀ W,W=w→Q .normal a W) (b:Nat):anyS P c Q S b k a w:=anyS.done d (h w rfl) b
theorem chHalf (O:Ord N) (n:NT.IsP N) (r:Nat) (L:Bs) (A B:OnP P) (X Y:Bs) (g:X=wP A) (j:Y=wP B):∃ (s:Bs) (c:Fin N),Hid (chF N L A B=(s,c)∧s.size=32)∧Hid (∀ W:World,Holds encB W r 0 L→L.size=32→Calls Tryz.prog 135 #[lgV r,.string ⟨#[108,101,102,116]⟩,pvl X,.string ⟨#[114,105,103,104,116]⟩,pvl Y] W (Ret fun e w'=>SP.Only r 0 32 W w'∧Holds encB w' r 0 s∧e=nv c.val)):=by
 subst g j
 have e:chF N L A B=(wentF (saidF [108,101,102,116] [114,105,103,104,116] L (wP A) (wP B)),askF N (saidF [108,101,102,116] [114,105,103,104,116] L (wP A) (wP B))):=by unfold chF;dsimp only
 have f:=wr_size A.1
 have m:=wr_size B.1
 refine ⟨_,_,⟨e,SP.askedL_size _ _⟩,fun W l d=>?_⟩
 have k:=chAfter_c O r L (wP A) (wP B) ⟨#[108,101,102,116]⟩ ⟨#[114,105,103,104,116]⟩ dC dC f m W l d
 have i:saidF (⟨#[108,101,102,116]⟩:ByteArray).data.toList (⟨#[114,105,103,104,116]⟩:ByteArray).data.toList L (wP A) (wP B)=saidF [108,101,102,116] [114,105,103,104,116] L (wP A) (wP B):=rfl
 rw[i] at k
 have b:∀ M,cha N M<N:=fun M=>redu_lt O _
 generalize saidF [108,101,102,116] [114,105,103,104,116] L (wP A) (wP B)=M at k
 rw[chS_ask n.1 M (b M)] at k
 exact k
theorem own_base {W:World} {c b n k:Nat} {e:TypeId} {v:Value} {xs:List Value} (h:W.ownsRow c e k v n xs) (f:b≤c):W.ownsRow b e k v n xs:=by
 rcases h with ⟨d,l|⟨g,cap,cur,rfl,i,j⟩⟩
 ·exact ⟨d,Or.inl l⟩
 ·exact ⟨d,Or.inr ⟨g,cap,cur,rfl,Nat.le_trans f i,j⟩⟩
theorem Ph.fin {w W:World} {r k t n:Nat} {f i v va K l m:Value} {z Rb:Nat→Bs} {L A B:Bs} {a b:Nat→Nat} {G H:Nat→List (Nat × Bs)} {U:List (Nat × Bs)} (h:Ph w W r k t t n f i f i v va K z Rb L a b G H U) (C:ElQ (k+4≤·) 32 W l A) (J:ElQ (k+4≤·) 32 W m B) (hd:DjF (k+4) W t f i l m) :
 Row W (k+2) [.slice none 0 0,.slice none 0 0,.slice none 0 0,.slice none 0 0]∧Row (W.setCells (k+2) 0 [f,i,l,m]) (k+2) [f,i,l,m]∧PhR w r t z Rb L A B (.agg #[f,i,l,m]) (W.setCells (k+2) 0 [f,i,l,m]):=by
 have F:=h.rk
 have I:=h.wk
 have j:∀ g,g≠k+2→(W.setCells (k+2) 0 [f,i,l,m]).heap[g]? = W.heap[g]?:=fun g u=>RG.setCells_other (k+2) _ 0 _ g u
 have p:W.heap.size≤(W.setCells (k+2) 0 [f,i,l,m]).heap.size:=by rw[RG.setCells_size];exact Nat.le_refl _
 have kq:Kq (QH r k f i) W (W.setCells (k+2) 0 [f,i,l,m]):=⟨p,fun g q _=>j g (by have:=q.2.1;omega)⟩
 have s:Kq (k+4≤·) W (W.setCells (k+2) 0 [f,i,l,m]):=⟨p,fun g q _=>j g oM⟩
 have x:∀ {y:Value} {B:Nat→Bs},TlL (QH r k f i) (k+4) t W y B→TlL (fun _=>True) w.heap.size t (W.setCells (k+2) 0 [f,i,l,m]) y B:=fun hx=>by
  have E:=(hx.keep kq fun g o=>j g (by have:=(hx.lt o).1;omega)).mono2 (Q':=fun _=>True) fun _ _ _=>trivial
  obtain ⟨xs,u,D⟩:=E.ex
  exact ⟨xs,own_base u oM,D⟩
 exact ⟨h.r2,h.r2.put rfl,set_only h.on h.wk h.rk oM,⟨_,_,_,_,rfl,x h.tL,x h.tR,(C.keep s).mono2 fun g _ o=>oM,(J.keep s).mono2 fun g _ o=>oM⟩,holds_eq h.lg (j r oM),fun a b c d e=>by
  injection e with e
  simp only[Array.mk.injEq,List.cons.injEq,and_true] at e
  obtain ⟨rfl,rfl,rfl,rfl⟩:=e
  exact hd.keep oM p (fun g o=>j g (by have:=(h.tL.lt o).1;omega)) (fun g o=>j g (by have:=(h.tR.lt o).1;omega))⟩
omit [NeZero N] in
theorem scBytesQ_c (O:Ord N) {a:Nat} (c:a<N) (w:World):Calls Tryz.prog 10 #[nv a] w (Ret fun e w'=>Below w.heap.size w w'∧ElQ (w.heap.size≤·) 32 w' e (bx a)∧∃ g,e=r32 g):=by
 refine (sbytes_c O c w).mono ?_
 rintro e w' ⟨v,rfl,k,b,rfl⟩
 exact ⟨_,rfl,b.bel,⟨k,32,rfl,Nat.le_refl _,bx_size a,b.le,b.lt,cb_holds b.range b.there⟩,k,rfl⟩
theorem iB1:(Tryz.prog.info? 23).map (·.size)=some 1:=kR
theorem hvI {P:Program} {I:Sem Value} {c:Sem Next} {x:Value} (b:∀ w,I.run P w=.ok x w) (k:c=I >>= fun v=>pure (Next.value v)):∀ w,c.run P w=.ok (.value x) w:=fun w=>by rw[k,Sem.run_bind,b w,Result.andThen_ok,Sem.run_pure]
theorem nfB {b:Bool} (h:b=true):¬ b=false:=fun e=>by rw[h] at e;cases e
theorem quo2 (m:Nat):((m+m:Nat):Int).tdiv 2=(m:Int):=by rw[Int.tdiv_eq_ediv_of_nonneg oM];omega
theorem provH_c (C:Fld P) (O:Ord N) (f:∀ r:EC.Pt P,EC.On r→EC.mul N r=none) (hP:NT.IsP N) (t:Nat) (ht:t≤6) (q:Md.Ps Bs (Fin N) (OnP P)) (u:OnP P) (G0 H0:Nat→List (Nat × Bs)) (U:List (Nat × Bs)) (ej:Gd N (2^t) 1 G0 q.g) (fa:Gd N (2^t) 1 H0 q.h) (hU:Tl N U u) (fh:0<U.length) (f0:U.length≤16)
 (Lb Rb:Nat→Bs) (fx:∀ j,Lb j=wP ((ptMd C f).pLi (chF N) ivF u t q j)) (g5:∀ j,Rb j=wP ((ptMd C f).pTi (chF N) ivF u t q j)) (r:Nat) (v0 cy d9:Value) (w:World) (hL:Holds encB w r 0 q.s) (cj:q.s.size=32) (hv:GRq (·≠r) w v0 (2^t) G0 H0 U) (ha:SLq (·≠r) w cy (2^t) (fun i=>(q.a i).val)) (K:SLq (·≠r) w d9 (2^t) (fun i=>(q.b i).val)) :
 Calls Tryz.prog 90 #[lgV r,v0,cy,d9] w (Ret (PhR w r t Lb Rb ((ptMd C f).pst (chF N) ivF u t q t).s (bx (((ptMd C f).pst (chF N) ivF u t q t).a 0).val) (bx (((ptMd C f).pst (chF N) ivF u t q t).b 0).val))):=by
 have hr:=Holds.lt hL (by rw[cj];decide)
 obtain ⟨k,hk⟩:∃ k,Hid (w.heap.size=k):=⟨_,rfl⟩
 obtain ⟨e0,gu,fr,ds⟩:=hv.ar
 subst gu
 obtain ⟨w1,kl⟩:=hE (w.alloc (.cells #[.pointer (some ⟨r,0,none⟩)] 159))
 obtain ⟨w2,kf⟩:=hE (w1.alloc (.cells e0 150))
 obtain ⟨w3,kc⟩:=hE (w2.alloc (.cells #[.slice none 0 0,.slice none 0 0,.slice none 0 0,.slice none 0 0] 64))
 obtain ⟨w4,b8⟩:∃ w4,Hid (w3.alloc (.cells #[.slice none 0 0,.slice none 0 0,.slice none 0 0,.slice none 0 0] 64)=w4):=⟨_,rfl⟩
 have z1:w1.heap.size=k+1:=by rw[← kl.out,World.size_alloc,hk.out]
 have z2:w2.heap.size=k+2:=by rw[← kf.out,World.size_alloc,z1]
 have z3:w3.heap.size=k+3:=by rw[← kc.out,World.size_alloc,z2]
 have gh:r<k:=by rw[← hk.out];exact hr
 have K4:Hid (∃ G H,Gd N (2^(t-0)) (2^0) G ((ptMd C f).pst (chF N) ivF u t q 0).g∧Gd N (2^(t-0)) (2^0) H ((ptMd C f).pst (chF N) ivF u t q 0).h∧Ph w w4 r k 0 0 (2^(t-0)) (.slice none 0 0) (.slice none 0 0) (.slice none 0 0) (.slice none 0 0) (.agg e0) cy d9 Lb Rb ((ptMd C f).pst (chF N) ivF u t q 0).s (fun i=>(((ptMd C f).pst (chF N) ivF u t q 0).a i).val) (fun i=>(((ptMd C f).pst (chF N) ivF u t q 0).b i).val) G H U):=by
  have b1:Below w.heap.size w w1:=by rw[← kl.out];exact below1 _ _
  have F:Below w1.heap.size w1 w2:=by rw[← kf.out];exact below1 _ _
  have E:Below w2.heap.size w2 w3:=by rw[← kc.out];exact below1 _ _
  have D:Below w3.heap.size w3 w4:=by rw[← b8.out];exact below1 _ _
  have S:Row w1 k [.pointer (some ⟨r,0,none⟩)]:=by rw[← kl.out,← hk.out];exact row_new w _ _
  have T:Row w2 (k+1) e0.toList:=by rw[← kf.out,← z1];exact row_new w1 e0.toList 150
  have V:Row w3 (k+2) [.slice none 0 0,.slice none 0 0,.slice none 0 0,.slice none 0 0]:=by rw[← kc.out,← z2];exact row_new w2 _ _
  have R:Row w4 (k+3) [.slice none 0 0,.slice none 0 0,.slice none 0 0,.slice none 0 0]:=by rw[← b8.out,← z3];exact row_new w3 _ _
  have bb:Below w.heap.size w w4:=((b1.trans (F.mono b1.size)).trans (E.mono (Nat.le_trans b1.size F.size))).trans (D.mono (Nat.le_trans b1.size (Nat.le_trans F.size E.size)))
  have L:∀ g,g<w.heap.size→g≠r→QH r k (.slice none 0 0) (.slice none 0 0) g:=fun g M J=>⟨J,Or.inl (by rw[← hk.out];exact M),(fun e=>by cases e),(fun e=>by cases e)⟩
  have A:∀ (B:Nat→Bs) (Q:Nat→Prop),TlL Q (k+4) 0 w4 (.slice none 0 0) B:=fun B Q=>⟨[],⟨rfl,Or.inl ⟨rfl,rfl⟩⟩,fun j hj=>absurd hj (Nat.not_lt_zero _)⟩
  have kq:∀ {Q:Nat→Prop},Kq Q w w4:=Kq.of_below bb
  exact ⟨G0,H0,ej,fa,SP.Only.of_below bb rfl hr,gh,hk.out,((S.below F).below E).below D,⟨e0,rfl,fr,ds,(T.below E).below D⟩,V.below D,⟨R.1,[.slice none 0 0,.slice none 0 0],rfl,R⟩,A _ _,A _ _,(fun g e=>by cases e),(ha.mono2 L).keep kq,(K.mono2 L).keep kq,(hv.mono2 L).keep kq,Holds.below hL bb hr,cj,⟨[],[],List.nodup_nil,⟨rfl,Or.inl ⟨rfl,rfl⟩⟩,⟨rfl,Or.inl ⟨rfl,rfl⟩⟩,fun g M=>absurd M List.not_mem_nil⟩⟩
 obtain ⟨vl,b9⟩:=hE (lgV r)
 obtain ⟨vG,bc⟩:=hE (Value.agg e0)
 have B1:Hid ((Instr.box 159 vl).run Tryz.prog w=.ok (.pointer (some ⟨k,0,none⟩)) w1):=by rw[← b9.out,← kl.out,← hk.out];exact boxL r w
 have B2:Hid ((Instr.box 150 vG).run Tryz.prog w1=.ok (.pointer (some ⟨k+1,0,none⟩)) w2):=by
  obtain ⟨a1,a2,a3,ea⟩:∃ a b c,e0=#[a,b,c]:=by
   obtain ⟨E,A,D,e,-⟩:=hv.ex
   injection e with e
   exact ⟨E,A,D,e⟩
  rw[← bc.out,← kf.out,← z1,ea]
  exact boxG a1 a2 a3 w1
 have HZ:=mk3 z2 z3 hk.out
 have ep:=mk2 fx g5
 have HF:Hid (Fld P∧Ord N∧NT.IsP N∧Tl N U u∧0<U.length∧U.length≤16∧t≤6):=⟨C,O,hP,hU,fh,f0,ht⟩
 obtain ⟨d,e6,dx⟩:=Option.map_eq_some_iff.1 uGr
 have HD:=mk2 e6 dx
 rw[bc.out] at K4
 rw[b9.out,bc.out]
 clear e6 dx z1 z2 z3 kl kf hk hL cj hv ha K ej fa hU fh f0 fr ds hr O hP bc
 go_enter Tryz.func90,Tryz.ntmps90
 go_wp2_with (first|(refine wpList_box (u:=vl) (v:=.pointer (some ⟨k,0,none⟩)) (w':=w1) rfl 159 (.tmp 0) rfl ?_ ?_ ?_;rfl;exact B1.out)|(refine wpList_box (u:=vG) (v:=.pointer (some ⟨k+1,0,none⟩)) (w':=w2) rfl 150 (.tmp 1) rfl ?_ ?_ ?_;rfl;exact B2.out)|(refine wpList_al (v:=.pointer (some ⟨k+2,0,none⟩)) (w':=w3) rfl 64 8 rfl rfl ?_ ?_;(rw[← kc.out,← HZ.1];kernel_rfl))|(refine wpList_al (v:=.pointer (some ⟨k+3,0,none⟩)) (w':=w4) rfl 64 9 rfl rfl ?_ ?_;(rw[← b8.out,← HZ.2.1];kernel_rfl))|fail)
 clear B1 B2 kc b8
 simp only[Act.put,List.setIfInBounds_toArray,List.set_cons_succ,List.set_cons_zero]
 go_loopg [2,3] t (fun m s2 s3 W=>∃ i:Nat,i+m=t∧Hid (∃ E F v G H,Gd N (2^(t-i)) (2^i) G ((ptMd C f).pst (chF N) ivF u t q i).g∧Gd N (2^(t-i)) (2^i) H ((ptMd C f).pst (chF N) ivF u t q i).h∧Ph w W r k i i (2^(t-i)) E F E F v s2 s3 Lb Rb ((ptMd C f).pst (chF N) ivF u t q i).s (fun j=>(((ptMd C f).pst (chF N) ivF u t q i).a j).val) (fun j=>(((ptMd C f).pst (chF N) ivF u t q i).b j).val) G H U))
 case atStart=>exact ⟨0,oM,_,_,_,K4.out⟩
 case round =>
  obtain ⟨i,i1,KM⟩:=hrel
  by_cases hi:i<t
  ·obtain ⟨E,F,v,G,H,hG,hH,h0⟩:=KM.out
   clear KM
   have HI:=Hid.mk' hi
   obtain ⟨m,hm⟩:∃ m,m=2^(t-(i+1)):=⟨_,rfl⟩
   have kt:2^(t-i)=m+m:=by rw[hm,show t-i=t-(i+1)+1 by omega,Nat.pow_succ];omega
   have b7:0<m:=by rw[hm];exact Nat.pow_pos dC
   obtain ⟨c,hc⟩:∃ c,c=2^i:=⟨_,rfl⟩
   have ko:0<c:=by rw[hc];exact Nat.pow_pos dC
   have fe:c*(m+m)≤64:=by
    rw[← kt,hc,← Nat.pow_add,show i+(t-i)=t by omega]
    exact Nat.le_trans (Nat.pow_le_pow_right dC HF.2.2.2.2.2.2) dC
   have k0:c*m≤64:=by have:=Nat.mul_le_mul_left c (show m≤m+m by omega);omega
   have ew:m≤64:=by have:=Nat.mul_le_mul_right m ko;omega
   have eS:(ptMd C f).pst (chF N) ivF u t q (i+1)=(ptMd C f).pstep (chF N) ivF u m ((ptMd C f).pst (chF N) ivF u t q i):=by rw[hm];rfl
   have eL:(ptMd C f).pLi (chF N) ivF u t q i=(ptMd C f).pL u m ((ptMd C f).pst (chF N) ivF u t q i):=by rw[hm];rfl
   have eT:(ptMd C f).pTi (chF N) ivF u t q i=(ptMd C f).pT u m ((ptMd C f).pst (chF N) ivF u t q i):=by rw[hm];rfl
   have HE:Hid (2^(t-(i+1))=m∧2^(i+1)=c+c):=⟨hm.symm,by rw[Nat.pow_succ,hc];omega⟩
   rw[kt,← hc] at hG hH
   rw[kt] at h0
   clear hm kt hc
   generalize (ptMd C f).pst (chF N) ivF u t q i=L at hG hH h0 eS eL eT
   have HS:Hid ((ptMd C f).pst (chF N) ivF u t q (i+1)=(ptMd C f).pstep (chF N) ivF u m L∧(ptMd C f).pLi (chF N) ivF u t q i=(ptMd C f).pL u m L∧(ptMd C f).pTi (chF N) ivF u t q i=(ptMd C f).pT u m L):=⟨eS,eL,eT⟩
   clear eS eL eT
   obtain ⟨ga,oa,ca,rfl,e7,-⟩:=id h0.la
   obtain ⟨Z,ob,J,rfl,dy,-⟩:=id h0.lb
   have sG:=Hid.mk' (And.intro hG (And.intro hH (And.intro b7 (And.intro ko (And.intro fe (And.intro ew k0))))))
   obtain ⟨l1,fu,f7⟩:=side_c (Q:=QH r k E F) C HF.2.1 f b7 ko k0 hG.high hH.low HF.2.2.2.1 HF.2.2.2.2.1 HF.2.2.2.2.2.1 L.a (fun j=>L.b (m+j))
   obtain ⟨l2,f8,du⟩:=side_c (Q:=QH r k E F) C HF.2.1 f b7 ko k0 hG.low hH.high HF.2.2.2.1 HF.2.2.2.2.1 HF.2.2.2.2.2.1 (fun j=>L.a (m+j)) L.b
   obtain ⟨X,hX⟩:∃ X,X=wP ((ptMd C f).pL u m L):=⟨_,rfl⟩
   obtain ⟨Y,hY⟩:∃ Y,Y=wP ((ptMd C f).pT u m L):=⟨_,rfl⟩
   have sX:X.size=33:=by rw[hX];exact wr_size _
   have sY:Y.size=33:=by rw[hY];exact wr_size _
   have bt:∀ (W:World) (v:Value),Sm 0 W v l1→Calls Tryz.prog 33 #[v] W (Ret fun e w'=>Below W.heap.size W w'∧e=pvl X):=by rw[hX];exact f7
   have bg:∀ (W:World) (v:Value),Sm 0 W v l2→Calls Tryz.prog 33 #[v] W (Ret fun e w'=>Below W.heap.size W w'∧e=pvl Y):=by rw[hY];exact du
   clear f7 du
   obtain ⟨PH,h4⟩:∃ PH:World→Prop,Hid (∀ W,PH W↔Ph w W r k i i (m+m) E F E F v (.slice (some ⟨ga,oa,none⟩) (m+m) ca) (.slice (some ⟨Z,ob,none⟩) (m+m) J) Lb Rb L.s (fun j=>(L.a j).val) (fun j=>(L.b j).val) G H U):=⟨_,fun _=>Iff.rfl⟩
   have k5:Hid (∀ W W':World,Below W.heap.size W W'→PH W→PH W'):=fun W W' K h=>(h4 W').2 (((h4 W).1 h).grow K)
   have K0:Hid (PH wr):=(h4 wr).2 h0
   have fy:Hid (∀ W,PH W→Calls Tryz.prog 142 #[v] W (Ret (CrR (QH r k E F) W m G H U))):=fun W h=>crossed_c m b7 oM G H U v W ((h4 W).1 h).gr
   have cS:Hid ((∀ W (x:Value),PH W→GRq (QH r k E F) W x m (fun i=>G (m+i)) H U→Calls Tryz.prog 143 #[x,.slice (some ⟨ga,oa,none⟩) m ca,.slice (some ⟨Z,ob+m*4,none⟩) m (J-m)] W (Ret fun e w'=>Below W.heap.size W w'∧Sm W.heap.size w' e l1))∧(∀ W (x:Value),PH W→GRq (QH r k E F) W x m G (fun i=>H (m+i)) U→Calls Tryz.prog 143 #[x,.slice (some ⟨ga,oa+m*4,none⟩) m (ca-m),.slice (some ⟨Z,ob,none⟩) m J] W (Ret fun e w'=>Below W.heap.size W w'∧Sm W.heap.size w' e l2))):=
    ⟨fun W x h hx=>fu W x _ _ hx ((h4 W).1 h).la.low ((h4 W).1 h).lb.high,fun W x h hx=>f8 W x _ _ hx ((h4 W).1 h).la.high ((h4 W).1 h).lb.low⟩
   have cP:Hid ((∀ (W:World) (v:Value),Sm 0 W v l1→Calls Tryz.prog 33 #[v] W (Ret fun e w'=>Below W.heap.size W w'∧e=pvl X))∧(∀ (W:World) (v:Value),Sm 0 W v l2→Calls Tryz.prog 33 #[v] W (Ret fun e w'=>Below W.heap.size W w'∧e=pvl Y))):=⟨bt,bg⟩
   have c9:=slS_hi ga oa (m+m) ca m oM
   have ki:=slS_lo Z ob (m+m) J m oM dy
   have kj:=slS_lo ga oa (m+m) ca m oM e7
   have bn:=slS_hi Z ob (m+m) J m oM
   rw[Nat.add_sub_cancel] at ki kj
   have h9:=mk4 sX sY hX hY
   obtain ⟨sx,cx,f3,ft⟩:∃ (s:Bs) (c:Fin N),Hid (chF N L.s ((ptMd C f).pL u m L) ((ptMd C f).pT u m L)=(s,c)∧s.size=32)∧Hid (∀ W:World,Holds encB W r 0 L.s→L.s.size=32→Calls Tryz.prog 135 #[lgV r,.string ⟨#[108,101,102,116]⟩,pvl X,.string ⟨#[114,105,103,104,116]⟩,pvl Y] W (Ret fun e w'=>SP.Only r 0 32 W w'∧Holds encB w' r 0 s∧e=nv c.val)):=chHalf HF.2.1 HF.2.2.1 r L.s _ _ X Y hX hY
   obtain ⟨e1,fn,kr,bo,bl⟩:=h0.r1
   have HV:=mk3 fn kr bo
   have R1:Hid (wr.rangeAt (k+1) 0 e1.toList∧(Tryz.prog.info? 150).map (·.size)=some e1.toList.length):=⟨bl.2.1,by rw[Array.length_toList,kr];exact iGr⟩
   obtain ⟨n,hn⟩:=hE (m+m)
   have hq:(n:Int).tdiv 2=(m:Int):=by rw[← hn.out];exact quo2 m
   have i0:(1:Int)<(n:Int):=by rw[← hn.out];omega
   rw[hn.out] at c9 ki kj bn
   rw[hn.out]
   clear h0 fu f8 bt bg sX sY hX hY fn kr bo bl hG hH fe k0 e7 dy ko hi
   go_wp2_with (first|(refine wpList_load_mid rfl 150 (.tmp 5) rfl (k+1) 0 ?_ e1.toList d ?_ ?_ ?_ ?_ ?_;rfl;exact R1.1;exact HD.1;exact HD.2;exact R1.2;rw[show Value.agg e1.toList.toArray=v from HV.1.symm])|fail)
   refine (fy wr K0.out).mono ?_
   rintro e W1 ⟨uu,rfl,g3,f1,f2,rfl,d2,d8,gw,gt,gp,gq⟩
   have K1:=mk1 (k5 wr W1 g3 K0.out)
   obtain ⟨b1,h7⟩:∃ b,Hid (W1.heap.size=b):=⟨_,rfl⟩
   obtain ⟨W2,ky⟩:∃ W,Hid (W1.alloc (.cells #[.slice none 0 0,.slice none 0 0,.slice none 0 0] 150)=W):=⟨_,rfl⟩
   obtain ⟨W3,ck⟩:∃ W,Hid (W2.alloc (.cells #[.slice none 0 0,.slice none 0 0,.slice none 0 0] 150)=W):=⟨_,rfl⟩
   obtain ⟨W4,ey⟩:∃ W,Hid (W3.setCells b1 0 f1.toList=W):=⟨_,rfl⟩
   obtain ⟨W5,eu⟩:∃ W,Hid (W4.setCells (b1+1) 0 f2.toList=W):=⟨_,rfl⟩
   have zz:W2.heap.size=b1+1:=by rw[← ky.out,World.size_alloc,h7.out]
   have c3:f1.toList.length=3:=by rw[Array.length_toList];exact d2
   have c7:f2.toList.length=3:=by rw[Array.length_toList];exact d8
   have F3:Below W1.heap.size W1 W3∧Row W3 b1 [.slice none 0 0,.slice none 0 0,.slice none 0 0]∧Row W3 (b1+1) [.slice none 0 0,.slice none 0 0,.slice none 0 0]:=by
    have bA:Below W1.heap.size W1 W2:=by rw[← ky.out];exact below1 _ _
    have A:Below W2.heap.size W2 W3:=by rw[← ck.out];exact below1 _ _
    have D:Row W2 b1 [.slice none 0 0,.slice none 0 0,.slice none 0 0]:=by rw[← ky.out,← h7.out];exact row_new W1 _ _
    have R:Row W3 (b1+1) [.slice none 0 0,.slice none 0 0,.slice none 0 0]:=by rw[← ck.out,← zz];exact row_new W2 _ _
    exact ⟨bA.trans (A.mono bA.size),D.below A,R⟩
   have F4:Below W1.heap.size W1 W4∧Row W4 b1 f1.toList∧Row W4 (b1+1) [.slice none 0 0,.slice none 0 0,.slice none 0 0]:=by
    rw[← ey.out]
    exact ⟨RG.below_setCells (by rw[h7.out];exact Nat.le_refl _) _ _ _ F3.1,F3.2.1.put (by rw[c3];rfl),row_set F3.2.2 oM⟩
   have F5:Below W1.heap.size W1 W5∧Row W5 b1 f1.toList∧Row W5 (b1+1) f2.toList:=by
    rw[← eu.out]
    exact ⟨RG.below_setCells (by rw[h7.out];omega) _ _ _ F4.1,row_set F4.2.1 oM,F4.2.2.put (by rw[c7];rfl)⟩
   have K5:=mk5 (k5 W1 W5 F5.1 K1.out) F5.2.1 F5.2.2 (gp.keep (Kq.of_below F5.1)) (gq.keep (Kq.of_below F5.1))
   have HT:Hid ((W2.heap.size=b1+1∧W3.there b1 0 f1.size∧W4.there (b1+1) 0 f2.size)∧f1.all (·.oneCell')=true∧f2.all (·.oneCell')=true∧(Tryz.prog.info? 150).map (·.size)=some f1.size∧(Tryz.prog.info? 150).map (·.size)=some f2.size∧(Tryz.prog.info? 150).map (·.size)=some f1.toList.length∧(Tryz.prog.info? 150).map (·.size)=some f2.toList.length):=⟨⟨zz,by rw[d2];exact F3.2.1.2.2,by rw[d8];exact F4.2.2.2.2⟩,gw,gt,by rw[d2];exact iGr,by rw[d8];exact iGr,by rw[c3];exact iGr,by rw[c7];exact iGr⟩
   obtain ⟨y1,fq⟩:=hE (Value.agg f1)
   obtain ⟨y2,fl⟩:=hE (Value.agg f2)
   rw[fq.out,fl.out]
   go_wp2_with (first|(refine alR 11 h7 ky ?_)|(refine wpList_al (v:=.pointer (some ⟨b1+1,0,none⟩)) (w':=W3) rfl 150 12 rfl rfl ?_ ?_;(rw[← ck.out,← HT.1.1];kernel_rfl))|(refine wpList_store_mid rfl 150 (.tmp 11) _ rfl b1 0 f1 ?_ ?_ ?_ ?_ ?_ ?_;rfl;exact fq.symm;exact HT.1.2.1;exact HT.2.2.2.1;exact HT.2.1;rw[ey.out])|(refine wpList_store_mid rfl 150 (.tmp 12) _ rfl (b1+1) 0 f2 ?_ ?_ ?_ ?_ ?_ ?_;rfl;exact fl.symm;exact HT.1.2.2;exact HT.2.2.2.2.1;exact HT.2.2.1;rw[eu.out])|fail)
   refine (RG.gwL [RG.pE (.agg f1.toList.toArray),RG.pE (.slice (some ⟨ga,oa,none⟩) n ca),RG.pE (.int .i64 m),RG.pE (.slice (some ⟨ga,oa,none⟩) m ca),RG.pE (.slice (some ⟨Z,ob,none⟩) n J),RG.pE (.int .i64 m),RG.pE (.slice (some ⟨Z,ob+m*4,none⟩) m (J-m)),RG.pM (fun _=>True) l1,RG.pE (pvl X),RG.pN W5.heap.size z33] (fun W=>Below W5.heap.size W5 W) (fun W W' K h=>h.trans (K.mono h.size))).tail2 10 kR kR kR ⟨
    RG.gw_lo 150 11 b1 0 f1.toList uGr HT.2.2.2.2.2.1 rfl (fun W T=>RG.range_below K5.2.1.2.1 T K5.2.1.1) (fun _=>rfl),
    RG.gO 2 (.slice (some ⟨ga,oa,none⟩) n ca),
    RG.gO 10 (.int .i64 m),
    RG.gX 1 29 2 30 c9,
    RG.gO 3 (.slice (some ⟨Z,ob,none⟩) n J),
    RG.gO 10 (.int .i64 m),
    RG.gX 4 32 5 33 ki,
    RG.gw_c3 0 28 3 31 6 34 143 (fun x y z=>#[x,y,z]) (fun x y z W hx A hz T=>by
     obtain rfl:x=.agg f1.toList.toArray:=hx
     obtain rfl:y=(.slice (some ⟨ga,oa,none⟩) m ca):=A
     obtain rfl:z=(.slice (some ⟨Z,ob+m*4,none⟩) m (J-m)):=hz
     refine (cS.1 W _ (k5 W5 W T K5.1) (K5.2.2.2.1.keep (Kq.of_below T))).mono ?_
     rintro e W' ⟨uu,rfl,K,hs⟩
     exact ⟨_,rfl,K,hs.q.mono fun _ _=>trivial⟩),
    RG.gw_c1 7 35 33 (fun x=>#[x]) (fun x W hx T=>by
     have hx:=hx
     refine (cP.1 W x hx.sm).mono ?_
     rintro e W' ⟨uu,rfl,K,rfl⟩
     exact ⟨_,rfl,K,rfl⟩),
    RG.gw_a z33 51 (fun W W' hR T=>⟨_,rfl,T.size,hR⟩),trivial⟩ (Below.refl _ _).drew ?_
   intro V cp hR T
   have dh:=hR 8 dC
   obtain ⟨D,ct,h5,kb⟩:∃ k,V 9=.pointer (some ⟨k,0,none⟩)∧W5.heap.size≤k∧Row cp k z33:=hR 9 dC
   obtain ⟨W7,d7⟩:=hE (cp.setCells D 0 (bl33 X))
   have kp:=bl33_length h9.1
   have co:Below W5.heap.size W5 W7:=by rw[← d7.out];exact RG.below_setCells h5 _ _ _ T
   have gn:Row W7 D (bl33 X):=by rw[← d7.out];exact kb.put (by rw[kp];rfl)
   have bs:Hid (cp.there D 0 (bl33 X).toArray.size∧(Tryz.prog.info? 51).map (·.size)=some (bl33 X).toArray.size):=by
    rw[List.size_toArray,kp]
    exact ⟨kb.2.2,iCP⟩
   dsimp only[RG.putV,Nat.reduceAdd,List.take,List.drop]
   simp only[Act.put,List.setIfInBounds_toArray,List.set_cons_succ,List.set_cons_zero]
   obtain ⟨i3,bz⟩:=hE (pvl X)
   rw[dh,ct,bz.out]
   have fk:=mk1 (Nat.lt_of_lt_of_le ((h4 W5).1 K5.1).r3.1 h5)
   have c0:Hid (∀ g,E.ownBlock=some g∨F.ownBlock=some g→g<D):=fun g M=>by
    have h:=(h4 W5).1 K5.1
    rcases M with M|M
    ·exact Nat.lt_of_lt_of_le (h.tL.lt M).2 h5
    ·exact Nat.lt_of_lt_of_le (h.tR.lt M).2 h5
   have K7:=mk4 (k5 W5 W7 co K5.1) (K5.2.2.1.below co) (K5.2.2.2.2.keep (Kq.of_below co)) gn
   go_wp2_with (first|(refine stR 13 d7 bz bs.1 bs.2 (bl33_one X) ?_)|fail)
   refine (RG.gwL [RG.pE (.agg f2.toList.toArray),RG.pE (.slice (some ⟨ga,oa,none⟩) n ca),RG.pE (.int .i64 m),RG.pE (.slice (some ⟨ga,oa+m*4,none⟩) m (ca-m)),RG.pE (.slice (some ⟨Z,ob,none⟩) n J),RG.pE (.int .i64 m),RG.pE (.slice (some ⟨Z,ob,none⟩) m J),RG.pM (fun _=>True) l2,RG.pE (pvl Y),RG.pN W7.heap.size z33] (fun W=>Below W7.heap.size W7 W) (fun W W' K h=>h.trans (K.mono h.size))).tail2 10 kR kR kR ⟨
    RG.gw_lo 150 12 (b1+1) 0 f2.toList uGr HT.2.2.2.2.2.2 rfl (fun W T=>RG.range_below K7.2.1.2.1 T K7.2.1.1) (fun _=>rfl),
    RG.gO 2 (.slice (some ⟨ga,oa,none⟩) n ca),
    RG.gO 10 (.int .i64 m),
    RG.gX 1 38 2 39 kj,
    RG.gO 3 (.slice (some ⟨Z,ob,none⟩) n J),
    RG.gO 10 (.int .i64 m),
    RG.gX 4 41 5 42 bn,
    RG.gw_c3 0 37 3 40 6 43 143 (fun x y z=>#[x,y,z]) (fun x y z W hx A hz T=>by
     obtain rfl:x=.agg f2.toList.toArray:=hx
     obtain rfl:y=(.slice (some ⟨ga,oa+m*4,none⟩) m (ca-m)):=A
     obtain rfl:z=(.slice (some ⟨Z,ob,none⟩) m J):=hz
     refine (cS.2 W _ (k5 W7 W T K7.1) (K7.2.2.1.keep (Kq.of_below T))).mono ?_
     rintro e W' ⟨uu,rfl,K,hs⟩
     exact ⟨_,rfl,K,hs.q.mono fun _ _=>trivial⟩),
    RG.gw_c1 7 44 33 (fun x=>#[x]) (fun x W hx T=>by
     have hx:=hx
     refine (cP.2 W x hx.sm).mono ?_
     rintro e W' ⟨uu,rfl,K,rfl⟩
     exact ⟨_,rfl,K,rfl⟩),
    RG.gw_a z33 51 (fun W W' hR T=>⟨_,rfl,T.size,hR⟩),trivial⟩ (Below.refl _ _).drew ?_
   intro V cv hR T
   have dh:=hR 8 dC
   obtain ⟨A,ct,h5,kb⟩:∃ k,V 9=.pointer (some ⟨k,0,none⟩)∧W7.heap.size≤k∧Row cv k z33:=hR 9 dC
   obtain ⟨W9,d0⟩:∃ W,Hid (cv.setCells A 0 (bl33 Y)=W):=⟨_,rfl⟩
   have kp:=bl33_length h9.2.1
   have eo:Below W7.heap.size W7 W9:=by rw[← d0.out];exact RG.below_setCells h5 _ _ _ T
   have gr:Row W9 A (bl33 Y):=by rw[← d0.out];exact kb.put (by rw[kp];rfl)
   have bi:Hid (cv.there A 0 (bl33 Y).toArray.size∧(Tryz.prog.info? 51).map (·.size)=some (bl33 Y).toArray.size):=by
    rw[List.size_toArray,kp]
    exact ⟨kb.2.2,iCP⟩
   dsimp only[RG.putV,Nat.reduceAdd,List.take,List.drop]
   simp only[Act.put,List.setIfInBounds_toArray,List.set_cons_succ,List.set_cons_zero]
   obtain ⟨i4,bp⟩:=hE (pvl Y)
   rw[dh,ct,bp.out]
   have K9:Hid (PH W9∧Row W9 D (bl33 X)∧Row W9 A (bl33 Y)∧W9.heap.size≤W9.heap.size):=⟨k5.out W7 W9 eo K7.1,K7.2.2.2.below eo,gr,Nat.le_refl _⟩
   have fg:=mk2 fk.out (Nat.lt_of_lt_of_le ((h4 W7).1 K7.1).r3.1 h5)
   have bk:Hid (∀ g,E.ownBlock=some g∨F.ownBlock=some g→g<A):=fun g M=>by
    have h:=(h4 W7).1 K7.1
    rcases M with M|M
    ·exact Nat.lt_of_lt_of_le (h.tL.lt M).2 h5
    ·exact Nat.lt_of_lt_of_le (h.tR.lt M).2 h5
   go_wp2_with (first|(refine stR 14 d0 bp bi.1 bi.2 (bl33_one Y) ?_)|fail)
   obtain ⟨dP,k3,k2⟩:=Option.map_eq_some_iff.1 uCP
   have km:(Tryz.prog.info? 51).map (·.size)=some (bl33 X).length:=by rw[bl33_length h9.1];exact iCP
   have k9:(Tryz.prog.info? 51).map (·.size)=some (bl33 Y).length:=by rw[bl33_length h9.2.1];exact iCP
   have kd:∀ W W':World,Below W.heap.size W W'→k+3<W.heap.size→D<W.heap.size→A<W.heap.size→(W.cell? ⟨k+3,0,none⟩=some E∧W.cell? ⟨k+3,1,none⟩=some F∧W.rangeAt D 0 (bl33 X)∧W.rangeAt A 0 (bl33 Y))→(W'.cell? ⟨k+3,0,none⟩=some E∧W'.cell? ⟨k+3,1,none⟩=some F∧W'.rangeAt D 0 (bl33 X)∧W'.rangeAt A 0 (bl33 Y)):=fun W W' K h3 g8 kv h=>⟨by rw[K.cell (p:=⟨k+3,0,none⟩) h3];exact h.1,by rw[K.cell (p:=⟨k+3,1,none⟩) h3];exact h.2.1,RG.range_below h.2.2.1 K g8,RG.range_below h.2.2.2 K kv⟩
   have ci:∀ W W':World,W'.heap[k+3]? = W.heap[k+3]?→W'.heap[D]? = W.heap[D]?→W'.heap[A]? = W.heap[A]?→(W.cell? ⟨k+3,0,none⟩=some E∧W.cell? ⟨k+3,1,none⟩=some F∧W.rangeAt D 0 (bl33 X)∧W.rangeAt A 0 (bl33 Y))→(W'.cell? ⟨k+3,0,none⟩=some E∧W'.cell? ⟨k+3,1,none⟩=some F∧W'.rangeAt D 0 (bl33 X)∧W'.rangeAt A 0 (bl33 Y)):=fun W W' e3 fz g7 h=>⟨by rw[World.cell?_of_block (a:=⟨k+3,0,none⟩) e3];exact h.1,by rw[World.cell?_of_block (a:=⟨k+3,1,none⟩) e3];exact h.2.1,fun j u hj=>by rw[World.cell?_of_block (a:=⟨D,0+j,none⟩) fz];exact h.2.2.1 j u hj,fun j u hj=>by rw[World.cell?_of_block (a:=⟨A,0+j,none⟩) g7];exact h.2.2.2 j u hj⟩
   have P9:=(h4 W9).1 K9.1
   have gc:=P9.r3.1
   obtain ⟨-,i2,-,fj⟩:=P9.r3
   have S9:W9.drew.cell? ⟨k+3,0,none⟩=some E∧W9.drew.cell? ⟨k+3,1,none⟩=some F∧W9.drew.rangeAt D 0 (bl33 X)∧W9.drew.rangeAt A 0 (bl33 Y):=⟨fj.2.1 0 _ rfl,fj.2.1 1 _ rfl,K9.2.1.2.1,K9.2.2.1.2.1⟩
   have z9:k+3<W9.drew.heap.size∧D<W9.drew.heap.size∧A<W9.drew.heap.size:=⟨P9.r3.1,K9.2.1.1,K9.2.2.1.1⟩
   have P9:=P9.drew
   have dq:Lb i=X:=by rw[ep.1 i,HS.2.1];exact h9.2.2.1.symm
   have dk:Rb i=Y:=by rw[ep.2 i,HS.2.2];exact h9.2.2.2.symm
   have h8:∀ (i:Nat),i≠13→i≠15→∀ (l:Array Bool) (W:World),(((l.setIfInBounds i true).getD 13 false=false→W.cell? ⟨k+3,0,none⟩=some E)∧((l.setIfInBounds i true).getD 15 false=false→W.cell? ⟨k+3,1,none⟩=some F)∧W.rangeAt D 0 (bl33 X)∧W.rangeAt A 0 (bl33 Y))→((l.getD 13 false=false→W.cell? ⟨k+3,0,none⟩=some E)∧(l.getD 15 false=false→W.cell? ⟨k+3,1,none⟩=some F)∧W.rangeAt D 0 (bl33 X)∧W.rangeAt A 0 (bl33 Y)):=fun i h1 h2 l W h=>⟨fun e=>h.1 (by rw[getD_set_ne false h1];exact e),fun e=>h.2.1 (by rw[getD_set_ne false h2];exact e),h.2.2⟩
   have mS:∀ (l:Array Bool) (W:World),(W.cell? ⟨k+3,0,none⟩=some E∧W.cell? ⟨k+3,1,none⟩=some F∧W.rangeAt D 0 (bl33 X)∧W.rangeAt A 0 (bl33 Y))→((l.getD 13 false=false→W.cell? ⟨k+3,0,none⟩=some E)∧(l.getD 15 false=false→W.cell? ⟨k+3,1,none⟩=some F)∧W.rangeAt D 0 (bl33 X)∧W.rangeAt A 0 (bl33 Y)):=fun l W h=>⟨fun _=>h.1,fun _=>h.2.1,h.2.2⟩
   refine anyS.begin (fun l W=>(l.getD 13 false=false→W.cell? ⟨k+3,0,none⟩=some E)∧(l.getD 15 false=false→W.cell? ⟨k+3,1,none⟩=some F)∧W.rangeAt D 0 (bl33 X)∧W.rangeAt A 0 (bl33 Y)) kR ?_
   have bS:∀ (p:Nat),Bef (fun l W=>(Array.getD l 13 false=false→World.cell? W ⟨k+3,0,none⟩=some E)∧(Array.getD l 15 false=false→World.cell? W ⟨k+3,1,none⟩=some F)∧World.rangeAt W D 0 (bl33 X)∧World.rangeAt W A 0 (bl33 Y)) p W9.drew:=fun p=>⟨#[],by simp,mS _ _ S9⟩
   refine anyS.val (i:=0) (d:=some 46) (x:=.pointer (some ⟨k+3,0,none⟩)) rfl 13 (h8 0 dC dC) (bS 13) (mS _ _ S9) ?_
   refine anyS.cel (i:=1) (d:=some 47) (x:=E) rfl 13 (h8 1 dC dC) 27 46 (k+3) 0 rfl uLL (fun W ⟨l,e,h⟩=>h.1 e) (bS 13) (mS _ _ S9) ?_
   refine anyS.row (i:=2) (d:=some 48) (cs:=bl33 X) rfl 13 (h8 2 dC dC) 51 13 D 0 dP rfl k3 k2 km (fun W ⟨l,e,h⟩=>h.2.2.1) (bS 13) (mS _ _ S9) ?_
   refine anyS.val (i:=6) (d:=some 52) (x:=.pointer (some ⟨k+3,1,none⟩)) rfl 13 (h8 6 dC dC) (bS 13) (mS _ _ S9) ?_
   refine anyS.cel (i:=7) (d:=some 53) (x:=F) rfl 15 (h8 7 dC dC) 27 52 (k+3) 1 rfl uLL (fun W ⟨l,e,h⟩=>h.2.1 e) (bS 15) (mS _ _ S9) ?_
   refine anyS.row (i:=8) (d:=some 54) (cs:=bl33 Y) rfl 14 (h8 8 dC dC) 51 14 A 0 dP rfl k3 k2 k9 (fun W ⟨l,e,h⟩=>h.2.2.2) (bS 14) (mS _ _ S9) ?_
   refine anyS.cal (i:=3) (d:=some 49) rfl (ptBytesQ_c h9.1 W9.drew) (fun xa Wa hp=>?_)
   have Pa:=P9.grow hp.1
   have Sa:=kd _ _ hp.1 z9.1 z9.2.1 z9.2.2 S9
   have za:k+3<Wa.heap.size∧D<Wa.heap.size∧A<Wa.heap.size:=by have:=hp.1.size;omega
   obtain ⟨gx,rfl⟩:=hp.2.2
   have Ea:=hp.2.1.mono2 fun g _ M=>P9.qn g M
   have cu:=mk2 hp.1 hp.2.1
   refine ⟨mS _ _ Sa,?_⟩
   have bb:=below1 Wa (.cells #[r33 gx] 23)
   have g6:=bslQ Ea Wa
   have Pb:=Pa.grow bb
   have Sb:=kd _ _ bb za.1 za.2.1 za.2.2 Sa
   have zb:k+3<(Wa.alloc (.cells #[r33 gx] 23)).heap.size∧D<(Wa.alloc (.cells #[r33 gx] 23)).heap.size∧A<(Wa.alloc (.cells #[r33 gx] 23)).heap.size:=by have:=bb.size;omega
   have g0:=(row_new Wa [r33 gx] 23).2.1 0 _ rfl
   refine anyS.ins (i:=4) (d:=some 50) (v:=.slice (some ⟨Wa.heap.size,0,none⟩) 1 1) (w':=Wa.alloc (.cells #[r33 gx] 23)) (I:=Instr.buildSlice 27 1 #[(0,r33 gx)]) rfl g6 (mS _ _ Sb) ?_
   obtain ⟨R,Wc,gg,Pc,A1⟩:=P9.appL (ga:=Wa.heap.size) (gx:=gx) (cu.1.trans (bb.mono cu.1.size)) (by rw[dq];exact cu.2.keep (Kq.of_below bb)) g0 oM
   have Sc:=ci _ _ (A1.keep (k+3) zb.1 fun e=>by have:=(Pb.tL.lt e).1;omega) (A1.keep D zb.2.1 fun e=>by have:=c0.out _ (Or.inl e);omega) (A1.keep A zb.2.2 fun e=>by have:=bk.out _ (Or.inl e);omega) Sb
   have zc:k+3<Wc.heap.size∧D<Wc.heap.size∧A<Wc.heap.size:=by have:=A1.size;omega
   refine anyS.ins (i:=5) (d:=some 51) (v:=R) (w':=Wc) (I:=Builtin.append_ #[27,27] 27 #[E,.slice (some ⟨Wa.heap.size,0,none⟩) 1 1]) rfl gg (mS _ _ Sc) ?_
   refine anyS.val (i:=12) (d:=some 58) (x:=.pointer (some ⟨k+3,0,none⟩)) rfl 13 (h8 12 dC dC) ⟨#[],by simp,mS _ _ Sc⟩ (mS _ _ Sc) ?_
   refine anyS.cal (i:=9) (d:=some 55) rfl (ptBytesQ_c h9.2.1 Wc) (fun xd Wd hu=>?_)
   have Pd:=Pc.grow hu.1
   have Sd:=kd _ _ hu.1 zc.1 zc.2.1 zc.2.2 Sc
   have zd:k+3<Wd.heap.size∧D<Wd.heap.size∧A<Wd.heap.size:=by have:=hu.1.size;omega
   obtain ⟨gy,rfl⟩:=hu.2.2
   have Ed:=hu.2.1.mono2 fun g _ M=>Pc.qn g M
   have dd:=mk2 hu.1 hu.2.1
   refine ⟨mS _ _ Sd,?_⟩
   have bd:=below1 Wd (.cells #[r33 gy] 23)
   have fd:=bslQ Ed Wd
   have Pe:=Pd.grow bd
   have Se:=kd _ _ bd zd.1 zd.2.1 zd.2.2 Sd
   have ze:k+3<(Wd.alloc (.cells #[r33 gy] 23)).heap.size∧D<(Wd.alloc (.cells #[r33 gy] 23)).heap.size∧A<(Wd.alloc (.cells #[r33 gy] 23)).heap.size:=by have:=bd.size;omega
   have ge:(Wd.alloc (.cells #[r33 gy] 23)).cell? ⟨Wd.heap.size,0,none⟩=some (r33 gy):=(row_new Wd [r33 gy] 23).2.1 0 _ rfl
   refine anyS.ins (i:=10) (d:=some 56) (v:=.slice (some ⟨Wd.heap.size,0,none⟩) 1 1) (w':=Wd.alloc (.cells #[r33 gy] 23)) (I:=Instr.buildSlice 27 1 #[(0,r33 gy)]) rfl fd (mS _ _ Se) ?_
   have gv:ElQ (Wc.heap.size≤·) 33 (Wd.alloc (.cells #[r33 gy] 23)) (r33 gy) (Rb i):=by rw[dk];exact dd.2.keep (Kq.of_below bd)
   have gm:i≤900:=oM
   have er:=Pc.appR (ga:=Wd.heap.size) (gx:=gy) (dd.1.trans (bd.mono dd.1.size)) gv ge gm
   obtain ⟨S,Wf,gj,Pf,A2⟩:=er
   have Sf:=ci _ _ (A2.keep (k+3) ze.1 fun e=>by have:=(Pe.tR.lt e).1;omega) (A2.keep D ze.2.1 fun e=>by have:=c0.out _ (Or.inr e);omega) (A2.keep A ze.2.2 fun e=>by have:=bk.out _ (Or.inr e);omega) Se
   have zf:D<Wf.heap.size∧A<Wf.heap.size:=by have:=A2.size;omega
   refine anyS.ins (i:=11) (d:=some 57) (v:=S) (w':=Wf) (I:=Builtin.append_ #[27,27] 27 #[F,.slice (some ⟨Wd.heap.size,0,none⟩) 1 1]) rfl gj (mS _ _ Sf) ?_
   have kh:=Pf.tL.one
   have k7:=Pf.tR.one
   obtain ⟨-,gz,-,de⟩:=Pf.r3
   have fs:Wf.there (k+3) 0 1:=fun j hj=>de.2.2 j (Nat.lt_of_lt_of_le hj (Nat.succ_le_succ (Nat.zero_le _)))
   have es:Wf.there (k+3) 1 1:=fun j hj=>by
    have ka:j=0:=oM
    subst ka
    exact de.2.2 1 (Nat.succ_lt_succ (Nat.zero_lt_succ _))
   have g4:D≠k+3:=by have:=fg.1;omega
   have gs:A≠k+3:=by have:=fg.2;omega
   have rg:∀ (o:Nat) (x:Value) (W:World),W.rangeAt D 0 (bl33 X)∧W.rangeAt A 0 (bl33 Y)→(W.setCells (k+3) o [x]).rangeAt D 0 (bl33 X)∧(W.setCells (k+3) o [x]).rangeAt A 0 (bl33 Y):=fun o x W h=>⟨World.rangeAt_setCells_apart h.1 _ _ _ (Or.inl g4),World.rangeAt_setCells_apart h.2 _ _ _ (Or.inl gs)⟩
   have d3:=(row_cell (x:=R) (o:=0) de (Nat.zero_lt_succ _)).2.1 1 _ rfl
   refine anyS.sto (i:=13) (d:=none) rfl 27 (.tmp 58) (.tmp 51) rfl (k+3) 0 R kh.1 kh.2 fs iLL ⟨fun e=>absurd e (nfB kR),fun _=>d3,rg _ _ _ Sf.2.2⟩ ?_
   refine anyS.nxt (i:=14) (d:=some 59) (x:=.pointer (some ⟨k+3,1,none⟩)) rfl ⟨fun e=>absurd e (nfB kR),fun _=>d3,rg _ _ _ Sf.2.2⟩ ?_
   refine anyS.sto (i:=15) (d:=none) rfl 27 (.tmp 59) (.tmp 57) rfl (k+3) 1 S k7.1 k7.2 (World.there_setCells es _ _ _) iLL ⟨fun e=>absurd e (nfB kR),fun e=>absurd e (nfB kR),rg _ _ _ (rg _ _ _ Sf.2.2)⟩ ?_
   simp only[Act.put,List.setIfInBounds_toArray,List.set_cons_succ,List.set_cons_zero]
   refine anyS.fin kR (fun Wg eg=>?_) _
   have Pg:=Pf.put' eg
   have f6:Wg.rangeAt D 0 (bl33 X)∧Wg.rangeAt A 0 (bl33 Y):=by rw[eg];exact rg 1 S _ (rg 0 R _ Sf.2.2)
   have zg:D<Wg.heap.size∧A<Wg.heap.size:=by rw[eg,RG.setCells_size,RG.setCells_size];exact zf
   clear Pf Sf kh k7 fs es rg d3 zf mS h8 S9 P9 z9 kd ci eg
   have KG:=Hid.mk' (And.intro Pg (And.intro f6 zg))
   clear Pg f6 zg
   obtain ⟨dL,bh,c5⟩:=Option.map_eq_some_iff.1 uLg
   have cz:Hid ((Tryz.prog.underlying 159=some dL∧dL.isRow=true)∧Tryz.prog.underlying 51=some dP∧dP.isRow=true):=⟨⟨bh,c5⟩,k3,k2⟩
   have ke:Hid ((Tryz.prog.info? 51).map (·.size)=some (bl33 X).length∧(Tryz.prog.info? 51).map (·.size)=some (bl33 Y).length):=⟨km,k9⟩
   clear bh c5 k3 k2 km k9 dq dk gc
   obtain ⟨pX,dp⟩:∃ v,Hid (pvl X=v):=⟨_,rfl⟩
   obtain ⟨pY,fm⟩:∃ v,Hid (pvl Y=v):=⟨_,rfl⟩
   have dl:Hid (Calls Tryz.prog 135 #[vl,.string ⟨#[108,101,102,116]⟩,pX,.string ⟨#[114,105,103,104,116]⟩,pY] Wg (Ret fun e w'=>SP.Only r 0 32 Wg w'∧Holds encB w' r 0 sx∧e=nv cx.val)):=by
    rw[← b9.out,← dp.out,← fm.out]
    exact ft.out Wg KG.1.lg KG.1.ls
   go_wp2_with (first|(refine wpList_load_mid rfl 159 (.tmp 4) rfl k 0 ?_ [.pointer (some ⟨r,0,none⟩)] dL ?_ ?_ ?_ ?_ ?_;rfl;exact KG.1.r0.2.1;exact cz.1.1;exact cz.1.2;exact iLg;rw[show Value.agg [Value.pointer (some ⟨r,0,none⟩)].toArray=vl from b9.out])|(refine ldR 13 KG.2.1.1 dp uCP ke.1 ?_)|(refine ldR 14 KG.2.1.2 fm uCP ke.2 ?_)|fail)
   refine dl.mono ?_
   rintro e Wh ⟨uu,rfl,eh,fp,rfl⟩
   have ec:Hid (Ph w Wh r k (i+1) (i+1) (m+m) R S R S v (.slice (some ⟨ga,oa,none⟩) (m+m) ca) (.slice (some ⟨Z,ob,none⟩) (m+m) J) Lb Rb sx (fun j=>(L.a j).val) (fun j=>(L.b j).val) G H U):=KG.1.say eh fp f3.2
   clear eh fp dl KG cz ke ft
   obtain ⟨x,he⟩:∃ x,Hid (cx.val=x):=⟨_,rfl⟩
   obtain ⟨xi,h6⟩:∃ x,Hid ((ivF cx).val=x):=⟨_,rfl⟩
   have f5:Hid (∀ W:World,Calls Tryz.prog 144 #[nv x] W (Ret fun e w'=>Below W.heap.size W w'∧e=nv xi)):=by
    rw[← he.out,← h6.out]
    exact fun W=>sInv2_c HF.2.1 cx.val cx.isLt W
   rw[he.out]
   obtain ⟨b5,be⟩:∃ b,Hid (Wh.heap.size=b):=⟨_,rfl⟩
   obtain ⟨Wi,d1⟩:∃ W,Hid (Wh.alloc (.cells #[.int .u64 0,.int .u64 0,.int .u64 0,.int .u64 0] 44)=W):=⟨_,rfl⟩
   obtain ⟨Wj,ba⟩:∃ W,Hid (Wi.setCells b5 0 (wn x)=W):=⟨_,rfl⟩
   have Fi:Hid (Row Wi b5 [.int .u64 0,.int .u64 0,.int .u64 0,.int .u64 0]∧Below Wh.heap.size Wh Wi):=by rw[← d1.out,← be.out];exact ⟨row_new Wh _ _,below1 _ _⟩
   have bj:Below Wh.heap.size Wh Wj:=by rw[← ba.out];exact RG.below_setCells (by rw[be.out];exact Nat.le_refl _) _ _ _ Fi.2
   have Kj:Hid (Ph w Wj r k (i+1) (i+1) (m+m) R S R S v (.slice (some ⟨ga,oa,none⟩) (m+m) ca) (.slice (some ⟨Z,ob,none⟩) (m+m) J) Lb Rb sx (fun j=>(L.a j).val) (fun j=>(L.b j).val) G H U∧Row Wj b5 (wn x)):=⟨ec.grow bj,by rw[← ba.out];exact Fi.1.put rfl⟩
   obtain ⟨vx,kw⟩:∃ v,Hid (nv x=v):=⟨_,rfl⟩
   have c6:Hid (∀ W:World,Calls Tryz.prog 144 #[vx] W (Ret fun e w'=>Below W.heap.size W w'∧e=nv xi)):=by rw[← kw.out];exact f5.out
   rw[kw.out]
   clear bj ec f5
   go_wp2_with (first|(refine alR 15 be d1 ?_)|(refine stR 15 ba kw Fi.1.2.2 nSc (wn_one x) ?_)|(refine ldR 15 Kj.2.2.1 kw rSc nSc ?_)|fail)
   refine (c6 Wj).mono ?_
   rintro e Wk ⟨uu,rfl,h5,rfl⟩
   obtain ⟨b6,bf⟩:∃ b,Hid (Wk.heap.size=b):=⟨_,rfl⟩
   obtain ⟨Wl,df⟩:∃ W,Hid (Wk.alloc (.cells #[.int .u64 0,.int .u64 0,.int .u64 0,.int .u64 0] 44)=W):=⟨_,rfl⟩
   obtain ⟨Wm,kz⟩:∃ W,Hid (Wl.setCells b6 0 (wn xi)=W):=⟨_,rfl⟩
   have Fl:Hid (Row Wl b6 [.int .u64 0,.int .u64 0,.int .u64 0,.int .u64 0]∧Below Wk.heap.size Wk Wl):=by rw[← df.out,← bf.out];exact ⟨row_new Wk _ _,below1 _ _⟩
   have bm:Below Wj.heap.size Wj Wm:=by
    have:Below Wk.heap.size Wk Wm:=by rw[← kz.out];exact RG.below_setCells (by rw[bf.out];exact Nat.le_refl _) _ _ _ Fl.2
    exact h5.trans (this.mono h5.size)
   have Km:Hid (Ph w Wm r k (i+1) (i+1) (m+m) R S R S v (.slice (some ⟨ga,oa,none⟩) (m+m) ca) (.slice (some ⟨Z,ob,none⟩) (m+m) J) Lb Rb sx (fun j=>(L.a j).val) (fun j=>(L.b j).val) G H U∧Row Wm b5 (wn x)∧Row Wm b6 (wn xi)):=⟨Kj.1.grow bm,Kj.2.below bm,by rw[← kz.out];exact Fl.1.put rfl⟩
   obtain ⟨vi,e8⟩:∃ v,Hid (nv xi=v):=⟨_,rfl⟩
   rw[e8.out]
   clear bm h5 Kj Fi c6 d1 ba be
   go_wp2_with (first|(refine alR 16 bf df ?_)|(refine stR 16 kz e8 Fl.1.2.2 nSc (wn_one xi) ?_)|fail)
   clear Fl df kz bf
   simp only[Act.put,List.setIfInBounds_toArray,List.set_cons_succ,List.set_cons_zero]
   have kx:x<N:=by rw[← he.out];exact cx.isLt
   have k6:xi<N:=by rw[← h6.out];exact (ivF cx).isLt
   have e4:sIn N x=xi:=by rw[← he.out,← h6.out];rfl
   have ee:GOk N (m+m) c G H U:=gok_of (by have:=sG.2.2.1;omega) sG.2.2.2.1 sG.2.2.2.2.1 sG.1 sG.2.1 HF.2.2.2.1 HF.2.2.2.2.1 HF.2.2.2.2.2.1
   have PW:Hid (∀ W,Below Wm.heap.size Wm W→Ph w W r k (i+1) (i+1) (m+m) R S R S v (.slice (some ⟨ga,oa,none⟩) (m+m) ca) (.slice (some ⟨Z,ob,none⟩) (m+m) J) Lb Rb sx (fun j=>(L.a j).val) (fun j=>(L.b j).val) G H U):=fun W K=>Km.1.grow K
   have cF:Hid ((∀ W,Below Wm.heap.size Wm W→Calls Tryz.prog 145 #[(.slice (some ⟨ga,oa,none⟩) n ca),nv x,nv xi] W (Ret fun e w'=>Below W.heap.size W w'∧SLq (QH r k R S) w' e m (fldS N x xi m (fun j=>(L.a j).val))))∧(∀ W,Below Wm.heap.size Wm W→Calls Tryz.prog 145 #[(.slice (some ⟨Z,ob,none⟩) n J),nv xi,nv x] W (Ret fun e w'=>Below W.heap.size W w'∧SLq (QH r k R S) w' e m (fldS N xi x m (fun j=>(L.b j).val))))∧(∀ W,Below Wm.heap.size Wm W→Calls Tryz.prog 146 #[v,nv x] W (Ret fun e w'=>Below W.heap.size W w'∧GRq (QH r k R S) w' e m (fldT N xi x m G) (fldT N x xi m H) U))):=by
    rw[← hn.out]
    refine ⟨fun W K=>?_,fun W K=>?_,fun W K=>?_⟩
    ·refine (fldS_c HF.2.1 m (by have:=sG.2.2.2.2.2.1;omega) _ x xi kx k6 (fun j _=>(L.a j).isLt) _ W (PW W K).la).mono ?_
     rintro e w' ⟨uu,rfl,h1,h2⟩
     exact ⟨_,rfl,h1,h2.mono fun g M=>(PW W K).qn g M⟩
    ·refine (fldS_c HF.2.1 m (by have:=sG.2.2.2.2.2.1;omega) _ xi x k6 kx (fun j _=>(L.b j).isLt) _ W (PW W K).lb).mono ?_
     rintro e w' ⟨uu,rfl,h1,h2⟩
     exact ⟨_,rfl,h1,h2.mono fun g M=>(PW W K).qn g M⟩
    ·have:=foldG_c HF.2.1 m c sG.2.2.1 G H U ee x kx v W (PW W K).qn (PW W K).gr
     rw[e4] at this
     exact this
   obtain ⟨ev,dw,k8,f9,c4⟩:=Km.1.r1
   have k4:Hid (v=.agg ev∧Row Wm (k+1) ev.toList∧(Tryz.prog.info? 150).map (·.size)=some ev.toList.length∧ev.size=3):=⟨dw,c4,by rw[Array.length_toList,k8];exact iGr,k8⟩
   clear dw k8 f9 c4 kx k6 e4 ee
   refine (RG.gwL [RG.pE (.slice (some ⟨ga,oa,none⟩) n ca),RG.pE (nv x),RG.pE (nv xi),RG.pS (QH r k R S) m (fldS N x xi m (fun j=>(L.a j).val)),RG.pE (.slice (some ⟨Z,ob,none⟩) n J),RG.pE (nv xi),RG.pE (nv x),RG.pS (QH r k R S) m (fldS N xi x m (fun j=>(L.b j).val)),RG.pE (.agg ev.toList.toArray),RG.pE (nv x),RG.pR (QH r k R S) m (fldT N xi x m G) (fldT N x xi m H) U] (fun W=>Below Wm.heap.size Wm W) (fun W W' K h=>h.trans (K.mono h.size))).tail2 11 kR kR kR ⟨
    RG.gO 2 (.slice (some ⟨ga,oa,none⟩) n ca),
    RG.gLo 15 (fun W T=>RG.range_below Km.2.1.2.1 T Km.2.1.1) rSc nSc,
    RG.gLo 16 (fun W T=>RG.range_below Km.2.2.2.1 T Km.2.2.1) rSc nSc,
    RG.gw_c3 0 66 1 67 2 68 145 (fun x y z=>#[x,y,z]) (fun a1 a2 a3 W h1 h2 h3 T=>by
     obtain rfl:a1=(.slice (some ⟨ga,oa,none⟩) n ca):=h1
     obtain rfl:a2=nv x:=h2
     obtain rfl:a3=nv xi:=h3
     refine (cF.1 W T).mono ?_
     rintro e W' ⟨uu,rfl,K,hs⟩
     exact ⟨_,rfl,K,hs⟩),
    RG.gO 3 (.slice (some ⟨Z,ob,none⟩) n J),
    RG.gLo 16 (fun W T=>RG.range_below Km.2.2.2.1 T Km.2.2.1) rSc nSc,
    RG.gLo 15 (fun W T=>RG.range_below Km.2.1.2.1 T Km.2.1.1) rSc nSc,
    RG.gw_c3 4 70 5 71 6 72 145 (fun x y z=>#[x,y,z]) (fun a1 a2 a3 W h1 h2 h3 T=>by
     obtain rfl:a1=(.slice (some ⟨Z,ob,none⟩) n J):=h1
     obtain rfl:a2=nv xi:=h2
     obtain rfl:a3=nv x:=h3
     refine (cF.2.1 W T).mono ?_
     rintro e W' ⟨uu,rfl,K,hs⟩
     exact ⟨_,rfl,K,hs⟩),
    RG.gw_lo 150 5 (k+1) 0 ev.toList uGr k4.2.2.1 kR (fun W T=>RG.range_below k4.2.1.2.1 T k4.2.1.1) (fun _=>rfl),
    RG.gLo 15 (fun W T=>RG.range_below Km.2.1.2.1 T Km.2.1.1) rSc nSc,
    RG.gw_c2 8 74 9 75 146 (fun x y=>#[x,y]) (fun a1 a2 W h1 h2 T=>by
     obtain rfl:a1=v:=(show a1=.agg ev.toList.toArray from h1).trans k4.1.symm
     obtain rfl:a2=nv x:=h2
     refine (cF.2.2 W T).mono ?_
     rintro e W' ⟨uu,rfl,K,hs⟩
     exact ⟨_,rfl,K,hs⟩),trivial⟩ (Below.refl _ _).drew ?_
   intro V Wn hR T
   have cq:SLq (QH r k R S) Wn (V 3) m (fldS N x xi m (fun j=>(L.a j).val)):=hR 3 dC
   have d5:SLq (QH r k R S) Wn (V 7) m (fldS N xi x m (fun j=>(L.b j).val)):=hR 7 dC
   have hw:GRq (QH r k R S) Wn (V 10) m (fldT N xi x m G) (fldT N x xi m H) U:=hR 10 dC
   obtain ⟨ef,cg,kn,c8⟩:=hw.ar
   rw[cg] at hw
   dsimp only[RG.putV,Nat.reduceAdd,List.take,List.drop]
   simp only[Act.put,List.setIfInBounds_toArray,List.set_cons_succ,List.set_cons_zero]
   rw[cg]
   generalize V 3=na at cq ⊢
   generalize V 7=nb at d5 ⊢
   have Pn:=(PW Wn T).next cq d5 hw
   obtain ⟨Wo,em⟩:∃ W,Hid (Wn.setCells (k+1) 0 ef.toList=W):=⟨_,rfl⟩
   rw[em.out] at Pn
   have cd:Hid (Wn.there (k+1) 0 ef.size∧(Tryz.prog.info? 150).map (·.size)=some ef.size∧ef.all (·.oneCell')=true):=by
    refine ⟨?_,by rw[kn];exact iGr,c8⟩
    rw[kn]
    have:=(k4.2.1.below T).2.2
    rw[Array.length_toList,k4.2.2.2] at this
    exact this
   have bu:(ptMd C f).pstep (chF N) ivF u m L=⟨sx,Md.fS cx (ivF cx) m L.a,Md.fS (ivF cx) cx m L.b,(ptMd C f).fP (ivF cx) cx m L.g,(ptMd C f).fP cx (ivF cx) m L.h⟩:=by
    unfold Md.pstep
    rw[f3.1]
   have et:Hid (∃ E F v G H,Gd N (2^(t-(i+1))) (2^(i+1)) G ((ptMd C f).pst (chF N) ivF u t q (i+1)).g∧Gd N (2^(t-(i+1))) (2^(i+1)) H ((ptMd C f).pst (chF N) ivF u t q (i+1)).h∧Ph w Wo r k (i+1) (i+1) (2^(t-(i+1))) E F E F v na nb Lb Rb ((ptMd C f).pst (chF N) ivF u t q (i+1)).s (fun j=>(((ptMd C f).pst (chF N) ivF u t q (i+1)).a j).val) (fun j=>(((ptMd C f).pst (chF N) ivF u t q (i+1)).b j).val) G H U):=by
    show ∃ E F v G H,_
    rw[HS.1,bu,HE.1,HE.2]
    have ea:fldS N x xi m (fun j=>(L.a j).val)=fun j=>(Md.fS cx (ivF cx) m L.a j).val:=by
     rw[← he.out,← h6.out]
     funext j
     exact fldS_val cx (ivF cx) m L.a j
    have eb:fldS N xi x m (fun j=>(L.b j).val)=fun j=>(Md.fS (ivF cx) cx m L.b j).val:=by
     rw[← he.out,← h6.out]
     funext j
     exact fldS_val (ivF cx) cx m L.b j
    rw[ea,eb] at Pn
    have g1:=sG.1.fold C f (ivF cx) cx
    have g2:=sG.2.1.fold C f cx (ivF cx)
    rw[he.out,h6.out] at g1 g2
    exact ⟨_,_,_,_,_,g1,g2,Pn⟩
   obtain ⟨vf,ek⟩:∃ v,Hid (Value.agg ef=v):=⟨_,rfl⟩
   rw[ek.out]
   clear hR T cq d5 hw cg kn c8 Pn bu cF PW Km
   generalize V 0=q0
   generalize V 1=q1
   generalize V 2=q2
   generalize V 4=q4
   generalize V 5=q5
   generalize V 6=q6
   generalize V 8=q8
   generalize V 9=q9
   go_wp2_with (first|(refine wpList_store_mid rfl 150 (.tmp 5) _ rfl (k+1) 0 ef ?_ ?_ ?_ ?_ ?_ ?_;rfl;exact ek.symm;exact cd.1;exact cd.2.1;exact cd.2.2;rw[em.out])|fail)
   go_roundg (gk-1)
   case measure=>have:=HI.out;omega
   case rel=>exact ⟨i+1,by have:=HI.out;omega,et⟩
  ·have g9:i=t:=oM
   subst g9
   obtain ⟨E,F,v,G,H,-,-,h0⟩:=KM.out
   clear KM
   rw[Nat.sub_self,Nat.pow_zero] at h0
   obtain ⟨ga,oa,ca,rfl,-,qa,dm,X⟩:=id h0.la
   obtain ⟨Z,ob,J,rfl,-,qb,dz,V⟩:=id h0.lb
   have X:=X 0 dC
   have V:=V 0 dC
   obtain ⟨a0,da⟩:∃ a,Hid ((((ptMd C f).pst (chF N) ivF u i q i).a 0).val=a):=⟨_,rfl⟩
   obtain ⟨b0,d6⟩:∃ a,Hid ((((ptMd C f).pst (chF N) ivF u i q i).b 0).val=a):=⟨_,rfl⟩
   have X:wr.rangeAt ga (oa+4*0) (wn a0):=by rw[← da.out];exact X
   have V:wr.rangeAt Z (ob+4*0) (wn b0):=by rw[← d6.out];exact V
   have f4:Hid (a0<N∧b0<N):=⟨by rw[← da.out];exact Fin.isLt _,by rw[← d6.out];exact Fin.isLt _⟩
   have KP:=Hid.mk' h0
   have KR:Hid (wr.rangeAt ga (oa+4*0) (wn a0)∧wr.rangeAt Z (ob+4*0) (wn b0)∧ga<wr.heap.size∧Z<wr.heap.size):=⟨X,V,dm,dz⟩
   have hz:k+4≤wr.heap.size:=h0.r3.1
   have cf:=Hid.mk' hz
   obtain ⟨dS,Y,kg⟩:=Option.map_eq_some_iff.1 rSc
   have na:ga≠k+3:=by have:=qa.2.1;omega
   have nb:Z≠k+3:=by have:=qb.2.1;omega
   have L:∀ W,Below wr.heap.size wr W→W.rangeAt ga (oa+4*0) (wn a0)∧W.rangeAt Z (ob+4*0) (wn b0):=fun W K=>⟨RG.range_below X K dm,RG.range_below V K dz⟩
   have cn:∀ (o:Nat) (x:Value) (W:World),W.rangeAt ga (oa+4*0) (wn a0)∧W.rangeAt Z (ob+4*0) (wn b0)→(W.setCells (k+3) o [x]).rangeAt ga (oa+4*0) (wn a0)∧(W.setCells (k+3) o [x]).rangeAt Z (ob+4*0) (wn b0):=fun o x W h=>⟨World.rangeAt_setCells_apart h.1 _ _ _ (Or.inl na),World.rangeAt_setCells_apart h.2 _ _ _ (Or.inl nb)⟩
   have bd:Below wr.heap.size wr wr.drew:=(Below.refl _ _).drew
   clear h0 hz hi
   go_wp2_with fail
   refine anyS.begin (fun _ W=>W.rangeAt ga (oa+4*0) (wn a0)∧W.rangeAt Z (ob+4*0) (wn b0)) kR ?_
   have bS:Bef (fun _ W=>World.rangeAt W ga (oa+4*0) (wn a0)∧World.rangeAt W Z (ob+4*0) (wn b0)) 11 wr.drew:=⟨#[],by simp,L _ bd⟩
   refine anyS.val (i:=0) (d:=some 77) (x:=.slice (some ⟨ga,oa,none⟩) 1 ca) rfl 11 (fun _ _ h=>h) bS (L _ bd) ?_
   simp only[Act.put,List.setIfInBounds_toArray,List.set_cons_succ,List.set_cons_zero]
   refine anyS.val (i:=1) (d:=some 78) (x:=.pointer (some ⟨ga,oa+4*0,none⟩)) rfl 11 (fun _ _ h=>h) bS (L _ bd) ?_ (hv:=hvI (at33 ga oa 1 ca 0 dC) kR)
   simp only[Act.put,List.setIfInBounds_toArray,List.set_cons_succ,List.set_cons_zero]
   refine anyS.row (i:=2) (d:=some 79) (cs:=wn a0) rfl 11 (fun _ _ h=>h) 44 78 ga (oa+4*0) dS rfl Y kg nSc (fun W ⟨l,e,h⟩=>h.1) bS (L _ bd) ?_
   simp only[Act.put,List.setIfInBounds_toArray,List.set_cons_succ,List.set_cons_zero]
   refine anyS.val (i:=4) (d:=some 81) (x:=(.slice (some ⟨Z,ob,none⟩) 1 J)) rfl 11 (fun _ _ h=>h) bS (L _ bd) ?_
   simp only[Act.put,List.setIfInBounds_toArray,List.set_cons_succ,List.set_cons_zero]
   refine anyS.val (i:=5) (d:=some 82) (x:=.pointer (some ⟨Z,ob+4*0,none⟩)) rfl 11 (fun _ _ h=>h) bS (L _ bd) ?_ (hv:=hvI (at33 Z ob 1 J 0 dC) kR)
   simp only[Act.put,List.setIfInBounds_toArray,List.set_cons_succ,List.set_cons_zero]
   refine anyS.row (i:=6) (d:=some 83) (cs:=wn b0) rfl 11 (fun _ _ h=>h) 44 82 Z (ob+4*0) dS rfl Y kg nSc (fun W ⟨l,e,h⟩=>h.2) bS (L _ bd) ?_
   simp only[Act.put,List.setIfInBounds_toArray,List.set_cons_succ,List.set_cons_zero]
   clear bS
   refine anyS.cal (i:=3) (d:=some 80) rfl (scBytesQ_c HF.2.1 f4.1 wr.drew) (fun xA W1 kk=>?_)
   obtain ⟨D,rfl⟩:=kk.2.2
   have bA:Below wr.heap.size wr W1:=bd.trans kk.1
   refine ⟨L _ bA,?_⟩
   simp only[Act.put,List.setIfInBounds_toArray,List.set_cons_succ,List.set_cons_zero]
   refine anyS.val (i:=8) (d:=some 85) (x:=.pointer (some ⟨k+3,2,none⟩)) rfl 11 (fun _ _ h=>h) ⟨#[],by simp,L _ bA⟩ (L _ bA) ?_
   simp only[Act.put,List.setIfInBounds_toArray,List.set_cons_succ,List.set_cons_zero]
   have P1:=KP.grow bA
   have lA:wr.heap.size≤D∧D<W1.heap.size:=by
    obtain ⟨k1,c1,e1,-,-,q1,l1,-⟩:=kk.2.1
    obtain rfl:D=k1:=Option.some.inj (congrArg Value.ownBlock e1)
    exact ⟨q1,l1⟩
   have e9:ElQ (k+4≤·) 32 W1 (r32 D) (bx a0):=kk.2.1.mono2 fun g _ M=>Nat.le_trans cf.out M
   have R:∀ (W:World) (o:Nat) (x:Value),Kq (k+4≤·) W (W.setCells (k+3) o [x]):=fun W o x=>Kq.set fun g M e=>oM
   have T:∀ g,E.ownBlock=some g→g<wr.heap.size∧g≠k+3:=fun g M=>⟨(KP.tL.lt M).2,by have:=(KP.tL.lt M).1;omega⟩
   have S:∀ g,F.ownBlock=some g→g<wr.heap.size∧g≠k+3:=fun g M=>⟨(KP.tR.lt M).2,by have:=(KP.tR.lt M).1;omega⟩
   have key:∀ (W:World),(∀ g,g<wr.heap.size→g≠k+3→W.heap[g]? = wr.heap[g]?)→wr.heap.size≤W.heap.size→∀ A,D<A→A<W.heap.size→DjF (k+4) W i E F (r32 D) (r32 A):=fun W hk hs A h1 h2=>DjF.of KP.dj hs (fun g M=>hk g (T g M).1 (T g M).2) (fun g M=>hk g (S g M).1 (S g M).2) cf.out lA.1 h1 h2
   have fb:∀ {W:World},R3 W (k+3) E F→∃ z,Row (W.setCells (k+3) 2 [r32 D]) (k+3) [E,F,r32 D,z]∧W.there (k+3) 2 1:=fun h=>by
    obtain ⟨-,rs,hl,hr⟩:=h
    match rs,hl,hr with
    | [x,z],_,hr =>
     refine ⟨z,row_cell (x:=r32 D) (o:=2) hr (Nat.lt_of_sub_eq_succ rfl),fun j hj=>?_⟩
     have ka:j=0:=oM
     subst ka
     exact hr.2.2 2 (Nat.lt_of_sub_eq_succ rfl)
   obtain ⟨PH,p1,pF⟩:∃ PH:World→Prop,(∀ W W',Below W1.heap.size W1 W→W'=W.setCells (k+3) 2 [r32 D]→PH W'∧R3 W (k+3) E F)∧(∀ W A,PH W→ElQ (k+4≤·) 32 (W.setCells (k+3) 3 [r32 A]) (r32 D) (bx a0)→ElQ (k+4≤·) 32 (W.setCells (k+3) 3 [r32 A]) (r32 A) (bx b0)→DjF (k+4) (W.setCells (k+3) 3 [r32 A]) i E F (r32 D) (r32 A)→Row (W.setCells (k+3) 3 [r32 A]) (k+2) [.slice none 0 0,.slice none 0 0,.slice none 0 0,.slice none 0 0]∧Row ((W.setCells (k+3) 3 [r32 A]).setCells (k+2) 0 [E,F,r32 D,r32 A]) (k+2) [E,F,r32 D,r32 A]∧PhR w r i Lb Rb ((ptMd C f).pst (chF N) ivF u i q i).s (bx a0) (bx b0) (.agg #[E,F,r32 D,r32 A]) ((W.setCells (k+3) 3 [r32 A]).setCells (k+2) 0 [E,F,r32 D,r32 A])):=⟨fun W=>Ph w W r k i i 1 E F E F v (.slice (some ⟨ga,oa,none⟩) 1 ca) (.slice (some ⟨Z,ob,none⟩) 1 J) Lb Rb ((ptMd C f).pst (chF N) ivF u i q i).s (fun j=>(((ptMd C f).pst (chF N) ivF u i q i).a j).val) (fun j=>(((ptMd C f).pst (chF N) ivF u i q i).b j).val) G H U,fun W W' K e=>by rw[e];exact ⟨(P1.grow K).putA (o:=0) dC,(P1.grow K).r3⟩,fun W A h e1 e2 e3=>(h.putA (o:=1) dC).fin e1 e2 e3⟩
   have lB:∀ {W W':World} {A:Nat} {b:Bs},ElQ (W.heap.size≤·) 32 W' (r32 A) b→W.heap.size≤A∧A<W'.heap.size:=fun h=>by
    obtain ⟨k1,c1,e1,-,-,q1,l1,-⟩:=h
    obtain rfl:=Option.some.inj (congrArg Value.ownBlock e1)
    exact ⟨q1,l1⟩
   have kv:k+4≤W1.heap.size:=Nat.le_trans cf.out bA.size
   refine anyS.cal (i:=7) (d:=some 84) rfl (scBytesQ_c HF.2.1 f4.2 W1) ?_
   rintro v W' ⟨ku,db,A,rfl⟩
   have bw:=bA.trans (ku.mono bA.size)
   obtain ⟨ph,bv⟩:=p1 W' _ ku rfl
   obtain ⟨z,hz,e5⟩:=fb bv
   have l2:=lB db
   have e1:=(e9.keep (Kq.of_below ku)).keep (R W' 2 (r32 D))
   have e2:=(db.mono2 (Q':=(k+4≤·)) fun g _ M=>Nat.le_trans kv M).keep (R W' 2 (r32 D))
   have e3:=key (W'.setCells (k+3) 2 [r32 D]) (fun g h1 h2=>(RG.setCells_other (k+3) _ _ _ g h2).trans (bw.block g h1)) (by rw[RG.setCells_size];exact bw.size) A (Nat.lt_of_lt_of_le lA.2 l2.1) (by rw[RG.setCells_size];exact l2.2)
   have rr:=cn 2 (r32 D) _ (L _ bw)
   refine ⟨L _ bw,?_⟩
   simp only[Act.put,List.setIfInBounds_toArray,List.set_cons_succ,List.set_cons_zero]
   refine anyS.sto (i:=9) (d:=none) rfl 23 (.tmp 85) (.tmp 80) rfl (k+3) 2 (r32 D) rfl rfl e5 iB1 rr ?_
   simp only[Act.put,List.setIfInBounds_toArray,List.set_cons_succ,List.set_cons_zero]
   generalize W'.setCells (k+3) 2 [r32 D]=W at ph hz e1 e2 e3 rr ⊢
   have KF:=pF W A ph (e1.keep (R _ _ _)) (e2.keep (R _ _ _)) (e3.keep (Nat.le_refl _) (by rw[RG.setCells_size];exact Nat.le_refl _) (fun g M=>RG.setCells_other (k+3) _ _ _ g (T g M).2) (fun g M=>RG.setCells_other (k+3) _ _ _ g (S g M).2))
   have d4:Row (W.setCells (k+3) 3 [r32 A]) (k+3) [E,F,r32 D,r32 A]:=row_cell (x:=r32 A) (o:=3) hz (Nat.lt_of_sub_eq_succ rfl)
   have ed:W.there (k+3) 3 1:=fun j hj=>by
    have ka:j=0:=oM
    subst ka
    exact hz.2.2 3 (Nat.lt_of_sub_eq_succ rfl)
   refine anyS.nxt (i:=10) (d:=some 86) (x:=.pointer (some ⟨k+3,3,none⟩)) rfl rr ?_
   simp only[Act.put,List.setIfInBounds_toArray,List.set_cons_succ,List.set_cons_zero]
   refine anyS.sto (i:=11) (d:=none) rfl 23 (.tmp 86) (.tmp 84) rfl (k+3) 3 (r32 A) rfl rfl ed iB1 (cn _ _ _ rr) ?_
   simp only[Act.put,List.setIfInBounds_toArray,List.set_cons_succ,List.set_cons_zero]
   refine anyS.fin kR ?_ _
   intro WZ ez
   rw[← ez] at KF d4
   obtain ⟨Wd,ei⟩:=hE (WZ.setCells (k+2) 0 [E,F,r32 D,r32 A])
   rw[ei.out] at KF
   have ON:Hid ((#[E,F,r32 D,r32 A]:Array Value).all (·.oneCell')=true):=by show _=_;simp[KP.tL.one.2,KP.tR.one.2,e1.one.2,e2.one.2]
   have KF:=mk2 KF d4
   obtain ⟨dI,br,bq⟩:=Option.map_eq_some_iff.1 uInn
   have ff:=mk2 br bq
   obtain ⟨vO,en⟩:=hE (Value.agg #[E,F,r32 D,r32 A])
   clear L cn bd KP P1 ez rr ph ku db bw d4 e5 l2 bv e1 e2 e3 hz ed pF p1 key fb e9 R T S kk kv lA br bq Y kg na nb qa qb
   go_wp2_with (first|(refine wpList_load_mid rfl 64 (.tmp 9) rfl (k+3) 0 ?_ [E,F,r32 D,r32 A] dI ?_ ?_ ?_ ?_ ?_;rfl;exact KF.2.2.1;exact ff.1;exact ff.2;exact iInn;rw[show Value.agg [E,F,r32 D,r32 A].toArray=vO from en.out])|(refine wpList_store_mid rfl 64 (.tmp 8) _ rfl (k+2) 0 #[E,F,r32 D,r32 A] ?_ ?_ ?_ ?_ ?_ ?_;rfl;exact en.symm;exact KF.1.1.2.2;exact iInn;exact ON.out;rw[show (#[E,F,r32 D,r32 A]:Array Value).toList=[E,F,r32 D,r32 A] from rfl,ei.out])|fail)
   refine bodyPost_ret (results_cell 8 64 rfl KF.1.2.1 rfl uInn iInn) rfl ?_
   refine ⟨_,rfl,?_⟩
   have:=KF.1.2.2
   rw[← da.out,← d6.out] at this
   exact this
end
section
open Go.RowKit Go.Sort Go.Deep SPA
variable {P:Nat} [NeZero P] {N:Nat}
def hvA (n:Nat):Value:=if n=1 then .tuple #[.int .i64 0,.bool true] else if n=2 then .tuple #[.int .i64 1,.bool true] else if n=4 then .tuple #[.int .i64 2,.bool true] else if n=8 then .tuple #[.int .i64 3,.bool true] else if n=16 then .tuple #[.int .i64 4,.bool true] else if n=32 then .tuple #[.int .i64 5,.bool true] else if n=64 then .tuple #[.int .i64 6,.bool true] else .tuple #[.int .i64 0,.bool false]
theorem halv_c (n:Nat) (d:n=1∨n=2∨n=4∨n=8∨n=16∨n=32∨n=64∨n=128) (w:World):Calls Tryz.prog 73 #[.int .i64 n] w (Ret fun e w'=>Below w.heap.size w w'∧e=hvA n):=by
 obtain ⟨b,k⟩:∃ b,b=n:=⟨_,rfl⟩
 rcases d with rfl|rfl|rfl|rfl|rfl|rfl|rfl|rfl
 all_goals
  go_enter Tryz.func73,Tryz.ntmps73
  go_wp2
  go_loopg [5] 7 (fun m s5 W=>W=w∧((m=7∧s5=.int .i64 0)∨(m=6∧s5=.int .i64 1∧1<b)∨(m=5∧s5=.int .i64 2∧2<b)∨(m=4∧s5=.int .i64 3∧4<b)∨(m=3∧s5=.int .i64 4∧8<b)∨(m=2∧s5=.int .i64 5∧16<b)∨(m=1∧s5=.int .i64 6∧32<b)∨(m=0∧s5=.int .i64 7∧64<b)))
  case atStart=>exact ⟨rfl,Or.inl ⟨rfl,rfl⟩⟩
  case round =>
   obtain ⟨rfl,h⟩:=hrel
   rcases h with ⟨rfl,rfl⟩|⟨rfl,rfl,c⟩|⟨rfl,rfl,c⟩|⟨rfl,rfl,c⟩|⟨rfl,rfl,c⟩|⟨rfl,rfl,c⟩|⟨rfl,rfl,c⟩|⟨rfl,rfl,c⟩
   all_goals
    first
     | (exfalso;omega)
     | skip
   all_goals
    go_wp2
    first
     | (go_ret2;exact ⟨_,rfl,Below.refl _ _,rfl⟩)
     | (go_roundg 6;(case measure=>omega);(case rel=>exact ⟨rfl,by simp[k]⟩))
     | (go_roundg 5;(case measure=>omega);(case rel=>exact ⟨rfl,by simp[k]⟩))
     | (go_roundg 4;(case measure=>omega);(case rel=>exact ⟨rfl,by simp[k]⟩))
     | (go_roundg 3;(case measure=>omega);(case rel=>exact ⟨rfl,by simp[k]⟩))
     | (go_roundg 2;(case measure=>omega);(case rel=>exact ⟨rfl,by simp[k]⟩))
     | (go_roundg 1;(case measure=>omega);(case rel=>exact ⟨rfl,by simp[k]⟩))
     | (go_roundg 0;(case measure=>omega);(case rel=>exact ⟨rfl,by simp[k]⟩))
end
section
open Go.RowKit Go.Sort Go.Deep SPA
variable {P:Nat} [NeZero P] {N:Nat} [NeZero N]
noncomputable def gPt (C:Fld P) (lb:ByteArray) (i:Nat):OnP P:=⟨.some (hpt P lb (num4 i).toList),hpt_on C lb _⟩
noncomputable def lPt (C:Fld P) (lb:ByteArray) (x:List UInt8):OnP P:=⟨.some (hpt P lb x),hpt_on C lb x⟩
noncomputable def uPt (C:Fld P):OnP P:=lPt C ⟨#[105,110,110,101,114]⟩ []
omit [NeZero N] in
theorem tl_pt (C:Fld P) (k:1<N) (lb:ByteArray) (i:Nat):Tl N [(1,hpN P lb i)] (gPt C lb i):=Tl.one C k (gPt C lb i)
omit [NeZero N] in
theorem tl_lb (C:Fld P) (k:1<N) (lb:ByteArray) (x:List UInt8):Tl N [(1,wr (.some (hpt P lb x):EC.Pt P))] (lPt C lb x):=Tl.one C k (lPt C lb x)
omit [NeZero N] in
theorem gd_left (C:Fld P) (k:1<N) (n:Nat):Gd N n 1 (gGT P) (gPt C ⟨#[108,101,102,116]⟩):=⟨fun i _=>tl_pt C k _ i,fun _ _=>rfl⟩
omit [NeZero N] in
theorem gd_right (C:Fld P) (k:1<N) (n:Nat):Gd N n 1 (hGT P) (gPt C ⟨#[114,105,103,104,116]⟩):=⟨fun i _=>tl_pt C k _ i,fun _ _=>rfl⟩
omit [NeZero N] in
theorem tl_inner (C:Fld P) (k:1<N):Tl N (uGT P) (uPt C):=tl_lb C k _ _
omit [NeZero N] in
theorem allS_y (O:Ord N) (n cap:Nat) (o:n≤512) (q:Option Addr) (L:Nat→Bs) (a:Nat→Nat) (w:World) (l:Args w q n L) (f:∀ j,j<n→rq N (L j)=some (a j)):Calls Tryz.prog 161 #[(.func (.func 11) #[] #[]),.slice q n cap] w (Ret fun e w'=>Below w.heap.size w w'∧∃ k,e=.tuple #[.slice (some ⟨k,0,none⟩) n n,.bool true]∧SLq (w.heap.size≤·) w' (.slice (some ⟨k,0,none⟩) n n) n a):=by
 refine (allOf_c O n cap o q L w l).mono ?_
 rintro e w' ⟨v,rfl,h⟩
 rcases h with ⟨⟨j,m,c⟩,-⟩|⟨-,k,r,b,hR,rfl⟩
 ·rw[f j m] at c;cases c
 ·refine ⟨_,rfl,b.bel,k,rfl,k,0,n,rfl,Nat.le_refl _,b.le,b.lt,fun j g t u i=>?_⟩
  have p:=(List.getElem?_eq_some_iff.1 i).1
  have d:=hR.row j t g p
  rw[f j g] at d
  have:=b.range (4*j+t) u (by rw[d];exact i)
  rw[show 0+(4*j+t)=0+4*j+t by omega] at this
  exact this
theorem hv_pow (t:Nat) (k:t≤6):hvA (2^t)=.tuple #[.int .i64 t,.bool true]:=by
 match t,k with
 | 0,_=>rfl
 | 1,_=>rfl
 | 2,_=>rfl
 | 3,_=>rfl
 | 4,_=>rfl
 | 5,_=>rfl
 | 6,_=>rfl
 | n+7,h=>omega
theorem pow_of (t:Nat) (k:t≤6):2^t=1∨2^t=2∨2^t=4∨2^t=8∨2^t=16∨2^t=32∨2^t=64∨2^t=128:=by
 match t,k with
 | 0,_=>decide
 | 1,_=>decide
 | 2,_=>decide
 | 3,_=>decide
 | 4,_=>decide
 | 5,_=>decide
 | 6,_=>decide
 | n+7,h=>omega
theorem anyS.sta {P:Program} {c:Array Oper} {Q:Exit→Act→World→Prop} {S:Array Bool→World→Prop} {i e:Nat} {o:Oper} {k:Array Bool} {a:Act} {w:World} {d:Option Tmp} (ho:c[i]? = some o) (g:TypeId) (x y:Operand) (j:o.op=.store g x y) (b off:Nat) (us:Array Value) (p:us.all (·.oneCell')=true) (s:w.there b off us.size) (q:(P.info? g).map (·.size)=some us.size)
 (n:S (k.setIfInBounds i true) (w.setCells b off us.toList)) (h:anyS P c Q S e (k.setIfInBounds i true) (a.put d undef) (w.setCells b off us.toList)) (hx:a.eval x=.pointer (some ⟨b,off,none⟩):=by kernel_rfl) (r:a.eval y=.agg us:=by kernel_rfl)
 (f:Region.ready .any c k=[i]:=by kernel_rfl) (m:o.guard=none:=by rfl) (hd:o.dst=d:=by kernel_rfl):anyS P c Q S (e+1) k a w:=by
 subst hd
 exact anyS.step ho f fun K l=>by
  rw[if_pos (wanted_of m _)]
  have f:=run_storeVar_mid (P:=P) w b off g us s q p
  unfold Oper.wp execOp
  simp only[j,hx,r,Instr.storeAt,Instr.sureAddr,Sem.run_bind,Sem.run_pure,Result.andThen_ok,f]
  exact l.out _ _ n h
theorem results_tct {P:Program} {e:Func} {tmps:Array Value} {W:World} {k:Nat} {vs:List Value} {x y:Value} (s t u:Tmp) (T:TypeId) (l:e.results=#[.tmp s,.cell t T,.tmp u]) (h:Row W k vs) (n:tmps[s]? = some x) (o:tmps[t]? = some (.pointer (some ⟨k,0,none⟩))) (b:tmps[u]? = some y)
 (c:(P.underlying T).map (·.isRow)=some true) (m:(P.info? T).map (·.size)=some vs.length):(results e tmps).run P W=.ok (.tuple #[x,.agg vs.toArray,y]) W:=by
 obtain ⟨d,c,hd⟩:=Option.map_eq_some_iff.1 c
 have j:=run_loadVar_mid (P:=P) W k 0 T vs d h.2.1 c hd m
 have f:tmps.getD t undef=.pointer (some ⟨k,0,none⟩):=by rw[Array.getD_eq_getD_getElem?,o];rfl
 have i:tmps.getD s undef=x:=by rw[Array.getD_eq_getD_getElem?,n];rfl
 have g:tmps.getD u undef=y:=by rw[Array.getD_eq_getD_getElem?,b];rfl
 unfold results
 rw[l]
 simp only[Array.mapM_eq_mapM_toList,List.mapM_cons,List.mapM_nil,f,i,g,asAddr]
 simp[Sem.run_bind,j]
theorem ElQ.off {Q:Nat→Prop} {m k:Nat} {W:World} {x:Value} {b:Bs} {vs:List Value} (h:ElQ Q m W x b) (q:0<m) (o:Row W k (.slice none 0 0 :: vs)):ElQ (·≠k) m W x b:=by
 obtain ⟨g,c,n,i,l,p,j,e⟩:=h
 refine ⟨g,c,n,i,l,?_,j,e⟩
 rintro rfl
 have d:=(e 0 oM).1
 have f:=o.2.1 0 _ rfl
 rw[show (0+0:Nat)=0 from rfl] at d f
 rw[f] at d
 cases d
theorem only_new {w W:World} {r o m B:Nat} (h:SP.Only r o m w W) (c:B≤w.heap.size) (k:B≤r):Below B w W:=⟨h.os,h.tape,h.output,h.size,fun g b=>h.block g oM oM⟩
end
section
open Go Go.RowKit
structure Iv where
 p:World→Prop
 gr:∀ W W',Below W.heap.size W W'→p W→p W'
 b:Bool
abbrev Iv.bel (k:World):Iv:=⟨fun W=>Below k.heap.size k W,fun _ _ b h=>h.trans (b.mono h.size),true⟩
abbrev Iv.only {r:Nat} {k:World} (c:r<k.heap.size):Iv:=⟨fun W=>SP.Only r 0 32 k W,fun _ _ b h=>h.trans (SP.Only.of_below b rfl (Nat.lt_of_lt_of_le c h.size)),false⟩
section
variable {P:Program} {ops:Array Oper} {Q:Exit→Act→World→Prop} {p r:Nat} {J:Iv} {W:World}
def Sa (p r:Nat) (J:Iv) (l:Array Bool) (W:World):Prop:=(J.b=true∧l.getD p false=true∧l.getD r false=true)∨J.p W
theorem Sa.back {i:Nat} (h:p≠i) (b:r≠i) (l:Array Bool) (W:World) (k:Sa p r J (l.setIfInBounds i true) W):Sa p r J l W:=by
 rcases k with k|k
 ·rw[getD_set_ne false (Ne.symm h),getD_set_ne false (Ne.symm b)] at k;exact Or.inl k
 ·exact Or.inr k
def qw (k:Array Oper) (b:Bool) (p r i:Nat):Nat:=bif b then bif waits k p i then p else r else ((List.range k.size).find? fun j=>waits k j i).getD 0
theorem Sa.bel {i:Nat} (h:Bef (Sa p r J) (qw ops J.b p r i) W):J.p W:=by
 obtain ⟨l,k,⟨d,b⟩|b⟩:=h
 ·exfalso
  unfold qw at k
  rw[d] at k
  cases c:waits ops p i with
  | true=>rw[c] at k;exact Bool.noConfusion (k.symm.trans b.1)
  | false=>rw[c] at k;exact Bool.noConfusion (k.symm.trans b.2)
 ·exact b
theorem Sa.bef {q:Nat} (h:J.p W):Bef (Sa p r J) q W:=⟨#[],by simp,Or.inr h⟩
def AW (P:Program) (c:Array Oper) (Q:Exit→Act→World→Prop) (p r:Nat) (J:Iv) (b:Nat) (k:Array Bool) (a:Act) (w:World):Prop:=J.p w→anyS P c Q (Sa p r J) b k a w
theorem AW.beg {id:Nat} {a:Act} {w:World} (p r:Nat) (J:Iv) (k:J.p w.drew) (h:AW P ops Q p r J ops.size (Array.replicate ops.size false) a w.drew) (b:P.follows .mixedOrders=true:=by kernel_rfl):(Code.region id ops true).wp P Q a w:=anyS.begin (Sa p r J) b (h k)
theorem AW.begin {id:Nat} {a:Act} {w:World} (p r:Nat) (h:AW P ops Q p r (Iv.bel w) ops.size (Array.replicate ops.size false) a w.drew) (k:P.follows .mixedOrders=true:=by kernel_rfl):(Code.region id ops true).wp P Q a w:=AW.beg p r (Iv.bel w) (Below.refl _ w).drew h k
def aw1 (b:Array Oper) (p r q i:Nat) (k:Array Bool):Bool:=waits b q i && Region.noSelect b && !(k.getD q false || q == i) && Region.free .any b k i && (Region.ready .any b k).contains i && !(p == i) && !(r == i)
def fw (k:Array Oper) (i:Nat):Nat:=((List.range k.size).find? fun j=>waits k j i).getD 0
variable {i fuel:Nat} {o:Oper} {listed:Array Bool} {a a':Act} {w w':World} {d:Option Tmp} {x v:Value} {t:Tmp} {T:TypeId} {b off:Nat} {cs:List Value}
theorem AW.take (i q:Nat) (ho:ops[i]? = some o) (hd:o.dst=d) (t:YieldsIf P ops (Bef (Sa p r J) q) o x a) (u:a.put d x=a') (b:aw1 ops p r q i listed=true) (e:∀ c a w,Q (.panic c) (a.put o.dst x) w→Q (.panic c) a w) (h:AW P ops Q p r J fuel (listed.setIfInBounds i true) a' w):AW P ops Q p r J (fuel+1) listed a w:=fun k=>by
 subst u hd
 simp only[aw1,Bool.and_eq_true,Bool.not_eq_true'] at b
 obtain ⟨⟨⟨⟨⟨⟨s,f⟩,n⟩,j⟩,l⟩,g⟩,m⟩:=b
 exact anyS.take (p:=q) ho (Sa.back (by simpa using g) (by simpa using m)) t (Sa.bef k) (Or.inr k) (h k) s f n j l e
theorem AW.va (i:Nat) (x:Value) (h:AW P ops Q p r J fuel (listed.setIfInBounds i true) a' w) (ho:ops[i]? = some o:=by (simp only[List.getElem?_toArray,List.getElem?_cons_succ,List.getElem?_cons_zero])<;>rfl) (hd:o.dst=d:=by rfl) (e:o.guard=none:=by rfl) (hv:∀ w,(execOp a.eval o).run P w=.ok (.value x) w:=by intro _;kernel_rfl)
 (f:a.put d x=a':=by (simp only[Act.put,List.setIfInBounds_toArray,List.set_cons_succ,List.set_cons_zero])<;>rfl) (b:aw1 ops p r (fw ops i) i listed=true:=by kernel_rfl) (k:∀ c a w,Q (.panic c) (a.put o.dst x) w→Q (.panic c) a w:=by exact fun _ _ _ h=>h):AW P ops Q p r J (fuel+1) listed a w:=
 AW.take i (fw ops i) ho hd (Or.inl ⟨wanted_of e _,fun w _=>hv w⟩) f b k h
theorem AW.iv (i:Nat) {I:Sem Value} (e:∀ w,I.run P w=.ok x w) (h:AW P ops Q p r J fuel (listed.setIfInBounds i true) a' w) (ho:ops[i]? = some o:=by (simp only[List.getElem?_toArray,List.getElem?_cons_succ,List.getElem?_cons_zero])<;>rfl) (hd:o.dst=d:=by rfl) (g:o.guard=none:=by rfl) (k:execOp a.eval o=I >>= fun v=>pure (Next.value v):=by kernel_rfl)
 (j:a.put d x=a':=by (simp only[Act.put,List.setIfInBounds_toArray,List.set_cons_succ,List.set_cons_zero])<;>rfl) (f:aw1 ops p r (fw ops i) i listed=true:=by kernel_rfl) (b:∀ c a w,Q (.panic c) (a.put o.dst x) w→Q (.panic c) a w:=by exact fun _ _ _ h=>h):AW P ops Q p r J (fuel+1) listed a w:=
 AW.take i (fw ops i) ho hd (Or.inl ⟨wanted_of g _,fun w _=>by rw[k,Sem.run_bind,e w];rfl⟩) j f b h
theorem callv2 {b:Array TypeId} {s t k:Tmp} {f:FuncId} {y:Value} (hf:∀ args W,(callFunc f args).run P W=.ok (.enter f args) W) (ho:o.op=.call ⟨.value (.tmp s),#[.tmp t,.tmp k],b⟩) (c:a.eval (.tmp s)=.func (.func f) #[] #[]) (hx:a.eval (.tmp t)=x) (d:a.eval (.tmp k)=y):(execOp a.eval o).run P w=.ok (.enter f #[x,y]) w:=by
 unfold execOp
 rw[ho]
 have e:(#[Operand.tmp t,Operand.tmp k].map a.eval)=#[x,y]:=by simp[hx,d]
 simp only[resolve,c,Deferred.ofValue,Sem.run_bind,Sem.run_pure,Result.andThen_ok,invoke,e]
 exact hf _ w
theorem AW.mv (i:Nat) (h:AW P ops Q p r J fuel (listed.setIfInBounds i true) a' w) (ho:ops[i]? = some o:=by (simp only[List.getElem?_toArray,List.getElem?_cons_succ,List.getElem?_cons_zero])<;>rfl) (hd:o.dst=d:=by rfl) (f:o.guard=none:=by rfl) (k:o.op=.move (.tmp t):=by rfl) (hx:a.eval (.tmp t)=x:=by (conv=>lhs;whnf)<;>rfl)
 (g:a.put d x=a':=by (simp only[Act.put,List.setIfInBounds_toArray,List.set_cons_succ,List.set_cons_zero])<;>rfl) (e:aw1 ops p r (fw ops i) i listed=true:=by kernel_rfl) (b:∀ c a w,Q (.panic c) (a.put o.dst x) w→Q (.panic c) a w:=by exact fun _ _ _ h=>h):AW P ops Q p r J (fuel+1) listed a w:=
 AW.take i (fw ops i) ho hd (Or.inl ⟨wanted_of f _,fun w _=>by unfold execOp;rw[k];dsimp only;rw[hx];rfl⟩) g e b h
theorem AW.ce (i:Nat) (m:(P.underlying T).map (·.isRow)=some false) (j:∀ W,J.p W→W.cell? ⟨b,off,none⟩=some x) (h:AW P ops Q p r J fuel (listed.setIfInBounds i true) a' w) (ho:ops[i]? = some o:=by (simp only[List.getElem?_toArray,List.getElem?_cons_succ,List.getElem?_cons_zero])<;>rfl) (hd:o.dst=d:=by rfl) (l:o.guard=none:=by rfl) (e:o.op=.load T (.tmp t):=by rfl) (hx:a.eval (.tmp t)=.pointer (some ⟨b,off,none⟩):=by rfl)
 (n:a.put d x=a':=by (simp only[Act.put,List.setIfInBounds_toArray,List.set_cons_succ,List.set_cons_zero])<;>rfl) (g:aw1 ops p r (qw ops J.b p r i) i listed=true:=by kernel_rfl) (f:∀ c a w,Q (.panic c) (a.put o.dst x) w→Q (.panic c) a w:=by exact fun _ _ _ h=>h):AW P ops Q p r J (fuel+1) listed a w:=
 AW.take i (qw ops J.b p r i) ho hd (Or.inl ⟨wanted_of l _,fun w k=>by
  unfold execOp
  rw[e]
  dsimp only
  rw[hx,Sem.run_bind,RG.run_load1 (j w (Sa.bel k)) m]
  rfl⟩) n g f h
theorem AW.ro (i:Nat) (u:∀ W,J.p W→W.rangeAt b off cs) (hv:Hid (.agg cs.toArray=x)) (v:(P.underlying T).map (·.isRow)=some true) (n:(P.info? T).map (·.size)=some cs.length) (h:AW P ops Q p r J fuel (listed.setIfInBounds i true) a' w) (ho:ops[i]? = some o:=by (simp only[List.getElem?_toArray,List.getElem?_cons_succ,List.getElem?_cons_zero])<;>rfl) (hd:o.dst=d:=by rfl) (j:o.guard=none:=by rfl) (k:o.op=.load T (.tmp t):=by rfl) (hx:a.eval (.tmp t)=.pointer (some ⟨b,off,none⟩):=by rfl)
 (s:a.put d x=a':=by (simp only[Act.put,List.setIfInBounds_toArray,List.set_cons_succ,List.set_cons_zero])<;>rfl) (g:aw1 ops p r (qw ops J.b p r i) i listed=true:=by kernel_rfl) (e:∀ c a w,Q (.panic c) (a.put o.dst x) w→Q (.panic c) a w:=by exact fun _ _ _ h=>h):AW P ops Q p r J (fuel+1) listed a w:=by
 obtain rfl:=hv.out
 obtain ⟨m,l,f⟩:=Option.map_eq_some_iff.1 v
 exact AW.take i (qw ops J.b p r i) ho hd (yieldsIf_load_mid (wanted_of j _) T (.tmp t) k b off hx cs m (fun w q=>u w (Sa.bel q)) l f n) s g e h
theorem AW.ca (i:Nat) {f:FuncId} {args:Array Value} {R:Value→World→Prop} (g:J.p w→Calls P f args w (Ret R)) (hR:∀ e w',R e w'→Below w.heap.size w w') (h:∀ e w',R e w'→AW P ops Q p r J fuel (listed.setIfInBounds i true) (a.put d e) w') (ho:ops[i]? = some o:=by (simp only[List.getElem?_toArray,List.getElem?_cons_succ,List.getElem?_cons_zero])<;>rfl) (hd:o.dst=d:=by rfl) (j:o.guard=none:=by rfl) (hx:(execOp a.eval o).run P w=.ok (.enter f args) w:=by kernel_rfl) (b:Region.ready .any ops listed=[i]:=by kernel_rfl):AW P ops Q p r J (fuel+1) listed a w:=fun c =>
 anyS.cal ho (g c) (fun e w' b=>by
  have k:=J.gr w w' (hR e w' b) c
  exact ⟨Or.inr k,h e w' b k⟩) b j hx hd
theorem AW.cw (i:Nat) {f:FuncId} {args:Array Value} {R:Value→World→Prop} (c:J.p w→Calls P f args w (Ret R)) (hR:∀ e w',J.p w→R e w'→J.p w') (h:∀ e w',R e w'→AW P ops Q p r J fuel (listed.setIfInBounds i true) (a.put d e) w') (ho:ops[i]? = some o:=by (simp only[List.getElem?_toArray,List.getElem?_cons_succ,List.getElem?_cons_zero])<;>rfl) (hd:o.dst=d:=by rfl) (g:o.guard=none:=by rfl) (hx:(execOp a.eval o).run P w=.ok (.enter f args) w:=by kernel_rfl) (k:Region.ready .any ops listed=[i]:=by kernel_rfl):AW P ops Q p r J (fuel+1) listed a w:=fun b =>
 anyS.cal ho (c b) (fun e w' k=>⟨Or.inr (hR e w' b k),h e w' k (hR e w' b k)⟩) k g hx hd
theorem AW.gi (i:Nat) {f:FuncId} {args:Array Value} (b:J.p w→Calls P f args w (Ret fun e w'=>Below w.heap.size w w'∧e=x)) (h:∀ w',Below w.heap.size w w'→AW P ops Q p r J fuel (listed.setIfInBounds i true) a' w') (ho:ops[i]? = some o:=by (simp only[List.getElem?_toArray,List.getElem?_cons_succ,List.getElem?_cons_zero])<;>rfl) (hd:o.dst=d:=by rfl) (c:o.guard=none:=by rfl) (hx:(execOp a.eval o).run P w=.ok (.enter f args) w:=by kernel_rfl)
 (g:a.put d x=a':=by (simp only[Act.put,List.setIfInBounds_toArray,List.set_cons_succ,List.set_cons_zero])<;>rfl) (k:Region.ready .any ops listed=[i]:=by kernel_rfl):AW P ops Q p r J (fuel+1) listed a w:=AW.ca i b (fun e w' h=>h.1) (fun e w' hR=>by
 obtain ⟨j,rfl⟩:=hR
 subst g
 exact h w' j) ho hd c hx k
theorem AW.ns (i:Nat) {I:Sem Value} (hx:I.run P w=.ok x w') (b:Below w.heap.size w w') (h:AW P ops Q p r J fuel (listed.setIfInBounds i true) a' w') (ho:ops[i]? = some o:=by (simp only[List.getElem?_toArray,List.getElem?_cons_succ,List.getElem?_cons_zero])<;>rfl) (hd:o.dst=d:=by rfl) (g:o.guard=none:=by rfl) (c:execOp a.eval o=I >>= fun v=>pure (Next.value v):=by kernel_rfl)
 (j:a.put d x=a':=by (simp only[Act.put,List.setIfInBounds_toArray,List.set_cons_succ,List.set_cons_zero])<;>rfl) (f:Region.ready .any ops listed=[i]:=by kernel_rfl):AW P ops Q p r J (fuel+1) listed a w:=fun e=>by
 subst j
 have k:=J.gr w w' b e
 exact anyS.ins ho hx (Or.inr k) (h k) f g c hd
theorem AW.nx (i:Nat) (x:Value) (h:AW P ops Q p r J fuel (listed.setIfInBounds i true) a' w) (ho:ops[i]? = some o:=by (simp only[List.getElem?_toArray,List.getElem?_cons_succ,List.getElem?_cons_zero])<;>rfl) (hd:o.dst=d:=by rfl) (c:o.guard=none:=by rfl) (hv:(execOp a.eval o).run P w=.ok (.value x) w:=by kernel_rfl)
 (e:a.put d x=a':=by (simp only[Act.put,List.setIfInBounds_toArray,List.set_cons_succ,List.set_cons_zero])<;>rfl) (b:Region.ready .any ops listed=[i]:=by kernel_rfl):AW P ops Q p r J (fuel+1) listed a w:=fun k=>by
 subst e
 exact anyS.nxt ho (Or.inr k) (h k) hv b c hd
theorem AW.dn (h:J.p w→Q .normal a w) (b:Region.ready .any ops listed=[]:=by kernel_rfl):AW P ops Q p r J fuel listed a w:=fun k=>anyS.done b (h k) _
theorem AW.fi {us:List Value} {k off:Nat} (hv:Hid (.agg us.toArray=v)) (m:us.toArray.all (·.oneCell')=true) (i:(P.info? T).map (·.size)=some us.length) (h:J.p w→w.there k off us.length∧Q .normal a' (w.setCells k off us)) (ho:ops[p]? = some o:=by (simp only[List.getElem?_toArray,List.getElem?_cons_succ,List.getElem?_cons_zero])<;>rfl) (hd:o.dst=none:=by rfl) (e:o.guard=none:=by rfl) {y:Operand} (c:o.op=.store T (.tmp t) y:=by rfl) (hx:a.eval (.tmp t)=.pointer (some ⟨k,off,none⟩):=by rfl) (j:a.eval y=v:=by rfl)
 (l:a.put none undef=a':=by (simp only[Act.put])<;>rfl) (b:(Region.ready .any ops listed,Region.ready .any ops (listed.setIfInBounds p true),J.b,(listed.setIfInBounds p true).getD p false,(listed.setIfInBounds p true).getD r false)=([p],[],true,true,true):=by kernel_rfl):AW P ops Q p r J (fuel+1) listed a w:=fun g=>by
 simp only[Prod.mk.injEq] at b
 obtain ⟨f,d⟩:=h g
 subst l
 exact anyS.sta ho T (.tmp t) y c k off us.toArray m f i (Or.inl b.2.2) (anyS.done b.2.1 d _) hx (j.trans hv.out.symm) b.1 e hd
theorem AW.ss (i:Nat) {us:List Value} {k off:Nat} (hv:Hid (.agg us.toArray=v)) (s:us.toArray.all (·.oneCell')=true) (j:(P.info? T).map (·.size)=some us.length) (m:Hid (w.setCells k off us=w')) (h:J.p w→w.there k off us.length∧J.p w') (q:AW P ops Q p r J fuel (listed.setIfInBounds i true) a' w') (ho:ops[i]? = some o:=by (simp only[List.getElem?_toArray,List.getElem?_cons_succ,List.getElem?_cons_zero])<;>rfl) (hd:o.dst=none:=by rfl) (d:o.guard=none:=by rfl) {y:Operand} (b:o.op=.store T (.tmp t) y:=by rfl) (hx:a.eval (.tmp t)=.pointer (some ⟨k,off,none⟩):=by rfl) (l:a.eval y=v:=by rfl)
 (n:a.put none undef=a':=by (simp only[Act.put])<;>rfl) (g:Region.ready .any ops listed=[i]:=by kernel_rfl):AW P ops Q p r J (fuel+1) listed a w:=fun f=>by
 obtain ⟨e,c⟩:=h f
 obtain rfl:=m.out
 subst n
 exact anyS.sta ho T (.tmp t) y b k off us.toArray s e j (Or.inr c) (q c) hx (l.trans hv.out.symm) g d hd
theorem AW.f2 {us us':List Value} {k c:Nat} {B:Value} {g:TypeId} (hv:Hid (.agg us.toArray=v)) (f:Hid (.agg us'.toArray=B)) (V:us.toArray.all (·.oneCell')=true) (N:(P.info? T).map (·.size)=some us.length) (q:us'.toArray.all (·.oneCell')=true) (n:(P.info? g).map (·.size)=some us'.length) (h:J.p w→w.there k 0 us.length∧(w.setCells k 0 us).there c 0 us'.length∧Q .normal a' ((w.setCells k 0 us).setCells c 0 us')) (ho:ops[p]? = some o:=by (simp only[List.getElem?_toArray,List.getElem?_cons_succ,List.getElem?_cons_zero])<;>rfl) (hd:o.dst=none:=by rfl) (E:o.guard=none:=by rfl) {y:Operand} (x:o.op=.store T (.tmp t) y:=by rfl) (hx:a.eval (.tmp t)=.pointer (some ⟨k,0,none⟩):=by rfl) (O:a.eval y=v:=by rfl)
 (S:a.put none undef=a':=by (simp only[Act.put])<;>rfl) {d:Oper} {l:Operand} {e:Tmp} (j:ops[p+1]? = some d:=by (simp only[List.getElem?_toArray,List.getElem?_cons_succ,List.getElem?_cons_zero])<;>rfl) (m:d.dst=none:=by rfl) (s:d.guard=none:=by rfl) (b:d.op=.store g (.tmp e) l:=by rfl) (u:a'.eval (.tmp e)=.pointer (some ⟨c,0,none⟩):=by rfl) (i:a'.eval l=B:=by rfl) (z:a'.put none undef=a':=by rfl)
 (A:(Region.ready .any ops listed,Region.ready .any ops (listed.setIfInBounds p true),Region.ready .any ops ((listed.setIfInBounds p true).setIfInBounds (p+1) true),J.b,(listed.setIfInBounds p true).getD p false,(listed.setIfInBounds p true).getD r false,((listed.setIfInBounds p true).setIfInBounds (p+1) true).getD p false,((listed.setIfInBounds p true).setIfInBounds (p+1) true).getD r false)=([p],[p+1],[],true,true,true,true,true):=by kernel_rfl):AW P ops Q p r J (fuel+2) listed a w:=fun L=>by
 simp only[Prod.mk.injEq] at A
 obtain ⟨U,M,I,d,D,R,F,G⟩:=A
 obtain ⟨K,C,H⟩:=h L
 subst S
 exact anyS.sta ho T (.tmp t) y x k 0 us.toArray V K N (Or.inl ⟨d,D,R⟩) (anyS.sta j g (.tmp e) l b c 0 us'.toArray q C n (Or.inl ⟨d,F,G⟩) (anyS.done I (by rw[z];exact H) _) u (i.trans f.out.symm) M s m) hx (O.trans hv.out.symm) U E hd
end
end
section
open Go.RowKit Go.Sort Go.Deep
variable {P:Nat} [NeZero P] {N:Nat}
theorem uBy:(Tryz.prog.underlying 23).map (·.isRow)=some false:=kR
theorem bslG (q:Option Addr) (n c k:Nat) (w:World):(Instr.buildSlice 27 2 #[(0,.slice q n c),(1,.slice (some ⟨k,0,none⟩) 4 4)]).run Tryz.prog w=.ok (.slice (some ⟨w.heap.size,0,none⟩) 2 2) (w.alloc (.cells #[.slice q n c,.slice (some ⟨k,0,none⟩) 4 4] 23)):=kR
theorem parts2 {w:World} {u v:Value} {x y:List UInt8} (e:SP.PartOk w u x) (k:SP.PartOk w v y) (T:TypeId):SP.PartsOk (w.alloc (.cells #[u,v] T)) (some ⟨w.heap.size,0,none⟩) [x,y]:=by
 have b:=below1 w (.cells #[u,v] T)
 refine Or.inr ⟨_,_,rfl,fun j d=>?_⟩
 have c:=(row_new w [u,v] T).2.1 j
 match j,d with
 | 0,_=>exact ⟨u,c u rfl,e.below b⟩
 | 1,_=>exact ⟨v,c v rfl,k.below b⟩
theorem chn1_c (O:Ord N) (b:ByteArray) (z:b.size≤1000) (o:List UInt8) (q:Option Addr) (n c i l j:Nat) (H:i<4294967296) (w:World) (a:l<w.heap.size) (y:j<w.heap.size) (c1:w.cell? ⟨l,0,none⟩=some (.string b)) (c2:w.cell? ⟨j,0,none⟩=some (.slice q n c)) (E:SP.PartOk w (.slice q n c) o) :
 Calls Tryz.prog 181 #[.int .i64 i,.pointer (some ⟨l,0,none⟩),.pointer (some ⟨j,0,none⟩)] w (Ret fun e w'=>Below w.heap.size w w'∧e=nv (chL N b.data.toList [o,(num4 i).toList])):=by
 obtain ⟨k,t⟩:=hE (w.heap.size)
 obtain ⟨F,d⟩:=hE (w.alloc (.cells (RG.z 4).toArray 44))
 have g:=new_row t d
 have A:=fun (W:World) (B:Option Addr) (h:SP.PartsOk W B [o,(num4 i).toList])=>chance_c O b B 2 2 [o,(num4 i).toList] W oM rfl dC h
 generalize chL N b.data.toList [o,(num4 i).toList]=x at A ⊢
 have C:=mk1 A
 obtain ⟨K,m⟩:=hE (nv x)
 rw[m.out] at C
 go_enter Tryz.func181,Tryz.ntmps181
 go_wp2_with (first|(refine alR 4 t d ?_)|fail)
 refine AW.begin 6 6 ?_
 refine AW.ce 0 u9s (fun W f=>by rw[f.cell (p:=⟨l,0,none⟩) (Nat.lt_of_lt_of_le a g.1.size),g.1.cell (p:=⟨l,0,none⟩) a];exact c1) ?_
 refine AW.ce 1 uBy (fun W f=>by rw[f.cell (p:=⟨j,0,none⟩) (Nat.lt_of_lt_of_le y g.1.size),g.1.cell (p:=⟨j,0,none⟩) y];exact c2) ?_
 refine AW.mv 2 ?_
 refine AW.ca 3 (fun _=>numeralS_c i H _) (fun e w' h=>h.1) ?_
 rintro e I ⟨v,r,rfl,G,u⟩
 refine AW.ns 4 (bslG q n c r I) (below1 _ _) ?_
 refine AW.gi 5 (fun f=>C _ _ (parts2 (E.below (g.1.trans (((Below.refl _ F).drew.trans v).mono g.1.size))) (part_4 u) _)) ?_
 intro J D
 refine AW.fi (us:=wn x) m (wn_one x) i40 (fun f=>?_)
 obtain ⟨L,s⟩:=hE (J.setCells k 0 (wn x))
 have R:=res_sc t d f s
 rw[s.out]
 refine ⟨R.1,?_⟩
 go_wp2_with fail
 refine bodyPost_ret (results_cell 4 44 rfl R.2.2 rfl u40 i40) rfl ?_
 exact ⟨_,rfl,R.2.1,rfl⟩
theorem chn_c (O:Ord N) (k:ByteArray) (d:k.size≤1000) (l:List UInt8) (q:Option Addr) (n c m:Nat) (A:m≤64) (w:World) (u:SP.PartOk w (.slice q n c) l) :
 Calls Tryz.prog 127 #[.string k,.int .i64 m,.slice q n c] w (Ret fun e w'=>Below w.heap.size w w'∧SLq (w.heap.size≤·) w' e m (fun i=>chL N k.data.toList [l,(num4 i).toList])):=by
 obtain ⟨y,f⟩:=hE ((w.alloc (.cells #[.string k] 9)).alloc (.cells #[.slice q n c] 23))
 have b1:=below1 w (.cells #[.string k] 9)
 have t:=below1 (w.alloc (.cells #[.string k] 9)) (.cells #[.slice q n c] 23)
 have r:=(row_new w [.string k] 9).below t
 have o:=row_new (w.alloc (.cells #[.string k] 9)) [.slice q n c] 23
 have b:=b1.trans (t.mono b1.size)
 rw[World.size_alloc] at o
 simp only[f.out] at r o b
 have HL:=mk1 (listOfB_c m oM 181 #[.pointer (some ⟨w.heap.size,0,none⟩),.pointer (some ⟨w.heap.size+1,0,none⟩)] (fun _ _=>kR) (fun i=>chL N k.data.toList [l,(num4 i).toList]) y (fun i W B j=>chn1_c O k d l q n c i _ _ oM W (Nat.lt_of_lt_of_le r.1 j.size) (Nat.lt_of_lt_of_le o.1 j.size) ((r.below j).2.1 0 _ rfl) ((o.below j).2.1 0 _ rfl) ((u.below b).below j)))
 have s:=mk1 b
 go_enter Tryz.func127,Tryz.ntmps127
 go_wp2_with fail
 rw[f.out]
 refine HL.mono ?_
 rintro e a ⟨v,rfl,p,hG⟩
 have z:=mk2 (s.trans (p.mono s.size)) (hG.mono fun g x=>Nat.le_trans s.size x)
 go_wp2
 go_ret
 exact ⟨_,rfl,z.out⟩
end
section
open Go.RowKit Go.Sort Go.Deep
variable {N:Nat}
theorem uLi:(Tryz.prog.underlying 145).map (·.isRow)=some true:=kR
theorem iLi:(Tryz.prog.info? 145).map (·.size)=some 2:=kR
structure Ln (Q:Nat→Prop) (W:World) (v:Value) (n:Nat) (a b:Nat→Nat):Prop where
 ex:∃ x y,v=.agg #[x,y]∧SLq Q W x n a∧SLq Q W y n b
section
variable {Q Q':Nat→Prop} {W W':World} {v:Value} {n:Nat} {a b:Nat→Nat}
theorem Ln.keep (h:Ln Q W v n a b) (k:Kq Q W W'):Ln Q W' v n a b:=by
 obtain ⟨x,y,e,c,d⟩:=h.ex
 exact ⟨x,y,e,c.keep k,d.keep k⟩
theorem Ln.mono (h:Ln Q W v n a b) (k:∀ g,Q g→Q' g):Ln Q' W v n a b:=by
 obtain ⟨x,y,e,c,d⟩:=h.ex
 exact ⟨x,y,e,c.mono k,d.mono k⟩
end
theorem sl_one {Q:Nat→Prop} {W:World} {x:Value} {n:Nat} {a:Nat→Nat} (h:SLq Q W x n a):x.oneCell'=true∧∃ g o c,x=.slice (some ⟨g,o,none⟩) n c:=by
 obtain ⟨g,o,c,rfl,-⟩:=h
 exact ⟨rfl,_,_,_,rfl⟩
theorem lin_c (O:Ord N) (v:Nat) (hv:v<18446744073709551616) (m:Nat) (hm:m≤64) (A:List UInt8) (q:Option Addr) (n c:Nat) (w:World) (hp:SP.PartOk w (.slice q n c) A) :
 Calls Tryz.prog 75 #[.int .u64 v,.int .i64 m,.slice q n c] w (Ret fun e w'=>Below w.heap.size w w'∧∃ x y,e=.tuple #[x,y]∧Ln (w.heap.size≤·) w' x m (fun i=>v/2^i%2) (fun i=>chL N [115,108] [A,(num4 i).toList])∧Ln (w.heap.size≤·) w' y m (fun i=>sMi N (v/2^i%2) 1) (fun i=>chL N [115,114] [A,(num4 i).toList])):=by
 obtain ⟨vf,d⟩:=hE (Value.func (.func 124) #[] #[.pointer (some ⟨w.heap.size,0,none⟩)])
 obtain ⟨k,F⟩:=hE (w.heap.size)
 obtain ⟨wa,P⟩:=hE (w.alloc (.cells [.int .u64 v].toArray 24))
 obtain ⟨U,u⟩:=hE (wa.heap.size)
 obtain ⟨wb,J⟩:=hE (wa.alloc (.cells [.slice none 0 0,.slice none 0 0].toArray 145))
 obtain ⟨E,B⟩:=hE (wb.heap.size)
 obtain ⟨wc,T⟩:=hE (wb.alloc (.cells [.slice none 0 0,.slice none 0 0].toArray 145))
 obtain ⟨s,f⟩:=hE (wc.heap.size)
 obtain ⟨wd,z⟩:=hE (wc.alloc (.cells [.nilFunc].toArray 224))
 obtain ⟨t,S⟩:=hE (wd.setCells s 0 [vf])
 have Fa:=new_row F P
 have Y:=new_row u J
 have X:=new_row B T
 have Fe:=new_put f z S rfl
 rw[F.out] at d
 have bc:=Y.1.trans (X.1.mono Y.1.size)
 have be:=bc.trans (Fe.2.1.mono bc.size)
 have b:=mk6 (Fa.1.trans (be.mono Fa.1.size)) (Fa.2.below be) (Y.2.below (X.1.trans (Fe.2.1.mono X.1.size))) (X.2.below Fe.2.1) Fe.2.2 (show k<U∧U<E∧E<s from ⟨by rw[← u.out];exact Fa.2.1,by rw[← B.out];exact Y.2.1,by rw[← f.out];exact X.2.1⟩)
 have h1:=mk1 (new_row f z).2.2.2
 have h4:=b.2.2.2.2.1.2.1 0 _ rfl
 have H1:Hid (∀ W,Below t.heap.size t W→Calls Tryz.prog 126 #[.int .i64 m,vf] W (Ret fun e w'=>Below W.heap.size W w'∧SLq (W.heap.size≤·) w' e m (fun i=>v/2^i%2))):=fun W r=>by
  rw[← d.out]
  exact listOfB_c m oM 124 #[.pointer (some ⟨k,0,none⟩)] (fun _ _=>kR) _ W fun i V o j=>lin1_c v i k hv oM V (Nat.lt_of_lt_of_le b.2.1.1 (Nat.le_trans r.size j.size)) (((b.2.1.below r).below j).2.1 0 _ rfl)
 have H2:Hid (∀ W,Below t.heap.size t W→Calls Tryz.prog 126 #[.int .i64 m,.func (.func 125) #[] #[.pointer (some ⟨s,0,none⟩)]] W (Ret fun e w'=>Below W.heap.size W w'∧SLq (W.heap.size≤·) w' e m (fun i=>sMi N (v/2^i%2) 1))):=fun W r =>
  listOfB_c m oM 125 #[.pointer (some ⟨s,0,none⟩)] (fun _ _=>kR) _ W fun i V o j=>lin2_c O v i k s hv oM V (Nat.lt_of_lt_of_le b.2.1.1 (Nat.le_trans r.size j.size)) (Nat.lt_of_lt_of_le b.2.2.2.2.1.1 (Nat.le_trans r.size j.size)) (((b.2.1.below r).below j).2.1 0 _ rfl) (by rw[((b.2.2.2.2.1.below r).below j).2.1 0 _ rfl,d.out])
 have HC:Hid (∀ (l:ByteArray) W,l.size≤1000→Below t.heap.size t W→Calls Tryz.prog 127 #[.string l,.int .i64 m,.slice q n c] W (Ret fun e w'=>Below W.heap.size W w'∧SLq (W.heap.size≤·) w' e m (fun i=>chL N l.data.toList [A,(num4 i).toList]))):=fun l W hl r=>chn_c O l hl A q n c m hm W ((hp.below b.1).below r)
 go_enter Tryz.func75,Tryz.ntmps75
 go_wp2_with (first|(refine alR 3 F P ?_)|(refine alR 6 u J ?_)|(refine alR 7 B T ?_)|(refine alR 8 f z ?_)|(refine wpList_st1 rfl 224 _ _ rfl s 0 vf ?_ ?_ ?_ ?_ h1.out kR ?_;rfl;exact d.out;(rw[← d.out];rfl);(rw[← d.out];rfl);rw[S.out])|fail)
 refine (H1 t (Below.refl _ _)).mono ?_
 rintro e w1 ⟨x1,rfl,o,R⟩
 go_wp2_with fail
 refine (HC _ w1 dC o).mono ?_
 rintro e w2 ⟨x2,rfl,j,I⟩
 have b2:=o.trans (j.mono o.size)
 obtain ⟨-,g1,o1,c1,e1⟩:=sl_one R
 obtain ⟨-,V,o2,c2,e2⟩:=sl_one I
 subst e1 e2
 go_wp2_with fail
 refine (H2 w2 b2).mono ?_
 rintro e w3 ⟨x3,rfl,p,K⟩
 have b3:=b2.trans (p.mono b2.size)
 go_wp2_with fail
 refine (HC _ w3 dC b3).mono ?_
 rintro e Z ⟨x4,rfl,C,H⟩
 have b4:=b3.trans (C.mono b3.size)
 obtain ⟨-,g3,o3,c3,e3⟩:=sl_one K
 obtain ⟨-,g4,o4,c4,e4⟩:=sl_one H
 subst e3 e4
 obtain ⟨w5,L⟩:=hE (Z.setCells U 0 [.slice (some ⟨g1,o1,none⟩) m c1,.slice (some ⟨V,o2,none⟩) m c2])
 obtain ⟨D,G⟩:=hE (w5.setCells E 0 [.slice (some ⟨g3,o3,none⟩) m c3,.slice (some ⟨g4,o4,none⟩) m c4])
 obtain ⟨h2,h5,h6⟩:=b.2.2.2.2.2
 have h3:=b.2.2.2.2.1.1
 have s1:=o.size
 have s2:=j.size
 have s3:=p.size
 have R4:=mk2 (b.2.2.1.below b4) (b.2.2.2.1.below b4)
 have M:Hid (Below w.heap.size w D∧Row D U [.slice (some ⟨g1,o1,none⟩) m c1,.slice (some ⟨V,o2,none⟩) m c2]∧Row D E [.slice (some ⟨g3,o3,none⟩) m c3,.slice (some ⟨g4,o4,none⟩) m c4]∧w5.there E 0 2∧Kq (s < ·) Z D):=by
  rw[← G.out,← L.out]
  have Q:Row (Z.setCells U 0 [.slice (some ⟨g1,o1,none⟩) m c1,.slice (some ⟨V,o2,none⟩) m c2]) E _:=row_set R4.2 oM
  refine ⟨RG.below_setCells (by rw[F.out];omega) _ _ _ (RG.below_setCells (by rw[F.out];omega) _ _ _ (b.1.trans (b4.mono b.1.size))),row_set (R4.1.put rfl) oM,Q.put rfl,Q.2.2,?_⟩
  exact ⟨by rw[RG.setCells_size,RG.setCells_size];exact Nat.le_refl _,fun g hg _=>by rw[RG.setCells_other _ _ _ _ g oM,RG.setCells_other _ _ _ _ g oM]⟩
 have hq:∀ {W:World} {x:Value} {a:Nat→Nat},t.heap.size≤W.heap.size→SLq (W.heap.size≤·) Z x m a→SLq (w.heap.size≤·) D x m a:=fun hW h=>((h.mono (Q':=(s < ·)) fun g hg=>oM).keep M.2.2.2.2).mono fun g hg=>by rw[F.out];omega
 have Q:=p.trans (C.mono p.size)
 have h0:=j.trans (Q.mono j.size)
 have KR:Hid (Ln (w.heap.size≤·) D (.agg #[.slice (some ⟨g1,o1,none⟩) m c1,.slice (some ⟨V,o2,none⟩) m c2]) m (fun i=>v/2^i%2) (fun i=>chL N [115,108] [A,(num4 i).toList])∧Ln (w.heap.size≤·) D (.agg #[.slice (some ⟨g3,o3,none⟩) m c3,.slice (some ⟨g4,o4,none⟩) m c4]) m (fun i=>sMi N (v/2^i%2) 1) (fun i=>chL N [115,114] [A,(num4 i).toList])):=
  ⟨⟨_,_,rfl,hq (Nat.le_refl _) (R.keep (Kq.of_below h0)),hq s1 (I.keep (Kq.of_below Q))⟩,⟨_,_,rfl,hq oM (K.keep (Kq.of_below C)),hq oM H⟩⟩
 go_wp2_with (first|(refine stR 6 L (Hid.mk' rfl) R4.1.2.2 iLi kR ?_)|(refine stR 7 G (Hid.mk' rfl) M.2.2.2.1 iLi kR ?_)|fail)
 refine bodyPost_ret (results_cc 6 7 145 145 rfl M.2.1 M.2.2.1 rfl rfl uLi iLi uLi iLi) rfl ?_
 exact ⟨_,rfl,M.1,_,_,rfl,KR.out⟩
end
section
open Go.RowKit Go.Sort Go.Deep
variable {N:Nat}
theorem uF2:(Tryz.prog.underlying 236).map (·.isRow)=some false:=kR
theorem uSl:(Tryz.prog.underlying 143).map (·.isRow)=some false:=kR
theorem cel_of {w c W:World} {k:Nat} {x:Value} (b:Below w.heap.size w c) (d:k<w.heap.size) (f:w.cell? ⟨k,0,none⟩=some x) (e:Below c.heap.size c W):W.cell? ⟨k,0,none⟩=some x:=by
 rw[e.cell (p:=⟨k,0,none⟩) (Nat.lt_of_lt_of_le d b.size),b.cell (p:=⟨k,0,none⟩) d]
 exact f
theorem row_of {w c W:World} {k o:Nat} {cs:List Value} (b:Below w.heap.size w c) (d:k<w.heap.size) (f:w.rangeAt k o cs) (e:Below c.heap.size c W):W.rangeAt k o cs:=RG.range_below (RG.range_below f b d) e (Nat.lt_of_lt_of_le d b.size)
theorem par1_c (f:FuncId) (hf:∀ args W,(callFunc f args).run Tryz.prog W=.ok (.enter f args) W) (x y z:Nat) (A:Gives f #[nv x,nv y] (nv z)) (i a r p n u q c1 o v t c2:Nat) (I:i<q) (B:i<t) (w:World) (lf:a<w.heap.size) (N:r<w.heap.size) (J:p<w.heap.size) (C:n<w.heap.size) (F:o<w.heap.size) (G:w.cell? ⟨a,0,none⟩=some (.func (.func f) #[] #[])) (E:w.cell? ⟨r,0,none⟩=some (.slice (some ⟨n,u,none⟩) q c1)) (H:w.cell? ⟨p,0,none⟩=some (.slice (some ⟨o,v,none⟩) t c2)) (M:w.rangeAt n (u+4*i) (wn x)) (K:w.rangeAt o (v+4*i) (wn y)) :
 Calls Tryz.prog 189 #[.int .i64 i,.pointer (some ⟨a,0,none⟩),.pointer (some ⟨r,0,none⟩),.pointer (some ⟨p,0,none⟩)] w (Ret fun e w'=>Below w.heap.size w w'∧e=nv z):=by
 obtain ⟨k,s⟩:=hE (w.heap.size)
 obtain ⟨Q,c⟩:=hE (w.alloc (.cells (RG.z 4).toArray 44))
 have l:=new_row s c
 obtain ⟨P,d⟩:=hE (nv x)
 obtain ⟨U,j⟩:=hE (nv y)
 obtain ⟨S,g⟩:=hE (nv z)
 rw[d.out,j.out,g.out] at A
 have L:=mk1 A
 go_enter Tryz.func189,Tryz.ntmps189
 go_wp2_with (first|(refine alR 5 s c ?_)|fail)
 refine AW.begin 10 10 ?_
 refine AW.ce 0 uF2 (fun W b=>cel_of l.1 lf G b) ?_
 refine AW.ce 1 uSl (fun W b=>cel_of l.1 N E b) ?_
 refine AW.mv 2 ?_
 refine AW.iv 3 (at33 n u q c1 i I) ?_
 refine AW.ro 4 (fun W b=>row_of l.1 C M b) d rSc nSc ?_
 refine AW.ce 5 uSl (fun W b=>cel_of l.1 J H b) ?_
 refine AW.mv 6 ?_
 refine AW.iv 7 (at33 o v t c2 i B) ?_
 refine AW.ro 8 (fun W b=>row_of l.1 F K b) j rSc nSc ?_
 refine AW.gi 9 (fun _=>L _) ?_ (hx:=callv2 hf rfl rfl rfl rfl)
 intro O D
 refine AW.fi (us:=wn z) g (wn_one z) i40 (fun b=>?_)
 obtain ⟨T,m⟩:=hE (O.setCells k 0 (wn z))
 have R:=res_sc s c b m
 rw[m.out]
 refine ⟨R.1,?_⟩
 go_wp2_with fail
 refine bodyPost_ret (results_cell 5 44 rfl R.2.2 rfl u40 i40) rfl ?_
 exact ⟨_,rfl,R.2.1,rfl⟩
theorem box3 {w f g k:World} {m l n:Nat} {x y z:List Value} {T U V:TypeId} (j:Hid (w.heap.size=m)) (q:Hid (w.alloc (.cells x.toArray T)=f)) (e:Hid (f.heap.size=l)) (o:Hid (f.alloc (.cells y.toArray U)=g)) (i:Hid (g.heap.size=n)) (p:Hid (g.alloc (.cells z.toArray V)=k)):Hid (Below w.heap.size w k∧Row k m x∧Row k l y∧Row k n z):=by
 have a:=(new_row j q).out
 have b:=(new_row e o).out
 have c:=(new_row i p).out
 have d:=b.1.trans (c.1.mono b.1.size)
 exact ⟨a.1.trans (d.mono a.1.size),a.2.below d,b.2.below c.1,c.2⟩
theorem par_c {Q:Nat→Prop} (f:FuncId) (hf:∀ args W,(callFunc f args).run Tryz.prog W=.ok (.enter f args) W) (F:Nat→Nat→Nat) (n:Nat) (Y:n≤64) (a b:Nat→Nat) (N:∀ i,i<n→Gives f #[nv (a i),nv (b i)] (nv (F (a i) (b i)))) (va I:Value) (w:World) (O:SLq Q w va n a) (J:SLq Q w I n b) :
 Calls Tryz.prog 139 #[.func (.func f) #[] #[],va,I] w (Ret fun e w'=>Below w.heap.size w w'∧SLq (w.heap.size≤·) w' e n (fun i=>F (a i) (b i))):=by
 obtain ⟨z,G,c1,rfl,-,-,U,T⟩:=O
 obtain ⟨C,H,c2,rfl,-,-,R,S⟩:=J
 obtain ⟨vf,k⟩:=hE (Value.func (.func f) #[] #[])
 obtain ⟨r,p⟩:=hE (w.heap.size)
 obtain ⟨t,l⟩:=hE (w.alloc (.cells [vf].toArray 236))
 obtain ⟨A,j⟩:=hE (t.heap.size)
 obtain ⟨D,d⟩:=hE (t.alloc (.cells [.slice (some ⟨z,G,none⟩) n c1].toArray 143))
 obtain ⟨E,m⟩:=hE (D.heap.size)
 obtain ⟨K,o⟩:=hE (D.alloc (.cells [.slice (some ⟨C,H,none⟩) n c2].toArray 143))
 have B:=box3 p l j d m o
 have y:Hid ((Instr.box 236 vf).run Tryz.prog w=.ok (.pointer (some ⟨r,0,none⟩)) t):=by rw[← l.out,← p.out,← k.out];exact Hid.mk' kR
 have V:=B.2.2.1.2.1 0 _ rfl
 have HL:=mk1 (listOfB_c n oM 189 #[.pointer (some ⟨r,0,none⟩),.pointer (some ⟨A,0,none⟩),.pointer (some ⟨E,0,none⟩)] (fun _ _=>kR) (fun i=>F (a i) (b i)) K fun i W q c=>by
  have x:=B.1.trans (c.mono B.1.size)
  have s:=x.size
  exact par1_c f hf (a i) (b i) _ (N i q) i r A E z G n c1 C H n c2 q q W (B.2.1.below c).1 (B.2.2.1.below c).1 (B.2.2.2.below c).1 oM oM (by rw[(B.2.1.below c).2.1 0 _ rfl,k.out]) ((B.2.2.1.below c).2.1 0 _ rfl) ((B.2.2.2.below c).2.1 0 _ rfl) (RG.range_below (T i q) x U) (RG.range_below (S i q) x R))
 rw[k.out]
 go_enter Tryz.func139,Tryz.ntmps139
 go_wp2_with (first|(refine wpList_box (u:=vf) (v:=.pointer (some ⟨r,0,none⟩)) (w':=t) rfl _ (.tmp 0) rfl ?_ ?_ ?_;rfl;exact y.out)|(refine alR 4 j d ?_)|(refine alR 5 m o ?_)|fail)
 refine HL.mono ?_
 rintro e X ⟨v,rfl,x,M⟩
 have P:=mk2 (B.1.trans (x.mono B.1.size)) (M.mono fun g L=>Nat.le_trans B.1.size L)
 go_wp2
 go_ret
 exact ⟨_,rfl,P.out⟩
theorem SLq.set {W:World} {B k o n:Nat} {vs:List Value} {x:Value} {a:Nat→Nat} (h:SLq (B≤·) W x n a) (b:k<B):SLq (B≤·) (W.setCells k o vs) x n a:=h.keep (Kq.set fun g c=>oM)
section
variable {Q:Nat→Prop} {w:World} {n:Nat} {v u:Value} {a b c:Nat→Nat}
theorem lin_box (x y:Value) (hx:x.oneCell'=true) (m:y.oneCell'=true) (w:World):∃ k c i d,Hid (w.heap.size=k)∧Hid (w.alloc (.cells [x,y].toArray 145)=c)∧Hid (c.heap.size=i)∧Hid (c.alloc (.cells [.slice none 0 0,.slice none 0 0].toArray 145)=d)∧Hid (Below w.heap.size w d∧Row d k [x,y]∧Row d i [.slice none 0 0,.slice none 0 0]∧k<i):=by
 obtain ⟨k,l⟩:=hE (w.heap.size)
 obtain ⟨c,e⟩:=hE (w.alloc (.cells [x,y].toArray 145))
 obtain ⟨i,b⟩:=hE (c.heap.size)
 obtain ⟨d,j⟩:=hE (c.alloc (.cells [.slice none 0 0,.slice none 0 0].toArray 145))
 have f:=(new_row l e).out
 have g:=(new_row b j).out
 exact ⟨k,c,i,d,l,e,b,j,f.1.trans (g.1.mono f.1.size),f.2.below g.1,g.2,by rw[← b.out];exact f.2.1⟩
theorem lpl_c (O:Ord N) (T:n≤64) (S:∀ i,i<n→a i<N) (U:∀ i,i<n→c i<N) (h:Ln Q w v n a b) (V:SLq Q w u n c) :
 Calls Tryz.prog 81 #[v,u] w (Ret fun e w'=>Below w.heap.size w w'∧Ln (fun g=>Q g∨w.heap.size≤g) w' e n (fun i=>sPl N (a i) (c i)) b):=by
 obtain ⟨x,y,rfl,hx,H⟩:=h.ex
 obtain ⟨P,Z,o1,c1,rfl⟩:=sl_one hx
 obtain ⟨K,j,l,c2,rfl⟩:=sl_one H
 obtain ⟨k,w1,q,w2,C,s,z,r,F⟩:=lin_box _ _ P K w
 have Y:=mk1 (fun (W:World) (d:Below w.heap.size w W)=>par_c (Q:=fun _=>True) 25 (fun _ _=>kR) (sPl N) n T a c (fun i G=>sPlu_c O _ _ (S i G) (U i G)) _ _ W ((hx.keep (Kq.of_below d)).mono fun _ _=>trivial) ((V.keep (Kq.of_below d)).mono fun _ _=>trivial))
 go_enter Tryz.func81,Tryz.ntmps81
 go_wp2_with (first|(refine alR 2 C s ?_)|(refine alR 4 z r ?_)|fail)
 refine AW.begin 7 7 ?_
 refine AW.va 0 (.pointer (some ⟨k,0,none⟩)) ?_
 refine AW.ce 1 uSl (fun W d=>(F.2.1.below d).2.1 0 _ rfl) ?_
 refine AW.mv 2 ?_
 refine AW.va 4 (.pointer (some ⟨k,1,none⟩)) ?_
 refine AW.ce 5 uSl (fun W d=>(F.2.1.below d).2.1 1 _ rfl) ?_
 refine AW.ca 3 (fun d=>Y _ (F.1.trans (d.mono F.1.size))) (fun e w' h=>h.1) ?_
 rintro e J ⟨L,E⟩
 obtain ⟨h5,o,m,f,rfl⟩:=sl_one E
 refine AW.va 6 (.agg #[.slice (some ⟨o,m,none⟩) n f,.slice (some ⟨j,l,none⟩) n c2]) ?_
 refine AW.fi (us:=[.slice (some ⟨o,m,none⟩) n f,.slice (some ⟨j,l,none⟩) n c2]) (Hid.mk' rfl) kR iLi (fun d=>?_)
 have D:=F.2.2.1.below d
 refine ⟨D.2.2,?_⟩
 obtain ⟨B,p⟩:=hE (J.setCells q 0 [.slice (some ⟨o,m,none⟩) n f,.slice (some ⟨j,l,none⟩) n c2])
 have R:Hid (Below w.heap.size w B∧Row B q [.slice (some ⟨o,m,none⟩) n f,.slice (some ⟨j,l,none⟩) n c2]∧Ln (fun g=>Q g∨w.heap.size≤g) B (.agg #[.slice (some ⟨o,m,none⟩) n f,.slice (some ⟨j,l,none⟩) n c2]) n (fun i=>sPl N (a i) (c i)) b):=by
  have X:=F.1.trans (d.mono F.1.size)
  have t:w.heap.size≤q:=by rw[C.out];exact Nat.le_of_lt F.2.2.2
  have I:=RG.below_setCells t [.slice (some ⟨o,m,none⟩) n f,.slice (some ⟨j,l,none⟩) n c2] 0 J X
  rw[← p.out]
  exact ⟨I,D.put rfl,_,_,rfl,(E.set F.2.2.1.1).mono fun g M=>Or.inr (Nat.le_trans F.1.size M),(H.keep (Kq.of_below I)).mono fun _ h=>Or.inl h⟩
 rw[p.out]
 go_wp2_with fail
 refine bodyPost_ret (results_cell 4 145 rfl R.2.1 rfl uLi iLi) rfl ?_
 exact ⟨_,rfl,R.1,R.2.2⟩
theorem lti_c (O:Ord N) (X:n≤64) (G:∀ i,i<n→a i<N) (d:∀ i,i<n→b i<N) (Y:∀ i,i<n→c i<N) (h:Ln Q w v n a b) (Z:SLq Q w u n c) :
 Calls Tryz.prog 82 #[v,u] w (Ret fun e w'=>Below w.heap.size w w'∧Ln (w.heap.size≤·) w' e n (fun i=>sTi N (a i) (c i)) (fun i=>sTi N (b i) (c i))):=by
 obtain ⟨x,y,rfl,hx,P⟩:=h.ex
 obtain ⟨U,g1,o1,c1,rfl⟩:=sl_one hx
 obtain ⟨T,g2,o2,c2,rfl⟩:=sl_one P
 obtain ⟨k,w1,z,w2,J,C,H,A,F⟩:=lin_box _ _ U T w
 have S:=mk1 (fun (x:Value) (a:Nat→Nat) (G:∀ i,i<n→a i<N) (hx:SLq Q w x n a) (W:World) (d:Below w.heap.size w W)=>par_c (Q:=fun _=>True) 26 (fun _ _=>kR) (sTi N) n X a c (fun i M=>sTim_c O _ _ (G i M) (Y i M)) _ _ W ((hx.keep (Kq.of_below d)).mono fun _ _=>trivial) ((Z.keep (Kq.of_below d)).mono fun _ _=>trivial))
 go_enter Tryz.func82,Tryz.ntmps82
 go_wp2_with (first|(refine alR 2 J C ?_)|(refine alR 4 H A ?_)|fail)
 refine AW.begin 9 9 ?_
 refine AW.va 0 (.pointer (some ⟨k,0,none⟩)) ?_
 refine AW.ce 1 uSl (fun W d=>(F.2.1.below d).2.1 0 _ rfl) ?_
 refine AW.mv 2 ?_
 refine AW.va 4 (.pointer (some ⟨k,1,none⟩)) ?_
 refine AW.ce 5 uSl (fun W d=>(F.2.1.below d).2.1 1 _ rfl) ?_
 refine AW.mv 6 ?_
 refine AW.ca 3 (fun d=>S _ a G hx _ (F.1.trans (d.mono F.1.size))) (fun e w' h=>h.1) ?_
 rintro e W3 ⟨l,L⟩
 obtain ⟨h5,s,p,m,rfl⟩:=sl_one L
 refine AW.ca 7 (fun D=>S _ b d P _ (F.1.trans (D.mono F.1.size))) (fun e w' h=>h.1) ?_
 rintro e V ⟨t,j⟩
 obtain ⟨h6,q,f,r,rfl⟩:=sl_one j
 refine AW.va 8 (.agg #[.slice (some ⟨s,p,none⟩) n m,.slice (some ⟨q,f,none⟩) n r]) ?_
 refine AW.fi (us:=[.slice (some ⟨s,p,none⟩) n m,.slice (some ⟨q,f,none⟩) n r]) (Hid.mk' rfl) kR iLi (fun d=>?_)
 have K:=F.2.2.1.below d
 refine ⟨K.2.2,?_⟩
 obtain ⟨I,o⟩:=hE (V.setCells z 0 [.slice (some ⟨s,p,none⟩) n m,.slice (some ⟨q,f,none⟩) n r])
 have R:Hid (Below w.heap.size w I∧Row I z [.slice (some ⟨s,p,none⟩) n m,.slice (some ⟨q,f,none⟩) n r]∧Ln (w.heap.size≤·) I (.agg #[.slice (some ⟨s,p,none⟩) n m,.slice (some ⟨q,f,none⟩) n r]) n (fun i=>sTi N (a i) (c i)) (fun i=>sTi N (b i) (c i))):=by
  have b3:=F.1.trans (d.mono F.1.size)
  have E:w.heap.size≤z:=by rw[J.out];exact Nat.le_of_lt F.2.2.2
  rw[← o.out]
  exact ⟨RG.below_setCells E _ _ _ b3,K.put rfl,_,_,rfl,((L.keep (Kq.of_below t)).set F.2.2.1.1).mono fun g B=>Nat.le_trans F.1.size B,(j.set (Nat.lt_of_lt_of_le F.2.2.1.1 l.size)).mono fun g B=>Nat.le_trans F.1.size (Nat.le_trans l.size B)⟩
 rw[o.out]
 go_wp2_with fail
 refine bodyPost_ret (results_cell 4 145 rfl R.2.1 rfl uLi iLi) rfl ?_
 exact ⟨_,rfl,R.1,R.2.2⟩
end
end
section
open Go.RowKit Go.Sort Go.Deep
variable {P:Nat} [NeZero P] {N:Nat}
theorem lat1_c (O:Ord N) (x y z:Nat) (hx:x<N) (P:y<N) (K:z<N) (i p E o A u c1 q B a c2:Nat) (J:i<u) (G:i<a) (w:World) (H:o<w.heap.size) (I:q<w.heap.size) (F:Row w p [.slice (some ⟨o,A,none⟩) u c1,.slice (some ⟨q,B,none⟩) a c2]) (M:Row w E (wn z)) (Q:w.rangeAt o (A+4*i) (wn x)) (L:w.rangeAt q (B+4*i) (wn y)) :
 Calls Tryz.prog 141 #[.int .i64 i,.pointer (some ⟨p,0,none⟩),.pointer (some ⟨E,0,none⟩)] w (Ret fun e w'=>Below w.heap.size w w'∧e=nv (sPl N x (sTi N y z))):=by
 obtain ⟨k,v⟩:=hE (w.heap.size)
 obtain ⟨V,c⟩:=hE (w.alloc (.cells (RG.z 4).toArray 44))
 have m:=new_row v c
 have D:=sTim_c O y z P K
 have C:sTi N y z<N:=Nat.mod_lt _ O.pos
 have t:=sPlu_c O x (sTi N y z) hx C
 generalize sTi N y z=s at D t ⊢
 generalize sPl N x s=r at t ⊢
 obtain ⟨T,d⟩:=hE (nv x)
 obtain ⟨vy,j⟩:=hE (nv y)
 obtain ⟨Y,g⟩:=hE (nv z)
 obtain ⟨vs,f⟩:=hE (nv s)
 obtain ⟨U,l⟩:=hE (nv r)
 rw[j.out,g.out,f.out] at D
 rw[d.out,f.out,l.out] at t
 go_enter Tryz.func141,Tryz.ntmps141
 go_wp2_with (first|(refine alR 4 v c ?_)|fail)
 refine AW.begin 13 13 ?_
 refine AW.va 0 (.pointer (some ⟨p,0,none⟩)) ?_
 refine AW.ce 1 uSl (fun W b=>((F.below m.1).below b).2.1 0 _ rfl) ?_
 refine AW.mv 2 ?_
 refine AW.iv 3 (at33 o A u c1 i J) ?_
 refine AW.ro 4 (fun W b=>row_of m.1 H Q b) d rSc nSc ?_
 refine AW.va 5 (.pointer (some ⟨p,1,none⟩)) ?_
 refine AW.ce 6 uSl (fun W b=>((F.below m.1).below b).2.1 1 _ rfl) ?_
 refine AW.mv 7 ?_
 refine AW.iv 8 (at33 q B a c2 i G) ?_
 refine AW.ro 9 (fun W b=>row_of m.1 I L b) j rSc nSc ?_
 refine AW.ro 10 (fun W b=>((M.below m.1).below b).2.1) g rSc nSc ?_
 refine AW.gi 11 (fun _=>D _) fun X _=>?_
 refine AW.gi 12 (fun _=>t _) fun S _=>?_
 refine AW.fi (us:=wn r) l (wn_one r) i40 (fun b=>?_)
 obtain ⟨Z,n⟩:=hE (S.setCells k 0 (wn r))
 have R:=res_sc v c b n
 rw[n.out]
 refine ⟨R.1,?_⟩
 go_wp2_with fail
 refine bodyPost_ret (results_cell 4 44 rfl R.2.2 rfl u40 i40) rfl ?_
 exact ⟨_,rfl,R.2.1,rfl⟩
theorem lat_c (O:Ord N) {Q:Nat→Prop} {n:Nat} (V:n≤64) {a b:Nat→Nat} (P:∀ i,i<n→a i<N) (I:∀ i,i<n→b i<N) {z:Nat} (J:z<N) {v:Value} {w:World} (h:Ln Q w v n a b) :
 Calls Tryz.prog 86 #[v,nv z] w (Ret fun e w'=>Below w.heap.size w w'∧SLq (w.heap.size≤·) w' e n (fun i=>sPl N (a i) (sTi N (b i) z))):=by
 obtain ⟨x,y,rfl,hx,M⟩:=h.ex
 obtain ⟨p,B,c1,rfl,-,-,T,S⟩:=hx
 obtain ⟨t,C,c2,rfl,-,-,K,L⟩:=M
 obtain ⟨k,q⟩:=hE (w.heap.size)
 obtain ⟨r,j⟩:=hE (w.alloc (.cells [.slice (some ⟨p,B,none⟩) n c1,.slice (some ⟨t,C,none⟩) n c2].toArray 145))
 obtain ⟨u,l⟩:=hE (r.heap.size)
 obtain ⟨E,d⟩:=hE (r.alloc (.cells (wn z).toArray 44))
 have f:=new_row q j
 have g:=new_row l d
 have F:=mk3 (f.1.trans (g.1.mono f.1.size)) (f.2.below g.1) g.2
 have HL:=mk1 (listOfB_c n oM 141 #[.pointer (some ⟨k,0,none⟩),.pointer (some ⟨u,0,none⟩)] (fun _ _=>kR) (fun i=>sPl N (a i) (sTi N (b i) z)) E fun i W c o=>by
  have m:=F.1.trans (o.mono F.1.size)
  have s:=m.size
  exact lat1_c O (a i) (b i) z (P i c) (I i c) J i k u p B n c1 t C n c2 c c W oM oM (F.2.1.below o) (F.2.2.below o) (RG.range_below (S i c) m T) (RG.range_below (L i c) m K))
 have R:=F.2.1.2.1 0 _ rfl
 go_enter Tryz.func86,Tryz.ntmps86
 go_wp2_with (first|(refine alR 2 q j ?_)|(refine alR 3 l d ?_)|fail)
 refine HL.mono ?_
 rintro e U ⟨v,rfl,m,G⟩
 have H:=mk2 (F.1.trans (m.mono F.1.size)) (G.mono fun g D=>Nat.le_trans F.1.size D)
 go_wp2
 go_ret
 exact ⟨_,rfl,H.out⟩
theorem lpr_c (O:Ord N) {Q:Nat→Prop} {n:Nat} (hn:n≤64) {a b c d:Nat→Nat} (B:∀ i,i<n→a i<N∧b i<N∧c i<N∧d i<N) {v u:Value} {w:World} (h:Ln Q w v n a b) (h':Ln Q w u n c d) :
 Calls Tryz.prog 84 #[v,u] w (Ret fun e w'=>Below w.heap.size w w'∧e=.tuple #[nv (sPl N (prS N a d n) (prS N b c n)),nv (prS N b d n)]):=by
 obtain ⟨x,y,rfl,hx,X⟩:=h.ex
 obtain ⟨-,g1,o1,c1,rfl⟩:=sl_one hx
 obtain ⟨-,g2,o2,c2,rfl⟩:=sl_one X
 obtain ⟨x',y',rfl,C,m⟩:=h'.ex
 obtain ⟨-,g3,o3,c3,rfl⟩:=sl_one C
 obtain ⟨-,g4,o4,c4,rfl⟩:=sl_one m
 obtain ⟨k,hk⟩:=hE (w.heap.size)
 obtain ⟨w1,s⟩:=hE (w.alloc (.cells [.slice (some ⟨g1,o1,none⟩) n c1,.slice (some ⟨g2,o2,none⟩) n c2].toArray 145))
 obtain ⟨Z,z⟩:=hE (w1.heap.size)
 obtain ⟨w2,t⟩:=hE (w1.alloc (.cells [.slice (some ⟨g3,o3,none⟩) n c3,.slice (some ⟨g4,o4,none⟩) n c4].toArray 145))
 obtain ⟨A,o⟩:=hE (w2.heap.size)
 obtain ⟨w3,I⟩:=hE (w2.alloc (.cells (RG.z 4).toArray 44))
 obtain ⟨D,r⟩:=hE (w3.heap.size)
 obtain ⟨w4,G⟩:=hE (w3.alloc (.cells (RG.z 4).toArray 44))
 have f:=box3 hk s z t o I
 have g:=new_row r G
 have F:=mk5 (f.1.trans (g.1.mono f.1.size)) (f.2.1.below g.1) (f.2.2.1.below g.1) (f.2.2.2.below g.1) g.2
 have h0:w.heap.size≤A∧A<D:=⟨by rw[← o.out];exact Nat.le_trans (new_row hk s).1.size (new_row z t).1.size,by rw[← r.out];exact f.2.2.2.1⟩
 have Y:Hid (∀ {p q:Nat→Nat} {x y:Value},(∀ i,i<n→p i<N∧q i<N)→SLq Q w x n p→SLq Q w y n q→∀ W,Below w4.heap.size w4 W→Calls Tryz.prog 87 #[x,y] W (Ret fun e w'=>Below W.heap.size W w'∧e=nv (prS N p q n))):=fun {p q x y} hp h1 h2 W j=>by
  have b:=F.1.trans (j.mono F.1.size)
  exact cmbS_c O (Q:=Q) n oM p q (fun i l=>(hp i l).1) (fun i l=>(hp i l).2) x y W (h1.keep (Kq.of_below b)) (h2.keep (Kq.of_below b))
 have C1:=Y (fun i l=>⟨(B i l).1,(B i l).2.2.2⟩) hx m
 have U:=Y (fun i l=>⟨(B i l).2.1,(B i l).2.2.1⟩) X C
 have V:=Y (fun i l=>⟨(B i l).2.1,(B i l).2.2.2⟩) X m
 have K:=sPlu_c O _ _ (prS_lt O.pos a d n) (prS_lt O.pos b c n)
 generalize prS N a d n=p1 at C1 K ⊢
 generalize prS N b c n=p2 at U K ⊢
 generalize prS N b d n=T at V ⊢
 generalize sPl N p1 p2=E at K ⊢
 obtain ⟨v1,L⟩:=hE (nv p1)
 obtain ⟨v2,M⟩:=hE (nv p2)
 obtain ⟨v3,P⟩:=hE (nv T)
 obtain ⟨v4,J⟩:=hE (nv E)
 rw[L.out] at C1
 rw[M.out] at U
 rw[P.out] at V
 rw[L.out,M.out,J.out] at K
 go_enter Tryz.func84,Tryz.ntmps84
 go_wp2_with (first|(refine alR 2 hk s ?_)|(refine alR 3 z t ?_)|(refine alR 4 o I ?_)|(refine alR 5 r G ?_)|fail)
 refine AW.begin 16 15 ?_
 refine AW.va 0 (.pointer (some ⟨k,0,none⟩)) ?_
 refine AW.ce 1 uSl (fun W j=>(F.2.1.below j).2.1 0 _ rfl) ?_
 refine AW.va 2 (.pointer (some ⟨Z,1,none⟩)) ?_
 refine AW.ce 3 uSl (fun W j=>(F.2.2.1.below j).2.1 1 _ rfl) ?_
 refine AW.va 5 (.pointer (some ⟨k,1,none⟩)) ?_
 refine AW.ce 6 uSl (fun W j=>(F.2.1.below j).2.1 1 _ rfl) ?_
 refine AW.va 7 (.pointer (some ⟨Z,0,none⟩)) ?_
 refine AW.ce 8 uSl (fun W j=>(F.2.2.1.below j).2.1 0 _ rfl) ?_
 refine AW.va 11 (.pointer (some ⟨k,1,none⟩)) ?_
 refine AW.ce 12 uSl (fun W j=>(F.2.1.below j).2.1 1 _ rfl) ?_
 refine AW.va 13 (.pointer (some ⟨Z,1,none⟩)) ?_
 refine AW.ce 14 uSl (fun W j=>(F.2.2.1.below j).2.1 1 _ rfl) ?_
 refine AW.gi 4 (fun j=>C1 _ j) fun W1 _=>?_
 refine AW.gi 9 (fun j=>U _ j) fun W2 _=>?_
 refine AW.gi 10 (fun _=>K _) fun W3 _=>?_
 refine AW.gi 15 (fun j=>V _ j) fun W4 _=>?_
 refine AW.f2 (us:=wn E) (us':=wn T) J P (wn_one _) i40 (wn_one _) i40 (fun j=>?_)
 obtain ⟨W5,S⟩:=hE (W4.setCells A 0 (wn E))
 obtain ⟨W6,H⟩:=hE (W5.setCells D 0 (wn T))
 have R:Hid (W4.there A 0 4∧W5.there D 0 4∧Row W6 A (wn E)∧Row W6 D (wn T)∧Below w.heap.size w W6):=by
  have r4:=F.2.2.2.1.below j
  have r5:Row (W4.setCells A 0 (wn E)) D _:=row_set (F.2.2.2.2.below j) oM
  rw[← H.out,← S.out]
  exact ⟨r4.2.2,r5.2.2,row_set (r4.put rfl) oM,r5.put rfl,RG.below_setCells oM _ _ _ (RG.below_setCells oM _ _ _ (F.1.trans (j.mono F.1.size)))⟩
 rw[S.out,H.out]
 refine ⟨R.1,R.2.1,?_⟩
 go_wp2_with fail
 refine bodyPost_ret (results_cc 4 5 44 44 rfl R.2.2.1 R.2.2.2.1 rfl rfl u40 i40 u40 i40) rfl ?_
 exact ⟨_,rfl,R.2.2.2.2,rfl⟩
theorem pow1_c (O:Ord N) (p x:Nat) (P:p<N) (hx:x<N) (i:Int) (c m:Nat) (F:m≠c) (w:World) (D:Row w c (wn p)) (M:Row w m (wn x)) :
 Calls Tryz.prog 140 #[.int .i64 i,.pointer (some ⟨c,0,none⟩),.pointer (some ⟨m,0,none⟩)] w (Ret fun e w'=>Kz (·≠c) w w'∧(Row w' c (wn (sTi N p x))∧Row w' m (wn x))∧e=nv p):=by
 have I:=sTim_c O p x P hx
 generalize sTi N p x=q at I ⊢
 obtain ⟨Z,k⟩:=hE (nv p)
 obtain ⟨R,u⟩:=hE (nv x)
 obtain ⟨V,a⟩:=hE (nv q)
 rw[k.out,u.out,a.out] at I
 obtain ⟨s,g⟩:=hE (w.heap.size)
 obtain ⟨K,v⟩:=hE (w.alloc (.cells (RG.z 4).toArray 44))
 obtain ⟨A,j⟩:=hE (K.heap.size)
 obtain ⟨L,t⟩:=hE (K.alloc (.cells (RG.z 4).toArray 44))
 obtain ⟨l,y⟩:=hE (L.setCells A 0 (wn p))
 have z:=new_row g v
 have C:=new_row j t
 have B:=z.1.trans (C.1.mono z.1.size)
 have Y:=D.1
 have U:=M.1
 have S:=z.2.1
 have W:=g.out
 have T:=j.out
 have d:Hid (Below w.heap.size w l∧Row l c (wn p)∧Row l m (wn x)∧Row l s (RG.z 4)∧Row l A (wn p)∧L.there A 0 4):=by
  rw[← y.out]
  exact ⟨RG.below_setCells oM _ _ _ B,row_set (D.below B) oM,row_set (M.below B) oM,row_set (z.2.below C.1) oM,C.2.put rfl,C.2.2.2⟩
 have Q:=mk1 (D.below B)
 go_enter Tryz.func140,Tryz.ntmps140
 go_wp2_with (first|(refine alR 4 g v ?_)|(refine ldR 1 (D.below z.1).2.1 k u40 i40 ?_)|(refine alR 5 j t ?_)|(refine stR 5 y k d.2.2.2.2.2 i40 (wn_one p) ?_)|(refine ldR 1 d.2.1.2.1 k u40 i40 ?_)|(refine ldR 2 d.2.2.1.2.1 u u40 i40 ?_)|fail)
 refine (I l).mono ?_
 rintro e G ⟨X,rfl,b,rfl⟩
 obtain ⟨H,r⟩:=hE (G.setCells c 0 (wn q))
 obtain ⟨E,o⟩:=hE (H.setCells s 0 (wn p))
 have n:=mk5 (d.1.trans (b.mono d.1.size)) (d.2.1.below b) (d.2.2.1.below b) (d.2.2.2.1.below b) (d.2.2.2.2.1.below b)
 have f:Hid (G.there c 0 4∧Row H A (wn p)∧H.there s 0 4∧Kz (·≠c) w E∧Row E c (wn q)∧Row E m (wn x)∧Row E s (wn p)):=by
  have J:Row (G.setCells c 0 (wn q)) s _:=row_set n.2.2.2.1 oM
  rw[← o.out,← r.out]
  exact ⟨n.2.1.2.2,row_set n.2.2.2.2 oM,J.2.2,((Kz.of n.1).set (Or.inr (by simp))).set (Or.inl oM),row_set (n.2.1.put rfl) oM,row_set (row_set n.2.2.1 F) oM,J.put rfl⟩
 go_wp2_with (first|(refine stR 1 r a f.1 i40 (wn_one q) ?_)|(refine ldR 5 f.2.1.2.1 k u40 i40 ?_)|(refine stR 4 o k f.2.2.1 i40 (wn_one p) ?_)|fail)
 refine bodyPost_ret (results_cell 4 44 rfl f.2.2.2.2.2.2 rfl u40 i40) rfl ?_
 exact ⟨_,rfl,f.2.2.2.1,⟨f.2.2.2.2.1,f.2.2.2.2.2.1⟩,rfl⟩
def pwN (N x:Nat):Nat→Nat
 | 0=>1
 | i+1=>sTi N (pwN N x i) x
theorem pwN_lt (O:Ord N) (x:Nat):∀ i,pwN N x i<N
 | 0=>by show 1<N;have:=O.n2;omega
 | _+1=>Nat.mod_lt _ O.pos
theorem pwN_val [NeZero N] (k:1<N) (x:Fin N):∀ i,(pwF x i).val=pwN N x.val i
 | 0=>Nat.mod_eq_of_lt k
 | i+1=>by
  show (pwF x i*x).val=_
  rw[ti_val,pwN_val k x i]
  rfl
theorem Kz.bw {Z:Nat→Prop} {w c d:World} (h:Below w.heap.size w c) (k:Kz Z c d) (e:∀ g,g<w.heap.size→Z g):Below w.heap.size w d:=⟨k.os.trans h.os,k.tape.trans h.tape,k.output.trans h.output,Nat.le_trans h.size k.size,fun g b=>(k.block g (Nat.lt_of_lt_of_le b h.size) (e g b)).trans (h.block g b)⟩
theorem pow_z (O:Ord N) (x:Nat) (hx:x<N) (n:Nat) (Q:n≤512) (w:World) :
 Calls Tryz.prog 83 #[nv x,.int .i64 n] w (Ret fun e w'=>Below w.heap.size w w'∧SLq (w.heap.size≤·) w' e n (pwN N x)∧∃ g c,e=.slice (some ⟨g,0,none⟩) n c):=by
 obtain ⟨C,m⟩:=hE (nv x)
 obtain ⟨v1,t⟩:=hE (nv 1)
 have P:Hid (Gives 15 #[.int .u64 1] v1):=by rw[← t.out];exact of1_c
 obtain ⟨f,k⟩:=hE (w.heap.size)
 obtain ⟨A,p⟩:=hE (w.alloc (.cells (wn x).toArray 44))
 have z:Hid ((Instr.box 44 C).run Tryz.prog w=.ok (.pointer (some ⟨f,0,none⟩)) A):=by rw[← m.out,← p.out,← k.out];exact boxS x w
 have B:=new_row k p
 rw[m.out]
 go_enter Tryz.func83,Tryz.ntmps83
 go_wp2_with (first|(refine wpList_box (u:=C) (v:=.pointer (some ⟨f,0,none⟩)) (w':=A) rfl _ (.tmp 0) rfl ?_ ?_ ?_;rfl;exact z.out)|fail)
 refine (P A).mono ?_
 rintro e E ⟨V,rfl,r,rfl⟩
 obtain ⟨j,b⟩:=hE (E.heap.size)
 obtain ⟨H,q⟩:=hE (E.alloc (.cells (RG.z 4).toArray 44))
 obtain ⟨M,l⟩:=hE (H.setCells j 0 (wn 1))
 have y:=new_put b q l rfl
 have G:=B.2.below r
 have s:=G.1
 rw[b.out] at s
 have D:=B.1.trans (r.mono B.1.size)
 have d:=mk4 (D.trans (y.2.1.mono D.size)) (G.below y.2.1) y.2.2 s
 have s4:=d.2.2.1.1
 have HL:=mk1 (listOfZ_c n Q 140 #[.pointer (some ⟨j,0,none⟩),.pointer (some ⟨f,0,none⟩)] (fun _ _=>kR) (pwN N x) (·≠j) (fun i W=>Row W j (wn (pwN N x i))∧Row W f (wn x)) M (fun g a=>oM) (fun W F=>⟨d.2.2.1.below F,d.2.1.below F⟩) (fun i W K o vs S h=>⟨row_set h.1 oM,row_set h.2 oM⟩) fun i W U _ h=>pow1_c O _ x (pwN_lt O x i) hx _ j f oM W h.1 h.2)
 go_wp2_with (first|(refine alR 5 b q ?_)|(refine stR 5 l t y.1 i40 (wn_one 1) ?_)|fail)
 refine HL.mono ?_
 rintro e X ⟨v,rfl,J,-,I,R⟩
 have T:=k.out
 have L:=mk3 (Kz.bw d.1 J fun g a=>by have:=d.2.2.2;omega) (I.mono fun g a=>Nat.le_trans d.1.size a) R
 go_wp2
 go_ret
 exact ⟨_,rfl,L.out⟩
theorem pow_c (O:Ord N) (x:Nat) (hx:x<N) (n:Nat) (b:n≤512) (w:World) :
 Calls Tryz.prog 83 #[nv x,.int .i64 n] w (Ret fun e w'=>Below w.heap.size w w'∧SLq (w.heap.size≤·) w' e n (pwN N x)):=
 (pow_z O x hx n b w).mono fun _ _ ⟨v,h,c,k,_⟩=>⟨v,h,c,k⟩
theorem uLs:(Tryz.prog.underlying 148).map (·.isRow)=some false:=kR
theorem uSm:(Tryz.prog.underlying 82).map (·.isRow)=some false:=kR
theorem trn1_c (O:Ord N) (l:List (Nat × Bs)) (t:TOk N l) (d:l.length≤512) (z:Nat) (F:z<N) (i o s b m n c1 j r q c2:Nat) (v0 v2 x:Value) (D:i<n) (v:i<q) (w:World) (y:b<w.heap.size) (a:j<w.heap.size) (E:Row w o [v0,.slice (some ⟨b,m,none⟩) n c1,v2]) (H:Row w s [.slice (some ⟨j,r,none⟩) q c2]) (J:w.cell? ⟨b,m+1*i,none⟩=some x) (hx:Sm 0 w x l) (G:w.rangeAt j (r+4*i) (wn z)) :
 Calls Tryz.prog 148 #[.int .i64 i,.pointer (some ⟨o,0,none⟩),.pointer (some ⟨s,0,none⟩)] w (Ret fun e w'=>Below w.heap.size w w'∧Sm w.heap.size w' e (l.map (tmT N z))):=by
 obtain ⟨M,f⟩:=hE (nv z)
 have u:=mk1 (fun (W:World) (k:Below w.heap.size w W)=>sumTimes_c O F 0 x l d t.szm t.lt W (hx.grow k))
 rw[f.out] at u
 obtain ⟨B,L⟩:x.oneCell'=true∧∃ g c,x=.slice (some ⟨g,0,none⟩) l.length c:=by
  obtain ⟨g,c,rfl,-⟩:=hx
  exact ⟨rfl,_,_,rfl⟩
 go_enter Tryz.func148,Tryz.ntmps148
 go_wp2_with fail
 refine AW.begin 10 10 ?_
 refine AW.va 0 (.pointer (some ⟨o,1,none⟩)) ?_
 refine AW.ce 1 uLs (fun W k=>(E.below k).2.1 1 _ rfl) ?_
 refine AW.mv 2 ?_
 refine AW.iv 3 (atS b m n c1 i D) ?_
 refine AW.ce 4 uSm (fun W k=>by rw[k.cell (p:=⟨b,m+1*i,none⟩) y];exact J) ?_
 refine AW.ce 5 uSl (fun W k=>(H.below k).2.1 0 _ rfl) ?_
 refine AW.mv 6 ?_
 refine AW.iv 7 (at33 j r q c2 i v) ?_
 refine AW.ro 8 (fun W k=>RG.range_below G k a) f rSc nSc ?_
 refine AW.ca 9 (fun k=>u _ k) (fun e w' h=>h.1) ?_
 rintro e I ⟨A,C⟩
 refine AW.nx 10 e ?_
 refine AW.dn fun k=>?_
 have K:=mk2 k (show Sm w.heap.size I e _ from C)
 go_wp2
 go_ret
 exact ⟨_,rfl,K.out⟩
theorem sft1_c (O:Ord N) (z q y t:Nat) (X:z<N) (T:q<N) (hy:y<N) (ht:t<N) (i I H K J u E A c1 v F D c2:Nat) (U:i<A) (P:i<D) (w:World) (Q:u<w.heap.size) (S:v<w.heap.size) (V:Row w I (wn z)) (Z:Row w H [.slice (some ⟨u,E,none⟩) A c1]) (R3:Row w K (wn q)) (R4:Row w J [.slice (some ⟨v,F,none⟩) D c2]) (r1:w.rangeAt u (E+4*i) (wn y)) (Y:w.rangeAt v (F+4*i) (wn t)) :
 Calls Tryz.prog 138 #[.int .i64 i,.pointer (some ⟨I,0,none⟩),.pointer (some ⟨H,0,none⟩),.pointer (some ⟨K,0,none⟩),.pointer (some ⟨J,0,none⟩)] w (Ret fun e w'=>Below w.heap.size w w'∧e=nv (sPl N (sTi N z y) (sTi N q t))):=by
 obtain ⟨k,B⟩:=hE (w.heap.size)
 obtain ⟨w1,d⟩:=hE (w.alloc (.cells (RG.z 4).toArray 44))
 have f:=new_row B d
 have x:=sTim_c O z y X hy
 have C:=sTim_c O q t T ht
 have M:sTi N z y<N:=Nat.mod_lt _ O.pos
 have L:sTi N q t<N:=Nat.mod_lt _ O.pos
 generalize sTi N z y=a at x M ⊢
 generalize sTi N q t=b at C L ⊢
 have G:=sPlu_c O a b M L
 generalize sPl N a b=r at G ⊢
 obtain ⟨vz,j⟩:=hE (nv z)
 obtain ⟨vq,o⟩:=hE (nv q)
 obtain ⟨vy,m⟩:=hE (nv y)
 obtain ⟨vt,n⟩:=hE (nv t)
 obtain ⟨va,l⟩:=hE (nv a)
 obtain ⟨vb,p⟩:=hE (nv b)
 obtain ⟨vr,g⟩:=hE (nv r)
 rw[j.out,m.out,l.out] at x
 rw[o.out,n.out,p.out] at C
 rw[l.out,p.out,g.out] at G
 go_enter Tryz.func138,Tryz.ntmps138
 go_wp2_with (first|(refine alR 6 B d ?_)|fail)
 refine AW.begin 13 13 ?_
 refine AW.ro 0 (fun W c=>((V.below f.1).below c).2.1) j rSc nSc ?_
 refine AW.ce 1 uSl (fun W c=>((Z.below f.1).below c).2.1 0 _ rfl) ?_
 refine AW.mv 2 ?_
 refine AW.iv 3 (at33 u E A c1 i U) ?_
 refine AW.ro 4 (fun W c=>row_of f.1 Q r1 c) m rSc nSc ?_
 refine AW.ro 6 (fun W c=>((R3.below f.1).below c).2.1) o rSc nSc ?_
 refine AW.ce 7 uSl (fun W c=>((R4.below f.1).below c).2.1 0 _ rfl) ?_
 refine AW.mv 8 ?_
 refine AW.iv 9 (at33 v F D c2 i P) ?_
 refine AW.ro 10 (fun W c=>row_of f.1 S Y c) n rSc nSc ?_
 refine AW.gi 5 (fun _=>x _) fun W2 _=>?_
 refine AW.gi 11 (fun _=>C _) fun W3 _=>?_
 refine AW.gi 12 (fun _=>G _) fun W4 _=>?_
 refine AW.fi (us:=wn r) g (wn_one r) i40 (fun c=>?_)
 obtain ⟨W5,s⟩:=hE (W4.setCells k 0 (wn r))
 have R:=res_sc B d c s
 rw[s.out]
 refine ⟨R.1,?_⟩
 go_wp2_with fail
 refine bodyPost_ret (results_cell 6 44 rfl R.2.2 rfl u40 i40) rfl ?_
 exact ⟨_,rfl,R.2.1,rfl⟩
end
namespace RG
open Go Go.RowKit
variable {P:Program} {ops:Array Oper} {Q:Exit→Act→World→Prop} {w:World} {a0:Act} {L:Array Bool} {F:Flow} {m:Nat}
def Fr (a k:Act) (d:Option Tmp):Prop:=∃ v,k.tmps=(a.put d v).tmps
theorem upon_fr {o:Oper} {a:Act} {K:Act→World→Prop}:∀ {r:Result Next},o.upon P a K Q r→o.upon P a (fun b w'=>K b w'∧Fr a b o.dst) Q r
 | .ok (.value v) _,h=>⟨h,v,rfl⟩
 | .ok .skip _,h=>⟨h,undef,rfl⟩
 | .ok (.defer d) _,h=>⟨h,undef,by cases o.dst<;>rfl⟩
 | .ok (.enter f args) _,h=>Calls.mono h fun e w' k=>by
  cases e with
  | returned v=>exact ⟨k,v,rfl⟩
  | panicked c=>exact k
  | outgrown=>exact k
 | .ok (.row row args) _,h=>Rows.mono h fun v w' k=>⟨k,v,rfl⟩
 | .halt (.panic v) _,h=>h
 | .halt (.exit _) _,h=>h.elim
theorem wpOp_fr {i:Nat} {o:Oper} {a:Act} {K:Act→World→Prop} (ho:ops[i]? = some o) (h:wpOp P ops Q i K a w):wpOp P ops Q i (fun k w'=>K k w'∧Fr a k o.dst) a w:=by
 unfold wpOp at *
 rw[ho] at h ⊢
 dsimp only at h ⊢
 split
 ·rename_i hw
  rw[if_pos hw] at h
  rcases h with h|h
  ·exact Or.inl (upon_fr h)
  ·exact Or.inr h
 ·rename_i hw
  rw[if_neg hw] at h
  exact ⟨h,undef,rfl⟩
theorem wpOp_val {i:Nat} {o:Oper} {a:Act} {K:Act→World→Prop} {v:Value} {e:World} (ho:ops[i]? = some o) (d:o.guard=none) (c:(execOp a.eval o).run P w=.ok (.value v) e) (h:wpOp P ops Q i K a w):wpOp P ops Q i (fun k w'=>K k w'∧k=a.put o.dst v) a w:=by
 unfold wpOp at *
 rw[ho] at h ⊢
 dsimp only at h ⊢
 have b:Region.wanted o (yielded ops a.tmps)=true:=by
  unfold Region.wanted
  rw[d]
 rw[if_pos b] at h ⊢
 rcases h with h|h
 ·unfold Oper.wp at h ⊢
  rw[c] at h ⊢
  exact Or.inl ⟨h,rfl⟩
 ·exact Or.inr h
def isAl (k:Array Oper) (i:Nat):Bool:=match k[i]? with
 | some o=>match o.op with | .alloc _=>true|_=>false
 | none=>false
def Sep (k:Array Oper) (L:Array Bool) (a:Act):Prop:=∀ i j di dj,on L i=true→on L j=true→i≠j→isAl k i=true→isAl k j=true→dstOf k i=some di→dstOf k j=some dj→a.tmps[di]?≠a.tmps[dj]?
def Als (P:Program) (F:Flow) (b:Array Oper) (n:Nat):Prop:=∀ i o,i<n→b[i]? = some o→isAl b i=true→o.guard=none∧F.kill i=[]∧(∀ (a:Act) w,∃ c,(execOp a.eval o).run P w=.ok (.value (.pointer (some ⟨w.heap.size,0,none⟩))) c)∧∀ v w,F.R i v w→∃ k,v=.pointer (some ⟨k,0,none⟩)∧k<w.heap.size
theorem put_get {a:Act} {d e:Tmp} {v:Value} (h:d≠e):(a.put (some d) v).tmps[e]? = a.tmps[e]?:=by
 unfold Act.put
 dsimp only
 rw[Array.getElem?_setIfInBounds,if_neg h]
theorem stepS {k:Nat} {o:Oper} {a:Act} (R:RegF P Q F ops a0 m) (U:Als P F ops m) (E:k<m) (G:∀ i,on L i=true→i<m) (ho:ops[k]? = some o) (S:on L k=false) (D:∀ e∈o.after,Region.binds .any e=true→on L e.on=true) (h:InvF F ops a0 L a w) (W:Sep ops L a) :
 wpOp P ops Q k (fun I w'=>InvF F ops a0 (L.setIfInBounds k true) I w'∧Sep ops (L.setIfInBounds k true) I) a w:=by
 have X:=stepF R E G ho S D h
 have N:=(Array.getElem?_eq_some_iff.1 ho).1
 have M:k<L.size:=by rw[h.size];exact N
 have C:=dstOf_some ho
 have c:∀ i,on (L.setIfInBounds k true) i=true→i≠k→on L i=true:=fun i g z=>by
  rw[on_set M] at g
  rcases Bool.or_eq_true _ _ ▸ g with g|g
  ·exact g
  ·exact absurd (by simpa using g:k=i).symm z
 have d:∀ i di r,i≠k→dstOf ops i=some di→o.dst=some r→r≠di:=fun i di r z g Y e=>by
  subst e
  exact z ((R.of ho).2 r Y |>.2 i g)
 cases B:isAl ops k with
 | false =>
  refine wpOp_mono (fun I w' hh=>⟨hh.1,fun i j di dj g J f p u b n=>?_⟩) (wpOp_fr ho X)
  have s:i≠k:=by rintro rfl;rw[B] at p;cases p
  have t:j≠k:=by rintro rfl;rw[B] at u;cases u
  have l:=W i j di dj (c i g s) (c j J t) f p u b n
  obtain ⟨v,hv⟩:=hh.2
  rw[hv]
  cases hd:o.dst with
  | none=>exact l
  | some r=>rw[put_get (d i di r s b hd),put_get (d j dj r t n hd)];exact l
 | true =>
  obtain ⟨Z,-,H,-⟩:=U k o E ho B
  obtain ⟨w1,hr⟩:=H a w
  obtain ⟨V,T,K⟩:=h.all
  have y:∀ i di,i≠k→on L i=true→isAl ops i=true→dstOf ops i=some di→a.tmps[di]?≠some (.pointer (some ⟨w.heap.size,0,none⟩)):=fun i di s g p b e=>by
   have O:i<ops.size:=by rw[← h.size];exact on_lt g
   obtain ⟨-,A,-,hb⟩:=U i _ (G i g) (Array.getElem?_eq_getElem O) p
   obtain ⟨q,hq,h0⟩:=hb (V i) w (K i g fun x hx=>by rw[A] at hx;cases hx)
   rw[T i di g b,hq] at e
   injection e with e
   injection e with e
   injection e with e
   injection e with e
   omega
  refine wpOp_mono (fun I w' hh=>⟨hh.1,fun i j di dj g J f p u b n=>?_⟩) (wpOp_val ho Z hr X)
  rw[hh.2]
  have A:∀ r,o.dst=some r→(a.put o.dst (.pointer (some ⟨w.heap.size,0,none⟩))).tmps[r]? = some (.pointer (some ⟨w.heap.size,0,none⟩)):=fun r hd=>by
   rw[hd]
   unfold Act.put
   dsimp only
   rw[Array.getElem?_setIfInBounds,if_pos rfl,if_pos (by rw[h.sz];exact ((R.of ho).2 r hd).1)]
  by_cases s:i=k
  ·subst s
   have hd:o.dst=some di:=by rw[← C];exact b
   rw[A di hd,hd,put_get (d j dj di (Ne.symm f) n hd)]
   exact (y j dj (Ne.symm f) (c j J (Ne.symm f)) u n).symm
  ·by_cases t:j=k
   ·subst t
    have hd:o.dst=some dj:=by rw[← C];exact n
    rw[A dj hd,hd,put_get (d i di dj f b hd)]
    exact y i di f (c i g f) p b
   ·have l:=W i j di dj (c i g s) (c j J t) f p u b n
    cases hd:o.dst with
    | none=>exact l
    | some r=>rw[put_get (d i di r s b hd),put_get (d j dj r t n hd)];exact l
structure Al1 (P:Program) (G:Gw) (ops:Array Oper) (i:Nat):Prop where
 o:∃ o,ops[i]? = some o∧o.guard=none∧(∀ (a:Act) w,∃ w1,(execOp a.eval o).run P w=.ok (.value (.pointer (some ⟨w.heap.size,0,none⟩))) w1)
 r:∀ v w,G.R i v w→∃ k,v=.pointer (some ⟨k,0,none⟩)∧k<w.heap.size
def AlL (P:Program) (G:Gw) (k:Array Oper):List Nat→Prop
 | []=>True
 | i :: r=>Al1 P G k i∧AlL P G k r
theorem AlL.of {G:Gw} {i:Nat}:∀ {l:List Nat},AlL P G ops l→l.contains i=true→Al1 P G ops i
 | [],_,h=>by cases h
 | x :: r,hl,h=>by
  rw[List.contains_cons,Bool.or_eq_true] at h
  rcases h with h|h
  ·rw[show i=x by simpa using h]
   exact hl.1
  ·exact hl.2.of h
theorem als_of {G:Gw} {n:Nat} (l:List Nat) (h:AlL P G ops l) (d:(List.range n).all (fun i=>!isAl ops i || l.contains i)=true:=by kernel_rfl):Als P G.flow ops n:=fun i o f ho c=>by
 have k:=List.all_eq_true.1 d i (List.mem_range.2 f)
 rw[c,Bool.not_true,Bool.false_or] at k
 obtain ⟨⟨m,b,j,e⟩,g⟩:=h.of k
 obtain rfl:o=m:=Option.some.inj (ho.symm.trans b)
 exact ⟨j,rfl,e,g⟩
theorem al1 {G:Gw} {i:Nat} (cs:List Value) (T:TypeId) (c:∀ v w,G.R i v w→∃ k,v=.pointer (some ⟨k,0,none⟩)∧k<w.heap.size) (ho:(ops[i]?.map (·.guard))=some none:=by kernel_rfl) (d:∀ o,ops[i]? = some o→∀ W,(seenT [] o,(execOp (evo (evl [])) o).run P W)=(true,.ok (.value (.pointer (some ⟨W.heap.size,0,none⟩))) (W.alloc (.cells cs.toArray T))):=by (intro _ h _;cases h;kernel_rfl)):Al1 P G ops i:=by
 refine ⟨?_,c⟩
 cases h:ops[i]? with
 | none=>rw[h] at ho;cases ho
 | some o =>
  rw[h] at ho
  refine ⟨o,rfl,Option.some.inj ho,fun a w=>?_⟩
  have b:=d o h w
  simp only[Prod.mk.injEq] at b
  exact ⟨_,by rw[exec_ev (a:=a) (evl []) [] b.1 (fun t e=>by cases e)];exact b.2⟩
theorem Gw.tail3 {id:Nat} (G:Gw) (n:Nat) (z:Als P G.flow ops n) (s:(decide (n<ops.size) && chain2 ops n)=true) (B:P.follows .mixedOrders=true) (t:chkF ops a0.tmps.size=true) (h:CertsF P Q G.flow ops a0 0 (ops.toList.take n)) (E:G.B w.drew)
 (y:∀ (V:Nat→Value) (w':World),(∀ i,i<n→G.R i (V i) w')→G.B w'→(∀ i j,i<n→j<n→i≠j→isAl ops i=true→isAl ops j=true→(dstOf ops i).isSome=true→(dstOf ops j).isSome=true→V i≠V j)→wpList P ops Q (ops.toList.drop n) (putV V (ops.toList.take n) 0 a0) w'):(Code.region id ops true).wp P Q a0 w:=by
 rw[Bool.and_eq_true,decide_eq_true_eq] at s
 refine flow_tailZ G.flow n (Sep ops) s.1 s.2 B (Gw.reg t h) (fun _=>E) (fun L h i j di dj d=>by rw[h] at d;cases d) (fun k o L a w p g m x A v C=>stepS (Gw.reg t h) z p g m x A v C) fun V w' p g m=>y V w' (fun i d=>p i d rfl) (g 0 rfl) fun i j d u l q r b c e=>?_
 obtain ⟨L,a,D,f⟩:=m
 obtain ⟨di,b⟩:=Option.isSome_iff_exists.1 b
 obtain ⟨dj,c⟩:=Option.isSome_iff_exists.1 c
 refine D i j di dj (f i d).1 (f j u).1 l q r b c ?_
 rw[(f i d).2 di b,(f j u).2 dj c,e]
end RG
section
open Go.RowKit Go.Sort Go.Deep
variable {N:Nat}
theorem SLq.from {B:Nat} {W W':World} {x:Value} {n:Nat} {a:Nat→Nat} (h:B≤W.heap.size) (b:SLq (W.heap.size≤·) W' x n a):SLq (B≤·) W' x n a:=b.mono fun g k=>Nat.le_trans h k
def pZ (B n:Nat) (a:Nat→Nat):RG.S1:=⟨fun v w=>SLq (B≤·) w v n a∧∃ g c,v=.slice (some ⟨g,0,none⟩) n c,fun _ _ _ k h=>⟨h.1.keep (Kq.of_below k),h.2⟩⟩
theorem sl_ne {Q:Nat→Prop} {W:World} {g k n c:Nat} {a:Nat→Nat} {u:Value} {r:List Value} (h:SLq Q W (.slice (some ⟨g,0,none⟩) n c) n a) (i:0<n) (R:Row W k (u :: r)) (j:u≠.int .u64 ((a 0%18446744073709551616:Nat):Int)):g≠k:=by
 rintro rfl
 obtain ⟨m,l,o,e,-,-,-,f⟩:=h
 injection e with e
 injection e with e
 injection e with e1 e2
 subst e1 e2
 have b:=f 0 i 0 _ rfl
 have d:=R.2.1 0 u rfl
 rw[d] at b
 exact j (Option.some.inj b)
theorem sl_set {B g k n c:Nat} {W:World} {a:Nat→Nat} {vs:List Value} (h:SLq (B≤·) W (.slice (some ⟨g,0,none⟩) n c) n a) (b:g≠k):SLq (B≤·) (W.setCells k 0 vs) (.slice (some ⟨g,0,none⟩) n c) n a:=by
 obtain ⟨q,m,p,e,l,d,i,f⟩:=h
 have e':=e
 injection e with e
 injection e with e
 injection e with e1 e2
 subst e1
 exact ⟨g,m,p,e',l,d,by rw[RG.setCells_size];exact i,fun j o=>World.rangeAt_setCells_apart (f j o) k 0 vs (Or.inl b)⟩
section
variable {P:Program} {ops:Array Oper} {rest:List Oper} {op:Oper} {a:Act} {w w':World} {Q:Exit→Act→World→Prop} {T:TypeId} {y:Operand} {g o:Nat} {u:Value}
theorem st1R (t:Tmp) (f:Hid (w.setCells g o [u]=w')) (th:w.there g o 1) (d:(P.info? T).map (·.size)=some 1) (hv:u.cells=#[u]) (j:u.oneCell'=true) (h:wpList P ops Q rest (a.put op.dst undef) w') (k:op.guard=none:=by rfl) (ho:op.op=.store T (.tmp t) y:=by rfl) (hx:a.eval (.tmp t)=.pointer (some ⟨g,o,none⟩):=by rfl) (i:a.eval y=u:=by rfl):wpList P ops Q (op :: rest) a w:=
 wpList_plain k fun K c=>by
  have b:=run_storeVar_mid (P:=P) w g o T #[u] th d (by simp[j])
  have e:storeVar T ⟨g,o,none⟩ u=storeVar T ⟨g,o,none⟩ (.agg #[u]):=by
   unfold storeVar
   rw[hv]
   rfl
  rw[show (#[u]:Array Value).toList=[u] from rfl,f.out] at b
  unfold Oper.wp execOp
  simp only[ho,hx,i,Instr.storeAt,Instr.sureAddr,Sem.run_bind,Sem.run_pure,Result.andThen_ok,e,b]
  exact c _ _ h
theorem inR {v:Value} (t:Tmp) (I:Sem Value) (c:I.run P w=.ok v w') (h:wpList P ops Q rest (a.put op.dst v) w') (hd:op.dst=some t:=by rfl) (k:op.guard=none:=by rfl) (b:execOp a.eval op=I >>= fun v=>pure (Next.value v):=by kernel_rfl):wpList P ops Q (op :: rest) a w:=
 wpList_plain k fun K d=>by
  unfold Oper.wp
  rw[b,Sem.run_bind,c]
  exact d _ _ h
end
theorem bslZ (n:Nat) (w:World):(Instr.buildSlice 143 1 #[(0,nv n)]).run Tryz.prog w=.ok (.slice (some ⟨w.heap.size,0,none⟩) 1 1) (w.alloc (.cells (wn n).toArray 44)):=kR
theorem iSl:(Tryz.prog.info? 143).map (·.size)=some 1:=kR
theorem pN_lt {B:Nat} {cs:List Value} (v:Value) (W:World) (h:(RG.pN B cs).p v W):∃ k,v=.pointer (some ⟨k,0,none⟩)∧k<W.heap.size:=by
 obtain ⟨k,c,-,b⟩:=h
 exact ⟨k,c,b.1⟩
theorem shf_c (O:Ord N) (h2:2<N) (y z:Nat) (hy:y<N) (hz:z<N) (n:Nat) (hn:n≤512) (w:World) (h6:∀ x g W,Row W g (wn x)→Calls Tryz.prog 137 #[.slice (some ⟨g,0,none⟩) 1 1,.int .i64 n] W (Ret fun e W'=>Below W.heap.size W W'∧SLq (W.heap.size≤·) W' e n (fun _=>x))) :
 Calls Tryz.prog 80 #[nv y,nv z,.int .i64 n] w (Ret fun e w'=>Below w.heap.size w w'∧∃ l r,e=.tuple #[l,r]∧SLq (w.heap.size≤·) w' l n (fun _=>sMi N 0 z)∧SLq (w.heap.size≤·) w' r n (fun i=>sPl N (sTi N z (pwN N y i)) (sTi N (sTi N z z) (pwN N 2 i)))):=by
 obtain ⟨vy,Y⟩:=hE (nv y)
 obtain ⟨vz,E⟩:=hE (nv z)
 obtain ⟨k3,he⟩:=hE (w.heap.size)
 obtain ⟨U,h5⟩:=hE (w.alloc (.cells (wn y).toArray 44))
 obtain ⟨k4,Z⟩:=hE (U.heap.size)
 obtain ⟨f,h8⟩:=hE (U.alloc (.cells (wn z).toArray 44))
 have hs:Hid ((Instr.box 44 vy).run Tryz.prog w=.ok (.pointer (some ⟨k3,0,none⟩)) U):=by rw[← Y.out,← h5.out,← he.out];exact boxS y w
 have hr:Hid ((Instr.box 44 vz).run Tryz.prog U=.ok (.pointer (some ⟨k4,0,none⟩)) f):=by rw[← E.out,← h8.out,← Z.out];exact boxS z U
 have F1:=new_row he h5
 have F2:=new_row Z h8
 have R3:=F1.2.below F2.1
 have b2:=F1.1.trans (F2.1.mono F1.1.size)
 rw[Y.out,E.out]
 have K:=mk3 b2 R3 F2.2
 go_enter Tryz.func80,Tryz.ntmps80
 go_wp2_with (first|(refine wpList_box (u:=vy) (v:=.pointer (some ⟨k3,0,none⟩)) (w':=U) rfl _ (.tmp 0) rfl ?_ ?_ ?_;rfl;exact hs.out)|(refine wpList_box (u:=vz) (v:=.pointer (some ⟨k4,0,none⟩)) (w':=f) rfl _ (.tmp 1) rfl ?_ ?_ ?_;rfl;exact hr.out)|fail)
 obtain ⟨b,hb⟩:=hE (f.heap.size)
 have t:∀ {W},Below f.heap.size f W→b≤W.heap.size:=fun h=>hb.out ▸ h.size
 refine (RG.gwL [RG.pE (nv y),RG.pE (.int .i64 n),pZ b n (pwN N y),RG.pE (nv 2),RG.pE (.int .i64 n),pZ b n (pwN N 2),RG.pE (nv z),RG.pE (nv z),RG.pE (nv (sTi N z z)),RG.pN b [.slice none 0 0],RG.pN b [.slice none 0 0],RG.pN b (RG.z 4)] (fun W=>Below f.heap.size f W) (fun W W' hb h=>h.trans (hb.mono h.size))).tail3 12 (RG.als_of [9,10,11] ⟨RG.al1 [.slice none 0 0] 143 pN_lt,RG.al1 [.slice none 0 0] 143 pN_lt,RG.al1 (RG.z 4) 44 pN_lt,trivial⟩) kR kR kR ⟨
  RG.gLo 3 (fun W c=>(K.2.1.below c).2.1) u40 i40,
  RG.gO 2 (.int .i64 n),
  RG.gw_c2 0 11 1 12 83 (fun x y=>#[x,y]) (fun x u W I J c=>by
   obtain rfl:x=nv y:=I
   obtain rfl:u=.int .i64 n:=J
   exact (pow_z O y hy n hn W).mono fun e W' ⟨v,k,h2,j,d⟩=>⟨v,k,h2,j.from (t c),d⟩),
  RG.gw_c0 15 #[.int .u64 2] (fun W _=>ofN_c 2 oM W),
  RG.gO 2 (.int .i64 n),
  RG.gw_c2 3 14 4 15 83 (fun x y=>#[x,y]) (fun x u W I J c=>by
   obtain rfl:x=nv 2:=I
   obtain rfl:u=.int .i64 n:=J
   exact (pow_z O 2 h2 n hn W).mono fun e W' ⟨v,k,h2,j,d⟩=>⟨v,k,h2,j.from (t c),d⟩),
  RG.gLo 4 (fun W c=>(K.2.2.below c).2.1) u40 i40,
  RG.gLo 4 (fun W c=>(K.2.2.below c).2.1) u40 i40,
  RG.gC2 6 17 7 18 (fun W=>sTim_c O z z hz hz W),
  RG.gw_a [.slice none 0 0] 143 (fun W W' h c=>⟨_,rfl,t c,h⟩),
  RG.gw_a [.slice none 0 0] 143 (fun W W' h c=>⟨_,rfl,t c,h⟩),
  RG.gw_a (RG.z 4) 44 (fun W W' h c=>⟨_,rfl,t c,h⟩),trivial⟩ ⟨rfl,rfl,rfl,Nat.le_refl _,fun _ _=>rfl⟩ ?_
 intro V w3 hR c hD
 obtain ⟨S1,g1,c1,J⟩:=hR 2 dC
 obtain ⟨S2,g2,c2,e5⟩:=hR 5 dC
 rw[J] at S1
 rw[e5] at S2
 have e8:=hR 8 dC
 obtain ⟨B,e9,l8,R8⟩:=hR 9 dC
 obtain ⟨D,P,l9,R9⟩:=hR 10 dC
 obtain ⟨k,Q,k6,M⟩:=hR 11 dC
 have d1:=hD 9 10 dC dC dC kR kR kR kR
 have d2:=hD 9 11 dC dC dC kR kR kR kR
 have d3:=hD 10 11 dC dC dC kR kR kR kR
 dsimp only[RG.putV,Nat.reduceAdd,List.take,List.drop]
 simp only[Act.put,List.setIfInBounds_toArray,List.set_cons_succ,List.set_cons_zero]
 rw[J,e5,e8,e9,P,Q]
 rw[e9,P] at d1
 rw[e9,Q] at d2
 rw[P,Q] at d3
 have n1:B≠D:=fun e=>d1 (by rw[e])
 have n2:B≠k:=fun e=>d2 (by rw[e])
 have n3:D≠k:=fun e=>d3 (by rw[e])
 obtain ⟨q,hq⟩:=hE (sTi N z z)
 obtain ⟨ka,G⟩:=hE (nv q)
 rw[hq.out,G.out]
 obtain ⟨H,s⟩:=hE (Value.slice (some ⟨g1,0,none⟩) n c1)
 obtain ⟨L,A⟩:=hE (Value.slice (some ⟨g2,0,none⟩) n c2)
 have x1:0<n→(g1≠B∧g1≠D∧g1≠k)∧g2≠B∧g2≠D∧g2≠k:=fun a=>⟨⟨sl_ne S1 a R8 (by simp),sl_ne S1 a R9 (by simp),sl_ne S1 a M (by simp[pwN])⟩,sl_ne S2 a R8 (by simp),sl_ne S2 a R9 (by simp),sl_ne S2 a M (by simp[pwN])⟩
 obtain ⟨S,p⟩:=hE (w3.setCells B 0 [H])
 obtain ⟨T,j⟩:=hE (S.setCells D 0 [L])
 obtain ⟨R,X⟩:=hE (T.setCells k 0 (wn q))
 have k7:=hb.out
 have q8:Row S B [H]:=by rw[← p.out];exact R8.put rfl
 have q9:Row S D [.slice none 0 0]:=by rw[← p.out];exact R9.other (Ne.symm n1)
 have k2:Row S k (RG.z 4):=by rw[← p.out];exact M.other (Ne.symm n2)
 have u8:Row T B [H]:=by rw[← j.out];exact q8.other n1
 have u9:Row T D [L]:=by rw[← j.out];exact q9.put rfl
 have u10:Row T k (RG.z 4):=by rw[← j.out];exact k2.other (Ne.symm n3)
 have HT:=mk3 R8.2.2 q9.2.2 u10.2.2
 have HV:Hid ((H.cells=#[H]∧H.oneCell'=true)∧L.cells=#[L]∧L.oneCell'=true):=by rw[← s.out,← A.out];exact ⟨⟨rfl,rfl⟩,rfl,rfl⟩
 have C:Hid (Below f.heap.size f R∧Row R B [H]∧Row R D [L]∧Row R k (wn q)∧(0<n→SLq (b≤·) R H n (pwN N y)∧SLq (b≤·) R L n (pwN N 2))):=by
  have B4:Below f.heap.size f S:=by rw[← p.out];exact RG.below_setCells oM _ _ _ c
  have F:Below f.heap.size f T:=by rw[← j.out];exact RG.below_setCells oM _ _ _ B4
  rw[← X.out]
  refine ⟨RG.below_setCells oM _ _ _ F,u8.other n2,u9.other n3,u10.put rfl,fun a=>?_⟩
  rw[← j.out,← p.out]
  obtain ⟨⟨o,a2,a3⟩,a4,d,a6⟩:=x1 a
  rw[← s.out,← A.out]
  exact ⟨sl_set (sl_set (sl_set S1 o) a2) a3,sl_set (sl_set (sl_set S2 a4) d) a6⟩
 rw[s.out,A.out]
 refine st1R (w:=w3) 8 p HT.1 iSl HV.1.1 HV.1.2 ?_
 refine st1R (w:=S) 9 j HT.2.1 iSl HV.2.1 HV.2.2 ?_
 refine stR (w:=T) 10 X G HT.2.2 i40 (wn_one q) ?_
 go_wp2_with (first|(refine ldR 4 (K.2.2.below C.1).2.1 E u40 i40 ?_)|fail)
 have HO:=mk1 (opp1_c O hz R)
 rw[E.out] at HO
 refine HO.mono ?_
 rintro e w7 ⟨uu,rfl,h7,rfl⟩
 obtain ⟨m,hm⟩:=hE (sMi N 0 z)
 rw[hm.out]
 obtain ⟨vo,hc⟩:=hE (nv m)
 obtain ⟨h9,F⟩:=hE (w7.heap.size)
 obtain ⟨w8,hg⟩:=hE (w7.alloc (.cells (wn m).toArray 44))
 have k1:Hid ((Instr.buildSlice 143 1 #[(0,vo)]).run Tryz.prog w7=.ok (.slice (some ⟨h9,0,none⟩) 1 1) w8):=by rw[← hc.out,← hg.out,← F.out];exact bslZ m w7
 have F8:=new_row F hg
 have b68:=mk1 (h7.trans (F8.1.mono h7.size))
 rw[hc.out]
 have HR:=mk1 (h6 m h9 w8 F8.2)
 go_wp2_with (first|(refine inR 22 (Instr.buildSlice 143 1 #[(0,vo)]) k1.out ?_)|fail)
 refine HR.mono ?_
 rintro e w9 ⟨lv,rfl,hj,hl⟩
 have d:=b68.trans (hj.mono b68.size)
 have b9:=mk1 (K.1.trans ((C.1.trans (d.mono C.1.size)).mono K.1.size))
 have KZ:=mk6 ((K.2.2.below C.1).below d) (C.2.1.below d) (C.2.2.2.1.below d) (C.2.2.1.below d) (fun (a:0<n)=>And.intro ((C.2.2.2.2 a).1.keep (Kq.of_below d)) ((C.2.2.2.2 a).2.keep (Kq.of_below d))) b9
 have lq:q<N:=by rw[← hq.out];exact Nat.mod_lt _ O.pos
 have HL:=mk1 (listOfB_c n hn 138 #[.pointer (some ⟨k4,0,none⟩),.pointer (some ⟨B,0,none⟩),.pointer (some ⟨k,0,none⟩),.pointer (some ⟨D,0,none⟩)] (fun _ _=>kR) (fun i=>sPl N (sTi N z (pwN N y i)) (sTi N q (pwN N 2 i))) w9 fun i W hi o=>by
  obtain ⟨T1,T2⟩:=KZ.2.2.2.2.1 oM
  rw[← s.out] at T1
  rw[← A.out] at T2
  have Ra:=(KZ.1.below o)
  have Rb:=(KZ.2.1.below o)
  have Rc:=(KZ.2.2.1.below o)
  have Rd:=(KZ.2.2.2.1.below o)
  rw[← s.out] at Rb
  rw[← A.out] at Rd
  obtain ⟨hk,ht,k0,I,-,-,t1,f1⟩:=T1.keep (Kq.of_below o)
  obtain ⟨hw,hp,hu,J,-,-,t2,f2⟩:=T2.keep (Kq.of_below o)
  rw[I] at Rb
  rw[J] at Rd
  exact sft1_c O z q (pwN N y i) (pwN N 2 i) hz lq (pwN_lt O y i) (pwN_lt O 2 i) i k4 B k D hk ht n k0 hw hp n hu hi hi W t1 t2 Ra Rb Rc Rd (f1 i hi) (f2 i hi))
 have hS:=mk1 (SLq.from (Nat.le_trans K.1.size (Nat.le_trans C.1.size b68.size)) hl)
 go_wp2_with fail
 refine HL.mono ?_
 rintro e k5 ⟨rv,rfl,I,ha⟩
 have KE:=mk3 (b9.trans (I.mono b9.size)) (hS.keep (Kq.of_below I)) (SLq.from b9.size ha)
 go_wp2
 go_ret2
 rw[← hm.out,← hq.out] at KE
 exact ⟨_,rfl,KE.1,_,_,rfl,KE.2.1,KE.2.2⟩
end
section
open Go.RowKit Go.Sort Go.Deep
variable {P:Nat} [NeZero P] {N:Nat}
theorem run_copy_s {P:Program} (w:World) (t sT A k:TypeId) (b o c g:Nat) (a:Addr) (d f s n:Nat) (cs:List Value)
 (C:P.underlying t=some (.slice k)) (r:(P.info? k).map (·.size)=some s) (B:n=Nat.min d c) (x:cs.length=n*s)
 (e:∀ j v,cs[j]? = some v→w.cell? (a.add j)=some v) (u:w.there b o cs.length) (y:∀ v∈cs,v.oneCell'=true) :
 (Builtin.copy_ #[t,sT] A #[.slice (some ⟨b,o,none⟩) c g,.slice (some a) d f]).run P w=.ok (goInt n) (w.setCells b o cs):=by
 have l:=run_loadCells_list (P:=P) w a cs e
 have m:=run_storeCells_cells (P:=P) b o cs 0 w (fun j q=>by rw[Nat.add_zero];exact (u j q).1) (fun j q=>by rw[Nat.add_zero];exact (u j q).2) y
 rw[x] at l
 cases p:P.info? k with
 | none=>simp[p] at r
 | some i =>
  have z:i.size=s:=by simpa[p] using r
  simp[Builtin.copy_,run_underlying C,Builtin.lenOf,Builtin.firstCells,sizeOf,typeInfo,p,z,← B,l,m]
def cw (x i:Nat):Value:=(wn x).getD (i%4) undef
theorem cw_one (x i:Nat):(cw x i).oneCell'=true:=by
 unfold cw
 have:i%4=0∨i%4=1∨i%4=2∨i%4=3:=oM
 rcases this with h|h|h|h<;>rw[h]<;>rfl
structure Rs (g m n x:Nat) (w:World):Prop where
 lt:g<w.heap.size
 th:w.there g 0 (4*m)
 c:∀ i,i<4*n→w.cell? ⟨g,i,none⟩=some (cw x i)
theorem Rs.copy {g m n k r sl sc dc x:Nat} {w:World} (h:Rs g m n x w) (s:k=Nat.min sl (m-n)) (z:n≤m) (e:∀ i,i<4*k→w.cell? ⟨r,i,none⟩=some (cw x i)) :
 ∃ w',(∀ l,(Builtin.copy_ #[143,143] l #[.slice (some ⟨g,n*4,none⟩) (m-n) dc,.slice (some ⟨r,0,none⟩) sl sc]).run Tryz.prog w=.ok (goInt k) w')∧Rs g m (n+k) x w'∧(∀ B,B≤g→Below B w w'):=by
 have t:n+k≤m:=by have:Nat.min sl (m-n)≤m-n:=Nat.min_le_right _ _;omega
 obtain ⟨cs,d⟩:∃ cs,cs=(List.range (4*k)).map (cw x):=⟨_,rfl⟩
 have p:cs.length=4*k:=by rw[d,List.length_map,List.length_range]
 have c:∀ j,j<4*k→cs[j]? = some (cw x j):=fun j b=>by rw[d,List.getElem?_map,List.getElem?_range b];rfl
 have q:w.there g (n*4) cs.length:=fun j b=>by
  have:=h.th (n*4+j) oM
  rwa[Nat.zero_add] at this
 refine ⟨w.setCells g (n*4) cs,fun l=>run_copy_s w _ _ l 44 g (n*4) (m-n) dc ⟨r,0,none⟩ sl sc 4 k cs uS4 i40 s oM (fun j v b=>?_) q (fun v hv=>?_),⟨by rw[RG.setCells_size];exact h.lt,World.there_setCells h.th _ _ _,fun i y=>?_⟩,fun B u=>RG.below_setCells u _ _ _ (Below.refl _ _)⟩
 ·have f:j<4*k:=by have:=(List.getElem?_eq_some_iff.1 b).1;omega
  rw[c j f] at b
  rw[Addr.add_mid,Nat.zero_add,e j f]
  exact b
 ·rw[d] at hv
  obtain ⟨i,-,rfl⟩:=List.mem_map.1 hv
  exact cw_one x i
 ·by_cases f:i<4*n
  ·rw[World.cell?_setCells_out g cs (n*4) w ⟨g,i,none⟩ (fun _ _=>Or.inl (by show i<n*4;omega))]
   exact h.c i f
  ·have b:i-n*4<cs.length:=oM
   have o:=World.cell?_setCells_in g cs (n*4) w (fun j b=>(q j b).1) (i-n*4) b
   rw[show n*4+(i-n*4)=i by omega] at o
   rw[o,← List.getElem?_eq_getElem b,c _ oM]
   unfold cw
   rw[show (i-n*4)%4=i%4 by omega]
theorem mul6_c (m:Nat) (c:m≤1000) (w:World):Calls Tryz.prog 208 #[.int .u64 1,.int .u64 m] w fun e w'=>e=.returned (.tuple #[.int .u64 0,.int .u64 m])∧w'=w:=by
 have d:bits .and .u64 1 4294967295=1:=rfl
 have a2:bits .and .u64 (m:Int) 4294967295=(m:Int):=by
  have h:=bits_and_u64_nat m 4294967295 oM oM
  rw[show (4294967295:Nat)=2^32-1 from rfl,Nat.and_two_pow_sub_one_eq_mod,Nat.mod_eq_of_lt oM] at h
  exact h
 have a0:bits .and .u64 0 4294967295=0:=rfl
 have k:(m:Int)/4294967296=0:=oM
 have b:IntKind.u64.wrap (m:Int)=(m:Int):=by rw[IntKind.wrap_u64];omega
 go_enter Tryz.func208,Tryz.ntmps208
 go_wp2
 go_ret2
 exact ⟨rfl,rfl⟩
theorem mulU_c (m:Nat) (k:m≤1000) (w:World):Calls Tryz.prog 188 #[.int .u64 1,.int .u64 m] w fun e w'=>e=.returned (.tuple #[.int .u64 0,.int .u64 m])∧w'=w:=by
 have h:=mul6_c m k w
 go_enter Tryz.func188,Tryz.ntmps188
 go_wp2_with fail
 refine h.mono ?_
 rintro e w' ⟨rfl,rfl⟩
 go_wp2
 go_ret2
 exact ⟨rfl,rfl⟩
theorem step_copy_r {P:Program} {k:Array Oper} {o:Oper} {a:Act} {w:World} {K:Act→World→Prop} {Q:Exit→Act→World→Prop} {E:Prop} (e:o.guard=none) (d s:Operand) (t b:TypeId)
 (ho:o.op=.call { callee:=.builtin .copy,args:=#[d,s],argTypes:=#[t,b] }) (v u:Value) (hd:a.eval d=v) (g:a.eval s=u)
 (c:Value) (w':World) (f:(Builtin.copy_ #[t,b] o.type #[v,u]).run P w=.ok c w') (h:K (a.put o.dst c) w'):if Region.wanted o (yielded k a.tmps)=true then Oper.wp P o a w K Q else E:=by
 have c:Region.wanted o (yielded k a.tmps)=true:=by simp[Region.wanted,e]
 rw[if_pos c]
 exact Lib.wp_copy_run w d s t b ho v u hd g f h
theorem repS_c (x r m:Nat) (S:m≤512) (w:World) (hR:Row w r (wn x)) :
 Calls Tryz.prog 137 #[.slice (some ⟨r,0,none⟩) 1 1,.int .i64 m] w (Ret fun e w'=>Below w.heap.size w w'∧SLq (w.heap.size≤·) w' e m (fun _=>x)):=by
 have T:=mulU_c m oM w
 have X:=oM
 have Y:IntKind.u64.wrap (m:Int)=(m:Int):=by rw[IntKind.wrap_u64];omega
 have Z:=oM
 obtain ⟨C0,u,A⟩:=mkArr uS4 iS4 m S
 obtain ⟨g,z⟩:=hE (w.heap.size)
 obtain ⟨L,p⟩:=hE (w.alloc (.cells C0.toArray 44))
 have F:=new_row z p
 have B:Rs g m 0 x L:=⟨F.2.1,by have:=F.2.2.2;rwa[u] at this,fun i G=>absurd G (Nat.not_lt_zero _)⟩
 have l:=hR.below F.1
 have s:∀ i,i<4→L.cell? ⟨r,i,none⟩=some (cw x i):=fun i G=>by
  have M:i=0∨i=1∨i=2∨i=3:=oM
  rcases M with rfl|rfl|rfl|rfl
  ·exact l.2.1 0 _ rfl
  ·exact l.2.1 1 _ rfl
  ·exact l.2.1 2 _ rfl
  ·exact l.2.1 3 _ rfl
 obtain ⟨a,d,c,f⟩:=B.copy (k:=Nat.min 1 m) (r:=r) (sl:=1) (sc:=1) (dc:=m) (by rw[Nat.sub_zero]) (Nat.zero_le _) (fun i G=>s i (by have:Nat.min 1 m≤1:=Nat.min_le_left _ _;omega))
 rw[Nat.sub_zero,Nat.zero_mul] at d
 rw[Nat.zero_add] at c
 have W:Hid (Below w.heap.size w a∧Rs g m (Nat.min 1 m) x a):=⟨F.1.trans (f _ (Nat.le_of_eq z.out)),c⟩
 have H:Nat.min 1 m≤m:=Nat.min_le_right _ _
 have K:0<m→0<Nat.min 1 m:=fun h=>by show 0<min 1 m;omega
 have b:=d 3
 have C:=A w
 rw[p.out,z.out] at C
 generalize Nat.min 1 m=P at *
 unfold goInt at b
 clear B l hR s f c d F A u p
 go_enter Tryz.func137,Tryz.ntmps137
 go_wp2_with fail
 refine T.mono ?_
 rintro e w' ⟨rfl,rfl⟩
 go_wp2_with (at_builtin;refine Lib.wpList_copy_run _ rfl _ _ 143 143 rfl _ _ rfl rfl b ?_)
 go_loopg [8] m (fun gk s8 wr=>∃ n:Nat,n≤m∧(0<m→0<n)∧m≤n+gk∧s8=.int .i64 n∧Hid (Below w'.heap.size w' wr∧Rs g m n x wr))
 case atStart=>exact ⟨P,H,K,oM,rfl,W⟩
 case round =>
  obtain ⟨n,y,N,U,rfl,o⟩:=hrel
  by_cases J:n<m
  ·have D:=oM
   have V:0<Nat.min n (m-n):=by show 0<min n (m-n);omega
   have I:n+Nat.min n (m-n)≤m:=by show n+min n (m-n)≤m;omega
   have Q:Nat.min n (m-n)≤n:=Nat.min_le_left _ _
   have q:Rs g m n x wr.drew:=⟨o.2.lt,o.2.th,o.2.c⟩
   obtain ⟨a,d,c,f⟩:=q.copy (k:=Nat.min n (m-n)) (r:=g) (sl:=n) (sc:=m) (dc:=m-n) rfl y (fun i G=>q.c i oM)
   have b:=d 3
   have O:=slS_hi g 0 m m n y
   have E:=slS_lo g 0 m m n J (Nat.le_refl _)
   rw[Nat.zero_add] at E
   have R:Hid (Below w'.heap.size w' a∧Rs g m (n+Nat.min n (m-n)) x a):=⟨o.out.1.drew.trans (f _ (Nat.le_of_eq z.out)),c⟩
   generalize Nat.min n (m-n)=k at *
   unfold goInt at b
   clear d c f q o
   go_wp2_with fail
   go_region_law (refine step_copy_r rfl (.tmp 41) (.tmp 44) 143 143 rfl (.slice (some ⟨g,n*4,none⟩) (m-n) (m-n)) (.slice (some ⟨g,0,none⟩) n m) (by simp[Act.eval,Act.put]) (by simp[Act.eval,Act.put]) _ _ b ?_)
   go_wp2
   go_roundg (gk-1)
   case measure=>omega
   case rel=>exact ⟨n+k,I,fun _=>oM,oM,congrArg (Value.int IntKind.i64) (show IntKind.i64.wrap ((n:Int)+(k:Int))=((n+k:Nat):Int) by rw[IntKind.wrap_i64];omega),R⟩
  ·have D:=oM
   obtain rfl:n=m:=oM
   have E:Hid (Below w'.heap.size w' wr∧SLq (w'.heap.size≤·) wr (.slice (some ⟨g,0,none⟩) n n) n (fun _=>x)):=⟨o.1,g,0,n,rfl,Nat.le_refl _,Nat.le_of_eq z.out,o.2.lt,fun j I t v q=>by
    have M:t<4:=(List.getElem?_eq_some_iff.1 q).1
    rw[Nat.zero_add,o.2.c (4*j+t) oM]
    unfold cw
    rw[show (4*j+t)%4=t by omega,List.getD_eq_getElem?_getD,q]
    rfl⟩
   go_wp2
   go_ret
   exact ⟨_,rfl,E.out⟩
theorem shift_c (O:Ord N) (b:2<N) (y z:Nat) (d:y<N) (c:z<N) (n:Nat) (k:n≤512) (w:World) :
 Calls Tryz.prog 80 #[nv y,nv z,.int .i64 n] w (Ret fun e w'=>Below w.heap.size w w'∧∃ l r,e=.tuple #[l,r]∧SLq (w.heap.size≤·) w' l n (fun _=>sMi N 0 z)∧SLq (w.heap.size≤·) w' r n (fun i=>sPl N (sTi N z (pwN N y i)) (sTi N (sTi N z z) (pwN N 2 i)))):=
 shf_c O b y z d c n k w fun x g W hR=>repS_c x g n k W hR
def trnT (N y:Nat) (H:Nat→List (Nat × Bs)) (i:Nat):List (Nat × Bs):=(H i).map (tmT N (pwN N (sIn N y) i))
theorem turn_c (O:Ord N) {Q:Nat→Prop} (n:Nat) (hu:0<n) (hn:n≤64) (G H:Nat→List (Nat × Bs)) (U:List (Nat × Bs)) (hH:∀ i,i<n→TOk N (H i)∧(H i).length≤512) (hU:TOk N U) (k9:U.length≤512) (y z:Nat) (hy:y<N) (hz:z<N) (v:Value) (w:World) (hQ:∀ g,w.heap.size≤g→Q g) (h0:GRq Q w v n G H U) :
 Calls Tryz.prog 91 #[v,nv y,nv z] w (Ret fun e w'=>Below w.heap.size w w'∧GRq Q w' e n G (trnT N y H) (U.map (tmT N z))):=by
 obtain ⟨vg,vh,vu,rfl,h3,h4,h5⟩:=h0.ex
 obtain ⟨J,K,E,eg⟩:∃ g o c,vg=.slice (some ⟨g,o,none⟩) n c:=by obtain ⟨g,o,c,h,-⟩:=h3;exact ⟨g,o,c,h⟩
 subst eg
 obtain ⟨R,M,ch,rfl,kc,ke,k3,ht⟩:=h4
 obtain ⟨C,B⟩:=hE (sIn N y)
 have k1:C<N:=by rw[← B.out];exact Nat.mod_lt _ O.pos
 have HI:=mk1 (fun W=>sInv2_c O y hy W)
 rw[B.out] at HI
 obtain ⟨vy,h8⟩:=hE (nv y)
 obtain ⟨vz,t⟩:=hE (nv z)
 obtain ⟨k,hk⟩:=hE (w.heap.size)
 obtain ⟨w1,hc⟩:=hE (w.alloc (.cells [.slice (some ⟨J,K,none⟩) n E,.slice (some ⟨R,M,none⟩) n ch,vu].toArray 150))
 obtain ⟨k4,h9⟩:=hE (w1.heap.size)
 obtain ⟨Y,hj⟩:=hE (w1.alloc (.cells (wn y).toArray 44))
 obtain ⟨k5,ha⟩:=hE (Y.heap.size)
 obtain ⟨w3,hm⟩:=hE (Y.alloc (.cells (wn z).toArray 44))
 obtain ⟨k6,L⟩:=hE (w3.heap.size)
 obtain ⟨r,hl⟩:=hE (w3.alloc (.cells [.slice none 0 0,.slice none 0 0,.slice none 0 0].toArray 150))
 have f:=box3 hk hc h9 hj ha hm
 have g6:=new_row L hl
 have F:=mk5 (f.1.trans (g6.1.mono f.1.size)) (f.2.1.below g6.1) (f.2.2.1.below g6.1) (f.2.2.2.below g6.1) g6.2
 have T:w.heap.size≤k6:=by rw[← L.out];exact f.1.size
 obtain ⟨v0,he⟩:=hE (Value.agg #[.slice (some ⟨J,K,none⟩) n E,.slice (some ⟨R,M,none⟩) n ch,vu])
 have B0:Hid ((Instr.box 150 v0).run Tryz.prog w=.ok (.pointer (some ⟨k,0,none⟩)) w1):=by rw[← he.out,← hc.out,← hk.out];exact boxG _ _ _ _
 have B1:Hid ((Instr.box 44 vy).run Tryz.prog w1=.ok (.pointer (some ⟨k4,0,none⟩)) Y):=by rw[← h8.out,← hj.out,← h9.out];exact boxS y w1
 have B2:Hid ((Instr.box 44 vz).run Tryz.prog Y=.ok (.pointer (some ⟨k5,0,none⟩)) w3):=by rw[← t.out,← hm.out,← ha.out];exact boxS z Y
 rw[h8.out,t.out,he.out]
 have HT:=mk2 hH (fun (W:World) (d:Below w.heap.size w W)=>sumTimes_c O hz 0 vu U k9 hU.szm hU.lt W (h5.sm.grow d))
 rw[t.out] at HT
 have X:=mk2 ht k3
 have HK:=mk3 h3 hQ B
 go_enter Tryz.func91,Tryz.ntmps91
 go_wp2_with (first|(refine wpList_box (u:=v0) (v:=.pointer (some ⟨k,0,none⟩)) (w':=w1) rfl _ (.tmp 0) rfl ?_ ?_ ?_;rfl;exact B0.out)|(refine wpList_box (u:=vy) (v:=.pointer (some ⟨k4,0,none⟩)) (w':=Y) rfl _ (.tmp 1) rfl ?_ ?_ ?_;rfl;exact B1.out)|(refine wpList_box (u:=vz) (v:=.pointer (some ⟨k5,0,none⟩)) (w':=w3) rfl _ (.tmp 2) rfl ?_ ?_ ?_;rfl;exact B2.out)|(refine alR 6 L hl ?_)|fail)
 obtain ⟨b,d⟩:=hE (r.heap.size)
 have hp:∀ {W},Below r.heap.size r W→b≤W.heap.size:=fun h=>d.out ▸ h.size
 refine (RG.gwL [RG.pE (nv y),RG.pE (nv C),RG.pE (.pointer (some ⟨k,1,none⟩)),RG.pE (.slice (some ⟨R,M,none⟩) n ch),RG.pE (.int .i64 n),pZ b n (pwN N C),RG.pN b [.slice none 0 0]] (fun W=>Below r.heap.size r W) (fun W W' d h=>h.trans (d.mono h.size))).tail2 7 kR kR kR ⟨
  RG.gLo 4 (fun W s=>(F.2.2.1.below s).2.1) u40 i40,
  RG.gw_c1 0 9 144 (fun x=>#[x]) (fun x W j s=>by
   obtain rfl:x=nv y:=j
   exact HI W),
  RG.gP 3 (.pointer (some ⟨k,0,none⟩)) (.pointer (some ⟨k,1,none⟩)),
  RG.gw_l1 148 2 11 k 1 (.slice (some ⟨R,M,none⟩) n ch) uGL (fun x W h=>h) (fun W s=>(F.2.1.below s).2.1 1 _ rfl) (fun _=>rfl),
  RG.gw_n 3 12 (.slice (some ⟨R,M,none⟩) n ch) (.int .i64 n) (fun x W h=>h) (fun _=>rfl),
  RG.gw_c2 1 10 4 13 83 (fun x y=>#[x,y]) (fun x u W j D s=>by
   obtain rfl:x=nv C:=j
   obtain rfl:u=.int .i64 n:=D
   exact (pow_z O C k1 n oM W).mono fun e W' ⟨v,l,A,h3,h4⟩=>⟨v,l,A,h3.from (hp s),h4⟩),
  RG.gw_a [.slice none 0 0] 143 (fun W W' h s=>⟨_,rfl,hp s,h⟩),trivial⟩ ⟨rfl,rfl,rfl,Nat.le_refl _,fun _ _=>rfl⟩ ?_
 intro V w5 hR s
 obtain ⟨S1,g1,c1,e5⟩:=hR 5 dC
 rw[e5] at S1
 obtain ⟨k7,e6,l7,R7⟩:=hR 6 dC
 dsimp only[RG.putV,Nat.reduceAdd,List.take,List.drop]
 simp only[Act.put,List.setIfInBounds_toArray,List.set_cons_succ,List.set_cons_zero]
 rw[e5,e6]
 have n7:=sl_ne S1 hu R7 (by simp)
 obtain ⟨l1,P⟩:=hE (Value.slice (some ⟨g1,0,none⟩) n c1)
 obtain ⟨w6,h6⟩:=hE (w5.setCells k7 0 [l1])
 have I:Hid (Below r.heap.size r w6∧Row w6 k7 [l1]∧SLq (b≤·) w6 l1 n (pwN N C)):=by
  rw[← h6.out,← P.out]
  exact ⟨RG.below_setCells (by rw[d.out];exact l7) _ _ _ s,R7.put rfl,sl_set S1 n7⟩
 have S:=mk2 R7.2.2 (show l1.cells=#[l1]∧l1.oneCell'=true by rw[← P.out];exact ⟨rfl,rfl⟩)
 rw[P.out]
 refine st1R (w:=w5) 7 h6 S.1 iSl S.2.1 S.2.2 ?_
 have kf:=(F.2.1.below I.1).2.1 1 _ rfl
 have hr:=F.1.trans (I.1.mono F.1.size)
 have HL:=mk1 (listOfM_c n oM 148 #[.pointer (some ⟨k,0,none⟩),.pointer (some ⟨k7,0,none⟩)] (fun _ _=>kR) (trnT N y H) w6 fun i W hi A=>by
  have bb:=hr.trans (A.mono hr.size)
  obtain ⟨x,l,Z⟩:=X.1 i hi
  have T1:=I.2.2.keep (Kq.of_below A)
  have Rb:=I.2.1.below A
  obtain ⟨D,hw,k8,j,-,-,t1,f1⟩:=T1
  rw[j] at Rb
  have hT:=trn1_c O (H i) (HT.1 i hi).1 (HT.1 i hi).2 (pwN N C i) (pwN_lt O C i) i k k7 R M n ch D hw n k8 _ vu x hi hi W (Nat.lt_of_lt_of_le X.2 bb.size) t1 ((F.2.1.below I.1).below A) Rb (by rw[Nat.one_mul,bb.cell (p:=⟨R,M+i,none⟩) X.2];exact l) (Z.sm.grow bb) (f1 i hi)
  rw[← B.out] at hT
  exact hT)
 go_wp2_with fail
 refine HL.mono ?_
 rintro e w7 ⟨vn,rfl,k0,hq⟩
 have ka:=I.1.trans (k0.mono I.1.size)
 obtain ⟨gn,on,Z,en⟩:∃ g o c,vn=.slice (some ⟨g,o,none⟩) n c:=by obtain ⟨g,o,c,h,-⟩:=hq;exact ⟨g,o,c,h⟩
 subst en
 have D:=mk3 ka (hq.mono (Q':=(r.heap.size≤·)) fun g hg=>Nat.le_trans I.1.size hg) T
 go_wp2_with fail
 refine AW.begin 8 8 ?_
 refine AW.va 0 (.pointer (some ⟨k,0,none⟩)) ?_
 refine AW.ce 1 uGL (fun W d=>((F.2.1.below D.1).below d).2.1 0 _ rfl) ?_
 refine AW.mv 2 ?_
 refine AW.va 3 (.pointer (some ⟨k,2,none⟩)) ?_
 refine AW.ce 4 uSum (fun W d=>((F.2.1.below D.1).below d).2.1 2 _ rfl) ?_
 refine AW.ro 5 (fun W d=>((F.2.2.2.1.below D.1).below d).2.1) t u40 i40 ?_
 have j:=mk1 (F.1.trans (D.1.mono F.1.size))
 refine AW.ca 6 (fun d=>HT.2 _ (j.trans (d.mono j.size))) (fun e w' h=>h.1) ?_
 rintro e w8 ⟨kd,h7⟩
 obtain ⟨ge,me,ce,ee⟩:∃ g m c,e=.slice (some ⟨g,0,none⟩) m c:=by obtain ⟨g,c,h,-⟩:=h7;exact ⟨g,_,c,h⟩
 subst ee
 refine AW.nx 7 (.agg #[.slice (some ⟨J,K,none⟩) n E,.slice (some ⟨gn,on,none⟩) n Z,.slice (some ⟨ge,0,none⟩) me ce]) ?_
 refine AW.fi (us:=[.slice (some ⟨J,K,none⟩) n E,.slice (some ⟨gn,on,none⟩) n Z,.slice (some ⟨ge,0,none⟩) me ce]) (Hid.mk' rfl) kR iGr (fun d=>?_)
 obtain ⟨w9,l⟩:=hE (w8.setCells k6 0 [.slice (some ⟨J,K,none⟩) n E,.slice (some ⟨gn,on,none⟩) n Z,.slice (some ⟨ge,0,none⟩) me ce])
 have KE:Hid (w8.there k6 0 3∧Row w9 k6 [.slice (some ⟨J,K,none⟩) n E,.slice (some ⟨gn,on,none⟩) n Z,.slice (some ⟨ge,0,none⟩) me ce]∧Below w.heap.size w w9∧GRq Q w9 (.agg #[.slice (some ⟨J,K,none⟩) n E,.slice (some ⟨gn,on,none⟩) n Z,.slice (some ⟨ge,0,none⟩) me ce]) n G (trnT N y H) (U.map (tmT N z))):=by
  have kb:=D.1.trans (d.mono D.1.size)
  have r6:=F.2.2.2.2.below kb
  have l6:=F.2.2.2.2.1
  have kq:Kq (r.heap.size≤·) w8 w9:=by rw[← l.out];exact Kq.set fun g hg=>oM
  have k2:Kq Q w w9:=by
   have hs:Below w.heap.size w (w8.setCells k6 0 [.slice (some ⟨J,K,none⟩) n E,.slice (some ⟨gn,on,none⟩) n Z,.slice (some ⟨ge,0,none⟩) me ce]):=RG.below_setCells T _ _ _ (j.trans (d.mono j.size))
   rw[l.out] at hs
   exact Kq.of_below hs
  rw[← l.out]
  refine ⟨r6.2.2,r6.put rfl,RG.below_setCells T _ _ _ (j.trans (d.mono j.size)),?_⟩
  rw[l.out]
  have q:∀ g,r.heap.size≤g→Q g:=fun g hg=>HK.2.1 g (Nat.le_trans F.1.size hg)
  exact ⟨_,_,_,rfl,HK.1.keep k2,((D.2.1.keep (Kq.of_below d)).keep kq).mono q,((h7.q.mono fun g hg=>Nat.le_trans D.1.size hg).keep kq).mono q⟩
 rw[l.out]
 refine ⟨KE.1,?_⟩
 go_wp2_with fail
 refine bodyPost_ret (results_cell 6 150 rfl KE.2.1 rfl uGr iGr) rfl ?_
 exact ⟨_,rfl,KE.2.2.1,KE.2.2.2⟩
end
section
open Go.RowKit Go.Sort Go.Deep
variable {N:Nat}
section
variable {P:Program} {ops:Array Oper} {Q:Exit→Act→World→Prop} {p r:Nat} {I:Iv} {fuel:Nat} {o:Oper} {listed:Array Bool} {a:Act} {w:World} {d:Option Tmp}
theorem AW.fc {f:FuncId} {args:Array Value} {R:Value→World→Prop} (c:I.p w→Calls P f args w (Ret R)) (h:∀ e w',I.p w→R e w'→Q .normal (a.put d e) w') (ho:ops[p]? = some o:=by (simp only[List.getElem?_toArray,List.getElem?_cons_succ,List.getElem?_cons_zero])<;>rfl) (hd:o.dst=d:=by rfl) (g:o.guard=none:=by rfl) (hx:(execOp a.eval o).run P w=.ok (.enter f args) w:=by kernel_rfl) (k:(Region.ready .any ops listed,Region.ready .any ops (listed.setIfInBounds p true),I.b,(listed.setIfInBounds p true).getD p false,(listed.setIfInBounds p true).getD r false)=([p],[],true,true,true):=by kernel_rfl):AW P ops Q p r I (fuel+1) listed a w:=fun b=>by
 simp only[Prod.mk.injEq] at k
 exact anyS.cal ho (c b) (fun e w' hR=>⟨Or.inl k.2.2,anyS.done k.2.1 (h e w' b hR) _⟩) k.1 g hx hd
end
theorem rnF {W:World} {k o:Nat} {xs ys:List Value} (h:W.rangeAt k o (xs++ys)):W.rangeAt k o xs:=fun j v b=>h j v (by rw[List.getElem?_append_left (List.getElem?_eq_some_iff.1 b).1];exact b)
theorem rnB {W:World} {k o m:Nat} {xs ys:List Value} (h:W.rangeAt k o (xs++ys)) (c:o+xs.length=m):W.rangeAt k m ys:=fun j v b=>by
 have:=h (xs.length+j) v (by rw[List.getElem?_append_right oM,Nat.add_sub_cancel_left];exact b)
 rw[← Nat.add_assoc,c] at this
 exact this
theorem rnC {W:World} {k o m:Nat} {xs ys:List Value} (e:W.rangeAt k o xs) (c:W.rangeAt k m ys) (d:o+xs.length=m):W.rangeAt k o (xs++ys):=fun j v b=>by
 by_cases h:j<xs.length
 ·exact e j v (by rwa[List.getElem?_append_left h] at b)
 ·rw[List.getElem?_append_right oM] at b
  have:=c (j-xs.length) v b
  rwa[← d,Nat.add_assoc,Nat.add_sub_cancel' oM] at this
theorem Row.mid {W:World} {k m:Nat} {xs ys zs us l l':List Value} (h:Row W k l) (e:l=xs++(ys++zs)) (e':l'=xs++(us++zs)) (c:us.length=ys.length) (g:xs.length=m):W.there k m us.length∧Row (W.setCells k m us) k l':=by
 subst e e' g
 obtain ⟨i,b,d⟩:=h
 have f:W.there k xs.length us.length:=fun j n=>by
  have:=d (xs.length+j) (by simp only[List.length_append];omega)
  rwa[Nat.zero_add] at this
 have z:=Nat.zero_add xs.length
 refine ⟨f,by rw[RG.setCells_size];exact i,rnC (World.rangeAt_setCells_apart (rnF b) k _ us (Or.inr (Or.inl oM))) (rnC (World.rangeAt_setCells_same W k _ us f) (World.rangeAt_setCells_apart (rnB (rnB b z) rfl) k _ us (Or.inr (Or.inr oM))) (by rw[c])) z,?_⟩
 have:=World.there_setCells d k xs.length us
 simp only[List.length_append,c] at this ⊢
 exact this
structure Rp where
 a:Bs
 s:Bs
 c:Bs
 d:Bs
 u:Nat
 m:Nat
 t:Nat
namespace Rp
def l (p:Rp):List Value:=bl33 p.a++(bl33 p.s++(bl33 p.c++(bl33 p.d++(wn p.u++(wn p.m++wn p.t)))))
structure Ok (p:Rp):Prop where
 a:p.a.size=33
 s:p.s.size=33
 c:p.c.size=33
 d:p.d.size=33
variable {p:Rp} {W:World} {k:Nat}
theorem len (h:p.Ok):p.l.length=144:=by
 unfold l
 simp only[List.length_append,bl33_length h.a,bl33_length h.s,bl33_length h.c,bl33_length h.d]
 rfl
theorem one (p:Rp):p.l.toArray.all (·.oneCell')=true:=by
 unfold l
 have h:∀ b:Bs,(bl33 b).all (·.oneCell')=true:=fun b=>by have:=bl33_one b;rwa[List.all_toArray] at this
 have k:∀ n,(wn n).all (·.oneCell')=true:=fun n=>by have:=wn_one n;rwa[List.all_toArray] at this
 rw[List.all_toArray]
 simp only[List.all_append,h,k,Bool.and_true]
theorem at7 (h:p.Ok) (c:W.rangeAt k 0 p.l):W.rangeAt k 0 (bl33 p.a)∧W.rangeAt k 33 (bl33 p.s)∧W.rangeAt k 66 (bl33 p.c)∧W.rangeAt k 99 (bl33 p.d)∧W.rangeAt k 132 (wn p.u)∧W.rangeAt k 136 (wn p.m)∧W.rangeAt k 140 (wn p.t):=by
 have g:=rnB (m:=33) c (by rw[bl33_length h.a])
 have b:=rnB (m:=66) g (by rw[bl33_length h.s])
 have e:=rnB (m:=99) b (by rw[bl33_length h.c])
 have f:=rnB (m:=132) e (by rw[bl33_length h.d])
 have d:=rnB (m:=136) f rfl
 have i:=rnB (m:=140) d rfl
 exact ⟨rnF c,rnF g,rnF b,rnF e,rnF f,rnF d,i⟩
theorem seta (h:p.Ok) (b:Row W k p.l) {x:Bs} (hx:x.size=33):W.there k 0 (bl33 x).length∧Row (W.setCells k 0 (bl33 x)) k { p with a:=x }.l∧{ p with a:=x }.Ok:=by
 obtain ⟨d,c⟩:=Row.mid (xs:=[]) (us:=bl33 x) (l':={ p with a:=x }.l) b rfl rfl (by rw[bl33_length hx,bl33_length h.a]) rfl
 exact ⟨d,c,hx,h.s,h.c,h.d⟩
theorem sets (h:p.Ok) (b:Row W k p.l) {x:Bs} (hx:x.size=33):W.there k 33 (bl33 x).length∧Row (W.setCells k 33 (bl33 x)) k { p with s:=x }.l∧{ p with s:=x }.Ok:=by
 obtain ⟨d,c⟩:=Row.mid (xs:=bl33 p.a) (us:=bl33 x) (l':={ p with s:=x }.l) b rfl rfl (by rw[bl33_length hx,bl33_length h.s]) (bl33_length h.a)
 exact ⟨d,c,h.a,hx,h.c,h.d⟩
theorem setc (h:p.Ok) (b:Row W k p.l) {x:Bs} (hx:x.size=33):W.there k 66 (bl33 x).length∧Row (W.setCells k 66 (bl33 x)) k { p with c:=x }.l∧{ p with c:=x }.Ok:=by
 obtain ⟨e,d⟩:=Row.mid (m:=66) (xs:=bl33 p.a++bl33 p.s) (ys:=bl33 p.c) (zs:=bl33 p.d++(wn p.u++(wn p.m++wn p.t))) (us:=bl33 x) (l':={ p with c:=x }.l) b (by unfold l;simp only[List.append_assoc]) (by unfold l;simp only[List.append_assoc]) (by rw[bl33_length hx,bl33_length h.c]) (by rw[List.length_append,bl33_length h.a,bl33_length h.s])
 exact ⟨e,d,h.a,h.s,hx,h.d⟩
theorem setd (h:p.Ok) (b:Row W k p.l) {x:Bs} (hx:x.size=33):W.there k 99 (bl33 x).length∧Row (W.setCells k 99 (bl33 x)) k { p with d:=x }.l∧{ p with d:=x }.Ok:=by
 obtain ⟨e,c⟩:=Row.mid (m:=99) (xs:=bl33 p.a++(bl33 p.s++bl33 p.c)) (ys:=bl33 p.d) (zs:=wn p.u++(wn p.m++wn p.t)) (us:=bl33 x) (l':={ p with d:=x }.l) b (by unfold l;simp only[List.append_assoc]) (by unfold l;simp only[List.append_assoc]) (by rw[bl33_length hx,bl33_length h.d]) (by simp only[List.length_append,bl33_length h.a,bl33_length h.s,bl33_length h.c])
 exact ⟨e,c,h.a,h.s,h.c,hx⟩
theorem setu (h:p.Ok) (c:Row W k p.l) (x:Nat):W.there k 132 (wn x).length∧Row (W.setCells k 132 (wn x)) k { p with u:=x }.l∧{ p with u:=x }.Ok:=by
 obtain ⟨d,b⟩:=Row.mid (m:=132) (xs:=bl33 p.a++(bl33 p.s++(bl33 p.c++bl33 p.d))) (ys:=wn p.u) (zs:=wn p.m++wn p.t) (us:=wn x) (l':={ p with u:=x }.l) c (by unfold l;simp only[List.append_assoc]) (by unfold l;simp only[List.append_assoc]) rfl (by simp only[List.length_append,bl33_length h.a,bl33_length h.s,bl33_length h.c,bl33_length h.d])
 exact ⟨d,b,h.a,h.s,h.c,h.d⟩
theorem setm (h:p.Ok) (c:Row W k p.l) (x:Nat):W.there k 136 (wn x).length∧Row (W.setCells k 136 (wn x)) k { p with m:=x }.l∧{ p with m:=x }.Ok:=by
 obtain ⟨d,b⟩:=Row.mid (m:=136) (xs:=bl33 p.a++(bl33 p.s++(bl33 p.c++(bl33 p.d++wn p.u)))) (ys:=wn p.m) (zs:=wn p.t) (us:=wn x) (l':={ p with m:=x }.l) c (by unfold l;simp only[List.append_assoc]) (by unfold l;simp only[List.append_assoc]) rfl (by simp only[List.length_append,bl33_length h.a,bl33_length h.s,bl33_length h.c,bl33_length h.d];rfl)
 exact ⟨d,b,h.a,h.s,h.c,h.d⟩
theorem sett (h:p.Ok) (c:Row W k p.l) (x:Nat):W.there k 140 (wn x).length∧Row (W.setCells k 140 (wn x)) k { p with t:=x }.l∧{ p with t:=x }.Ok:=by
 obtain ⟨d,b⟩:=Row.mid (m:=140) (xs:=bl33 p.a++(bl33 p.s++(bl33 p.c++(bl33 p.d++(wn p.u++wn p.m))))) (ys:=wn p.t) (zs:=[]) (us:=wn x) (l':={ p with t:=x }.l) c (by unfold l;simp only[List.append_assoc,List.append_nil]) (by unfold l;simp only[List.append_assoc,List.append_nil]) rfl (by simp only[List.length_append,bl33_length h.a,bl33_length h.s,bl33_length h.c,bl33_length h.d];rfl)
 exact ⟨d,b,h.a,h.s,h.c,h.d⟩
end Rp
theorem uRd:(Tryz.prog.underlying 153).map (·.isRow)=some true:=kR
theorem iRd:(Tryz.prog.info? 153).map (·.size)=some 144:=kR
theorem boxR {p:Rp} (h:p.Ok) (w:World):(Instr.box 153 (.agg p.l.toArray)).run Tryz.prog w=.ok (.pointer (some ⟨w.heap.size,0,none⟩)) (w.alloc (.cells p.l.toArray 153)):=by
 unfold Rp.l
 rw[bl33_lit h.a,bl33_lit h.s,bl33_lit h.c,bl33_lit h.d]
 kernel_rfl
end
end Go.Proofs.YtlofhpkoaljmeaaGreat
