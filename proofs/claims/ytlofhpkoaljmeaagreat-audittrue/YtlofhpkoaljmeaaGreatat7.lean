import Derived.Deep.AppendSrc
import Derived.Test.YtlofhpkoaljmeaaGreatat6
set_option linter.unusedVariables false
set_option linter.constructorNameAsVariable false
set_option linter.unusedSimpArgs false
set_option maxRecDepth 1000000
set_option maxHeartbeats 4000000
namespace Go.Proofs.YtlofhpkoaljmeaaGreat
section
open Go.RowKit Go.Sort Go.Deep
variable {N:Nat}
theorem sayR (r:Nat) (L:Bs) (k:ByteArray) (d:Option Addr) (f g:Nat) (b:List UInt8) (w:World) (c:k.size≤1048576) (m:Holds encB w r 0 L) (j:L.size=32) (o:SP.PartOk w (.slice d f g) b) :
 Calls Tryz.prog 134 #[.pointer (some ⟨r,0,none⟩),.string k,.slice d f g] w (Ret fun e w'=>e=.tuple #[]∧SP.Only r 0 32 w w'∧Holds encB w' r 0 (SP.sayL L k.data.toList b)):=
 (SP.Say_any r L k d f g b w c (sp_h m) j o).mono fun _ _ ⟨n,i,l⟩=>⟨_,n,rfl,i,sp_k l⟩
def bgL (V:Bs) (n:Nat) (A S:Bs):Bs:=saidF [102,105,114,115,116] [115,101,99,111,110,100] (SP.sayL (SP.sayL (SP.newL [114,97,110,103,101]) [99,111,109,109,105,116] V.toList) [98,105,116,115] [SP.lenB n 1]) A S
structure BgI (w W:World) (k r:Nat) (p:Rp) (V:Bs) (y z:Nat) (L:Bs):Prop where
 bl:Below w.heap.size w W
 r3:Row W k p.l
 r4:Row W (k+1) (bl33 V)
 r6:Row W (k+2) [.pointer (some ⟨r,0,none⟩)]
 r7:Row W (k+3) (wn y)
 r8:Row W (k+4) (wn z)
 rk:w.heap.size=k∧k+5≤r
 lg:Holds encB W r 0 L
 ls:L.size=32
section
variable {w W W':World} {k r:Nat} {p:Rp} {V:Bs} {y z:Nat} {L L':Bs}
theorem BgI.lt (h:BgI w W k r p V y z L):r<W.heap.size:=Holds.lt h.lg (by rw[h.ls];decide)
theorem BgI.grow (h:BgI w W k r p V y z L) (b:Below W.heap.size W W'):BgI w W' k r p V y z L:=
 ⟨h.bl.trans (b.mono h.bl.size),h.r3.below b,h.r4.below b,h.r6.below b,h.r7.below b,h.r8.below b,h.rk,Holds.below h.lg b h.lt,h.ls⟩
theorem BgI.say (h:BgI w W k r p V y z L) (b:SP.Only r 0 32 W W') (d:Holds encB W' r 0 L') (c:L'.size=32):BgI w W' k r p V y z L':=by
 have e:=h.rk.2
 have f:=h.rk.1
 exact ⟨h.bl.trans (only_new b h.bl.size oM),h.r3.only b oM,h.r4.only b oM,h.r6.only b oM,h.r7.only b oM,h.r8.only b oM,h.rk,d,c⟩
theorem BgI.put (h:BgI w W k r p V y z L) (c b:Nat) (j:Nat) (us:List Value) (l:j<5) (e:Row (W.setCells (k+j) 0 us) (k+2) [.pointer (some ⟨r,0,none⟩)]) (f:Row (W.setCells (k+j) 0 us) (k+3) (wn c)) (d:Row (W.setCells (k+j) 0 us) (k+4) (wn b)) (g:2≤j):BgI w (W.setCells (k+j) 0 us) k r p V c b L:=by
 have i:=h.rk.2
 have m:=h.rk.1
 exact ⟨RG.below_setCells oM _ _ _ h.bl,row_set h.r3 oM,row_set h.r4 oM,e,f,d,h.rk,holds_set h.lg oM,h.ls⟩
theorem BgI.p6 (h:BgI w W k r p V y z L) (e:Hid (W.setCells (k+2) 0 [.pointer (some ⟨r,0,none⟩)]=W')):BgI w W' k r p V y z L:=by
 rw[← e.out]
 exact h.put y z 2 _ oM (h.r6.put rfl) (row_set h.r7 oM) (row_set h.r8 oM) oM
theorem BgI.p7 (h:BgI w W k r p V y z L) {b:Nat} (e:Hid (W.setCells (k+3) 0 (wn b)=W')):BgI w W' k r p V b z L:=by
 rw[← e.out]
 exact h.put b z 3 _ oM (row_set h.r6 oM) (h.r7.put rfl) (row_set h.r8 oM) oM
theorem BgI.p8 (h:BgI w W k r p V y z L) {b:Nat} (e:Hid (W.setCells (k+4) 0 (wn b)=W')):BgI w W' k r p V y b L:=by
 rw[← e.out]
 exact h.put y b 4 _ oM (row_set h.r6 oM) (row_set h.r7 oM) (h.r8.put rfl) oM
end
theorem results_ccc {P:Program} {x:Func} {tmps:Array Value} {W:World} {k o e:Nat} {vs us n:List Value} (t w g:Tmp) (T m c:TypeId) (B:x.results=#[.cell t T,.cell w m,.cell g c]) (h:Row W k vs) (z:Row W o us) (q:Row W e n) (E:tmps[t]? = some (.pointer (some ⟨k,0,none⟩))) (u:tmps[w]? = some (.pointer (some ⟨o,0,none⟩))) (l:tmps[g]? = some (.pointer (some ⟨e,0,none⟩)))
 (v:(P.underlying T).map (·.isRow)=some true) (C:(P.info? T).map (·.size)=some vs.length) (f:(P.underlying m).map (·.isRow)=some true) (s:(P.info? m).map (·.size)=some us.length) (b:(P.underlying c).map (·.isRow)=some true) (i:(P.info? c).map (·.size)=some n.length):(results x tmps).run P W=.ok (.tuple #[.agg vs.toArray,.agg us.toArray,.agg n.toArray]) W:=by
 obtain ⟨d,v,hd⟩:=Option.map_eq_some_iff.1 v
 obtain ⟨D,f,r⟩:=Option.map_eq_some_iff.1 f
 obtain ⟨p,b,j⟩:=Option.map_eq_some_iff.1 b
 have A:=run_loadVar_mid (P:=P) W k 0 T vs d h.2.1 v hd C
 have y:=run_loadVar_mid (P:=P) W o 0 m us D z.2.1 f r s
 have a:=run_loadVar_mid (P:=P) W e 0 c n p q.2.1 b j i
 unfold results
 simp[B,E,u,l,A,y,a,asAddr]
theorem beg_c (O:Ord N) (p:Rp) (hp:p.Ok) (V:Bs) (hV:V.size=33) (n:Nat) (hn:n<256) (w:World) :
 Calls Tryz.prog 79 #[.agg p.l.toArray,pvl V,.int .i64 n] w (Ret fun e w'=>Below w.heap.size w w'∧∃ r,e=.tuple #[lgV r,nv (chS N (bgL V n p.a p.s)),nv (chS N (wentF (bgL V n p.a p.s)))]∧w.heap.size≤r∧Holds encB w' r 0 (wentF (wentF (bgL V n p.a p.s)))):=by
 obtain ⟨L0,B⟩:=hE (SP.newL [114,97,110,103,101])
 obtain ⟨L1,x⟩:=hE (SP.sayL L0 [99,111,109,109,105,116] V.toList)
 obtain ⟨S,g⟩:=hE (SP.sayL L1 [98,105,116,115] [SP.lenB n 1])
 have e3:bgL V n p.a p.s=saidF [102,105,114,115,116] [115,101,99,111,110,100] S p.a p.s:=by unfold bgL;rw[B.out,x.out,g.out]
 have s0:L0.size=32:=by rw[← B.out];exact SP.newL_size _
 have s1:L1.size=32:=by rw[← x.out];exact SP.sayL_size _ _ _
 have s2:S.size=32:=by rw[← g.out];exact SP.sayL_size _ _ _
 obtain ⟨L3,X⟩:=hE (saidF [102,105,114,115,116] [115,101,99,111,110,100] S p.a p.s)
 obtain ⟨M,E⟩:=hE (wentF L3)
 obtain ⟨L5,a⟩:=hE (wentF M)
 have s4:M.size=32:=by rw[← E.out];exact SP.askedL_size _ _
 have s5:L5.size=32:=by rw[← a.out];exact SP.askedL_size _ _
 obtain ⟨y,hy⟩:=hE (chS N L3)
 obtain ⟨z,hz⟩:=hE (chS N M)
 rw[e3,X.out,E.out,a.out,hy.out,hz.out]
 have HA:Hid (∀ (r:Nat) (W:World),Holds encB W r 0 S→Calls Tryz.prog 135 #[lgV r,.string ⟨#[102,105,114,115,116]⟩,pvl p.a,.string ⟨#[115,101,99,111,110,100]⟩,pvl p.s] W (Ret fun e w'=>SP.Only r 0 32 W w'∧Holds encB w' r 0 M∧e=nv y)):=fun r W h=>by
  rw[← hy.out,← E.out,← X.out]
  exact chAfter_c O r S p.a p.s ⟨#[102,105,114,115,116]⟩ ⟨#[115,101,99,111,110,100]⟩ dC dC hp.a hp.s W h s2
 have HC:Hid (∀ (r:Nat) (W:World),Holds encB W r 0 M→Calls Tryz.prog 136 #[lgV r] W (Ret fun e w'=>SP.Only r 0 32 W w'∧Holds encB w' r 0 L5∧e=nv z)):=fun r W h=>by
  rw[← hz.out,← a.out]
  exact challS_c O r M W h s4
 have HN:Hid (∀ W:World,Calls Tryz.prog 133 #[.string ⟨#[114,97,110,103,101]⟩] W (Ret fun e w'=>Below W.heap.size W w'∧∃ r,e=lgV r∧W.heap.size≤r∧r<w'.heap.size∧Holds encB w' r 0 L0)):=fun W=>by
  rw[← B.out]
  exact newLogS_c ⟨#[114,97,110,103,101]⟩ W dC
 obtain ⟨k,hk⟩:=hE (w.heap.size)
 obtain ⟨P,D⟩:=hE (w.alloc (.cells p.l.toArray 153))
 obtain ⟨w2,G⟩:=hE (P.alloc (.cells (bl33 V).toArray 51))
 obtain ⟨w3,I⟩:=hE (w2.alloc (.cells [.pointer none].toArray 159))
 obtain ⟨w4,H⟩:=hE (w3.alloc (.cells (RG.z 4).toArray 44))
 obtain ⟨w5,C⟩:=hE (w4.alloc (.cells (RG.z 4).toArray 44))
 have z1:Hid (P.heap.size=k+1):=by rw[← D.out,World.size_alloc,hk.out];rfl
 have z2:Hid (w2.heap.size=k+2):=by rw[← G.out,World.size_alloc,z1.out];rfl
 have z3:Hid (w3.heap.size=k+3):=by rw[← I.out,World.size_alloc,z2.out];rfl
 have z4:Hid (w4.heap.size=k+4):=by rw[← H.out,World.size_alloc,z3.out];rfl
 have z5:Hid (w5.heap.size=k+5):=by rw[← C.out,World.size_alloc,z4.out];rfl
 have f1:=new_row hk D
 have f2:=new_row z1 G
 have f3:=new_row z2 I
 have f4:=new_row z3 H
 have f5:=new_row z4 C
 have Y:=f4.1.trans (f5.1.mono f4.1.size)
 have h6:=f3.1.trans (Y.mono f3.1.size)
 have Q:=f2.1.trans (h6.mono f2.1.size)
 have F:=mk6 (f1.1.trans (Q.mono f1.1.size)) (f1.2.below Q) (f2.2.below h6) (f3.2.below Y) (f4.2.below f5.1) f5.2
 obtain ⟨vp,h7⟩:=hE (Value.agg p.l.toArray)
 obtain ⟨vV,R⟩:=hE (pvl V)
 have B1:Hid ((Instr.box 153 vp).run Tryz.prog w=.ok (.pointer (some ⟨k,0,none⟩)) P):=by rw[← h7.out,← D.out,← hk.out];exact boxR hp w
 have B2:Hid ((Instr.box 51 vV).run Tryz.prog P=.ok (.pointer (some ⟨k+1,0,none⟩)) w2):=by rw[← R.out,← G.out,← z1.out];exact boxCP hV P
 rw[h7.out,R.out]
 have HP:=mk2 hp hV
 go_enter Tryz.func79,Tryz.ntmps79
 go_wp2_with (first|(refine wpList_box (u:=vp) (v:=.pointer (some ⟨k,0,none⟩)) (w':=P) rfl _ (.tmp 0) rfl ?_ ?_ ?_;rfl;exact B1.out)|(refine wpList_box (u:=vV) (v:=.pointer (some ⟨k+1,0,none⟩)) (w':=w2) rfl _ (.tmp 1) rfl ?_ ?_ ?_;rfl;exact B2.out)|(refine alR 6 z2 I ?_)|(refine alR 7 z3 H ?_)|(refine alR 8 z4 C ?_)|fail)
 refine (HN w5).mono ?_
 rintro e w6 ⟨uu,rfl,b,r,rfl,h0,hm,d⟩
 obtain ⟨w7,U⟩:=hE (w6.setCells (k+2) 0 [.pointer (some ⟨r,0,none⟩)])
 have h8:=mk1 (F.2.2.2.1.below b).2.2
 have K7:Hid (BgI w w7 k r p V 0 0 L0):=by
  rw[z5.out] at h0
  rw[← U.out]
  have c:=hk.out
  exact ⟨RG.below_setCells oM _ _ _ (F.1.trans (b.mono F.1.size)),row_set (F.2.1.below b) oM,row_set (F.2.2.1.below b) oM,(F.2.2.2.1.below b).put rfl,row_set (F.2.2.2.2.1.below b) oM,row_set (F.2.2.2.2.2.below b) oM,⟨hk.out,h0⟩,holds_set d oM,s0⟩
 unfold lgV
 go_wp2_with (first|(refine stR 6 U (Hid.mk' rfl) h8.out iLg kR ?_)|fail)
 refine AW.begin 4 4 ?_
 refine AW.va 0 (.pointer (some ⟨k+2,0,none⟩)) ?_
 refine AW.va 1 (.pointer (some ⟨k+2,0,none⟩)) ?_
 refine AW.ce 2 uLp (fun W s=>(K7.grow s).r6.2.1 0 _ rfl) ?_
 refine AW.va 3 (.slice (some ⟨k+1,0,none⟩) 33 33) ?_
 refine AW.fc (fun s=>sayR r L0 ⟨#[99,111,109,109,105,116]⟩ (some ⟨k+1,0,none⟩) 33 33 V.toList _ dC (K7.grow s).lg s0 (row_part HP.2 (K7.grow s).r4)) ?_
 rintro e w8 s ⟨rfl,t,d⟩
 rw[show (⟨#[99,111,109,109,105,116]⟩:ByteArray).data.toList=[99,111,109,109,105,116] from rfl,x.out] at d
 have K8:=mk1 ((K7.grow s).say t d s1)
 have c6:=K8.r6.2.1 0 _ rfl
 have h9:∀ W:World,(convert 3 5 (.int .i64 n)).run Tryz.prog W=.ok (.int .u8 (SP.ub (SP.lenB n 1))) W:=fun W=>by
  have c:=SP.lenB_one n
  rw[← c]
  rfl
 have HL:=mk1 (rfl:SP.lenB n 1=SP.lenB n 1)
 generalize SP.lenB n 1=o at g h9
 obtain ⟨w9,A⟩:=hE (w8.alloc (.cells #[.int .u8 (SP.ub o)] 5))
 obtain ⟨k9,h1⟩:=hE (w8.heap.size)
 have h5:Hid ((Instr.buildSlice 23 1 #[(0,.int .u8 (SP.ub o))]).run Tryz.prog w8=.ok (.slice (some ⟨k9,0,none⟩) 1 1) w9):=by rw[← A.out,← h1.out];show _=_;kernel_rfl
 have f9:Hid (Below w8.heap.size w8 w9∧Row w9 k9 [.int .u8 (SP.ub o)]):=by rw[← A.out,← h1.out];exact ⟨below1 _ _,row_new w8 [.int .u8 (SP.ub o)] 5⟩
 have K9:=mk2 (K8.grow f9.1) (show SP.PartOk w9 (.slice (some ⟨k9,0,none⟩) 1 1) [o] from ⟨_,k9,0,1,#[o],rfl,rfl,Nat.le_refl _,(by show 1≤1099511627776;decide),Or.inr ⟨rfl,fun j hj=>by
  obtain rfl:j=0:=by simp at hj;omega
  exact ⟨f9.2.2.1 0 _ rfl,(f9.2.2.2 0 Nat.one_pos).2⟩⟩⟩)
 go_wp2_with (first|(refine inR 20 (Instr.buildSlice 23 1 #[(0,.int .u8 (SP.ub o))]) h5.out ?_)|fail)
 refine (sayR r L1 ⟨#[98,105,116,115]⟩ (some ⟨k9,0,none⟩) 1 1 [o] w9 dC K9.1.lg s1 K9.2).mono ?_
 rintro e hc ⟨uu,rfl,rfl,t,d⟩
 rw[show (⟨#[98,105,116,115]⟩:ByteArray).data.toList=[98,105,116,115] from rfl,g.out] at d
 have KA:=mk1 (K9.1.say t d s2)
 clear K9 t d K8 f9 h5 A c6
 obtain ⟨vl,c⟩:=hE (lgV r)
 obtain ⟨vA,hvA⟩:=hE (pvl p.a)
 obtain ⟨vS,h4⟩:=hE (pvl p.s)
 have iA:(Tryz.prog.info? 51).map (·.size)=some (bl33 p.a).length:=by rw[bl33_length HP.1.a];exact iCP
 have iS:(Tryz.prog.info? 51).map (·.size)=some (bl33 p.s).length:=by rw[bl33_length HP.1.s];exact iCP
 have H7:=Rp.at7 HP.1 KA.r3.2.1
 have J:=mk1 (HA r hc KA.lg)
 rw[c.out,hvA.out,h4.out] at J
 go_wp2_with (first|(refine ldR 6 KA.r6.2.1 c uLg iLg ?_)|(refine ldR 23 H7.1 hvA uCP iA ?_)|(refine ldR 25 H7.2.1 h4 uCP iS ?_)|fail)
 refine J.mono ?_
 clear J H7
 rintro e he ⟨uu,rfl,t,d,rfl⟩
 have KB:=mk1 (KA.say t d s4)
 obtain ⟨h2,i⟩:=hE (he.setCells (k+3) 0 (wn y))
 obtain ⟨vy,f⟩:=hE (nv y)
 rw[f.out]
 go_wp2_with (first|(refine stR 7 i f KB.r7.2.2 i40 (wn_one y) ?_)|fail)
 have KC:=mk1 (KB.p7 i)
 refine AW.beg 6 6 ⟨fun W=>∃ z L,BgI w W k r p V y z L,fun _ _ s ⟨z,L,h⟩=>⟨z,L,h.grow s⟩,true⟩ ⟨_,_,KC.grow ⟨rfl,rfl,rfl,Nat.le_refl _,fun _ _=>rfl⟩⟩ ?_
 refine AW.ro 0 (fun W ⟨_,_,h⟩=>h.r6.2.1) c uLg iLg ?_
 refine AW.ro 1 (fun W ⟨_,_,h⟩=>h.r7.2.1) f u40 i40 ?_
 refine AW.ro 2 (fun W ⟨_,_,h⟩=>h.r6.2.1) c uLg iLg ?_
 have KD:=mk1 (KC.grow (W':=h2.drew) ⟨rfl,rfl,rfl,Nat.le_refl _,fun _ _=>rfl⟩)
 have Z:=mk1 (HC r h2.drew KD.lg)
 rw[c.out] at Z
 refine AW.cw 3 (fun _=>Z.out) (fun e w' _ h=>⟨_,_,KD.say h.1 h.2.1 s5⟩) ?_
 rintro e ha ⟨t,d,rfl⟩
 have KE:=mk1 (KD.say t d s5)
 obtain ⟨hi,l⟩:=hE (ha.setCells (k+2) 0 [.pointer (some ⟨r,0,none⟩)])
 obtain ⟨hg,q⟩:=hE (hi.setCells (k+3) 0 (wn y))
 obtain ⟨hl,m⟩:=hE (hg.setCells (k+4) 0 (wn z))
 have KF:=mk1 (KE.p6 l)
 have KG:=mk1 (KF.p7 q)
 have K:=mk1 (KG.p8 m)
 obtain ⟨vz,T⟩:=hE (nv z)
 rw[T.out]
 refine AW.ss 4 c kR iLg l (fun _=>⟨KE.r6.2.2,_,_,KF.out⟩) ?_
 refine AW.ss 5 f (wn_one y) i40 q (fun _=>⟨KF.r7.2.2,_,_,KG.out⟩) ?_
 refine AW.fi (us:=wn z) T (wn_one z) i40 (fun _=>⟨KG.r8.2.2,?_⟩)
 rw[m.out]
 go_wp2_with fail
 refine bodyPost_ret (results_ccc 6 7 8 159 44 44 rfl K.r6 K.r7 K.r8 rfl rfl rfl uLg iLg u40 i40 u40 i40) rfl ?_
 exact ⟨_,rfl,K.bl,r,rfl,by have:=K.rk;omega,K.lg⟩
end
section
open Go.RowKit Go.Sort Go.Deep
variable {N:Nat}
structure MdI (w W:World) (k r:Nat) (p:Rp) (y:Nat) (L:Bs):Prop where
 on:SP.Only r 0 32 w W
 r2:Row W k p.l
 r3:Row W (k+1) [.pointer (some ⟨r,0,none⟩)]
 r4:Row W (k+2) (wn y)
 rk:w.heap.size=k∧r<k
 lg:Holds encB W r 0 L
 ls:L.size=32
section
variable {w W W':World} {k r:Nat} {p:Rp} {y:Nat} {L L':Bs}
theorem MdI.lt (h:MdI w W k r p y L):r<W.heap.size:=Holds.lt h.lg (by rw[h.ls];decide)
theorem MdI.grow (h:MdI w W k r p y L) (b:Below W.heap.size W W'):MdI w W' k r p y L:=
 ⟨h.on.trans (SP.Only.of_below b rfl h.lt),h.r2.below b,h.r3.below b,h.r4.below b,h.rk,Holds.below h.lg b h.lt,h.ls⟩
theorem MdI.say (h:MdI w W k r p y L) (b:SP.Only r 0 32 W W') (d:Holds encB W' r 0 L') (c:L'.size=32):MdI w W' k r p y L':=by
 have:=h.rk
 exact ⟨h.on.trans b,h.r2.only b oM,h.r3.only b oM,h.r4.only b oM,h.rk,d,c⟩
theorem MdI.put (h:MdI w W k r p y L) {b:Nat} (e:Hid (W.setCells (k+2) 0 (wn b)=W')):MdI w W' k r p b L:=by
 have:=h.rk
 rw[← e.out]
 exact ⟨set_only h.on h.rk.1 h.rk.2 oM,row_set h.r2 oM,row_set h.r3 oM,h.r4.put rfl,h.rk,holds_set h.lg oM,h.ls⟩
theorem md_beg (u:p.Ok) (t:Holds encB w r 0 L) (s:L.size=32):∃ k c d q,Hid (w.heap.size=k)∧Hid (d.heap.size=k+2)∧Hid (d.alloc (.cells (RG.z 4).toArray 44)=q)∧Hid ((Instr.box 153 (.agg p.l.toArray)).run Tryz.prog w=.ok (.pointer (some ⟨k,0,none⟩)) c)∧Hid ((Instr.box 159 (lgV r)).run Tryz.prog c=.ok (.pointer (some ⟨k+1,0,none⟩)) d)∧Hid (MdI w q k r p 0 L):=by
 have n:=Holds.lt t (by rw[s];decide)
 have g:=new_row (T:=153) (Hid.mk' (rfl:w.heap.size=_)) (Hid.mk' (rfl:w.alloc (.cells p.l.toArray 153)=_))
 have i:(w.alloc (.cells p.l.toArray 153)).heap.size=w.heap.size+1:=World.size_alloc _ _
 have o:=boxL r (w.alloc (.cells p.l.toArray 153))
 generalize l:w.alloc (.cells p.l.toArray 153)=c at g i o
 have f2:=new_row (T:=159) (z:=[.pointer (some ⟨r,0,none⟩)]) (Hid.mk' i) (Hid.mk' rfl)
 have m:(c.alloc (.cells [.pointer (some ⟨r,0,none⟩)].toArray 159)).heap.size=w.heap.size+2:=by rw[World.size_alloc,i]
 rw[i] at o
 have e:(Instr.box 159 (lgV r)).run Tryz.prog c=.ok (.pointer (some ⟨w.heap.size+1,0,none⟩)) (c.alloc (.cells [.pointer (some ⟨r,0,none⟩)].toArray 159)):=o
 generalize c.alloc (.cells [.pointer (some ⟨r,0,none⟩)].toArray 159)=d at f2 m e
 have j:=new_row (T:=44) (z:=RG.z 4) (Hid.mk' m) (Hid.mk' rfl)
 refine ⟨_,c,d,_,rfl,m,rfl,?_,e,?_⟩
 ·rw[← l]
  exact boxR u w
 have f:=f2.1.trans (j.1.mono f2.1.size)
 have b:=g.1.trans (f.mono g.1.size)
 exact ⟨SP.Only.of_below b rfl n,g.2.below f,f2.2.below j.1,j.2,⟨rfl,n⟩,Holds.below t b n,s⟩
end
def mdL (L C D:Bs):Bs:=saidF [116,104,105,114,100] [102,111,117,114,116,104] L C D
theorem mid_c (O:Ord N) (p:Rp) (d:p.Ok) (r:Nat) (L:Bs) (w:World) (Q:Holds encB w r 0 L) (t:L.size=32) :
 Calls Tryz.prog 85 #[.agg p.l.toArray,lgV r] w (Ret fun e w'=>SP.Only r 0 32 w w'∧Holds encB w' r 0 (wentF (mdL L p.c p.d))∧e=nv (chS N (mdL L p.c p.d))):=by
 obtain ⟨A,g⟩:=hE (mdL L p.c p.d)
 obtain ⟨y,c⟩:=hE (wentF A)
 obtain ⟨x,hx⟩:=hE (chS N A)
 have s2:y.size=32:=by rw[← c.out];exact SP.askedL_size _ _
 rw[g.out,c.out,hx.out]
 have I:Hid (∀ (W:World),Holds encB W r 0 L→Calls Tryz.prog 135 #[lgV r,.string ⟨#[116,104,105,114,100]⟩,pvl p.c,.string ⟨#[102,111,117,114,116,104]⟩,pvl p.d] W (Ret fun e w'=>SP.Only r 0 32 W w'∧Holds encB w' r 0 y∧e=nv x)):=fun W h=>by
  rw[← hx.out,← c.out,← g.out]
  exact chAfter_c O r L p.c p.d ⟨#[116,104,105,114,100]⟩ ⟨#[102,111,117,114,116,104]⟩ dC dC d.c d.d W h t
 obtain ⟨k,G,H,D,T,J,q,C,a,n⟩:=md_beg d Q t
 obtain ⟨R,m⟩:=hE (Value.agg p.l.toArray)
 obtain ⟨vl,b⟩:=hE (lgV r)
 obtain ⟨V,l⟩:=hE (pvl p.c)
 obtain ⟨Y,j⟩:=hE (pvl p.d)
 rw[m.out] at C
 have B:=mk1 (I D n.lg)
 rw[b.out] at a
 rw[b.out,l.out,j.out] at B
 rw[m.out,b.out]
 have F:(Tryz.prog.info? 51).map (·.size)=some (bl33 p.c).length:=by rw[bl33_length d.c];exact iCP
 have E:(Tryz.prog.info? 51).map (·.size)=some (bl33 p.d).length:=by rw[bl33_length d.d];exact iCP
 have s:=mk1 (Rp.at7 d n.r2.2.1)
 go_enter Tryz.func85,Tryz.ntmps85
 go_wp2_with (first|(refine wpList_box (u:=R) (v:=.pointer (some ⟨k,0,none⟩)) (w':=G) rfl _ (.tmp 0) rfl ?_ ?_ ?_;rfl;exact C.out)|(refine wpList_box (u:=vl) (v:=.pointer (some ⟨k+1,0,none⟩)) (w':=H) rfl _ (.tmp 1) rfl ?_ ?_ ?_;rfl;exact a.out)|(refine alR 4 J q ?_)|(refine ldR 3 n.r3.2.1 b uLg iLg ?_)|(refine ldR 6 s.2.2.1 l uCP F ?_)|(refine ldR 8 s.2.2.2.1 j uCP E ?_)|fail)
 refine B.mono ?_
 rintro e K ⟨U,rfl,P,M,rfl⟩
 have z:=mk1 (n.say P M s2)
 obtain ⟨X,f⟩:=hE (K.setCells (k+2) 0 (wn x))
 have o:=mk1 (z.put f)
 obtain ⟨S,i⟩:=hE (nv x)
 rw[i.out]
 go_wp2_with (first|(refine stR 4 f i z.r4.2.2 i40 (wn_one x) ?_)|fail)
 refine bodyPost_ret (results_cell 4 44 rfl o.r4 rfl u40 i40) rfl ?_
 exact ⟨_,rfl,o.on,o.lg,rfl⟩
theorem catL3 (L:Nat→Bs):catL L 3=(L 0).toList++((L 1).toList++(L 2).toList):=by simp[catL,List.range_succ]
theorem own_partZ {B n:Nat} {w:World} {v:Value} {x:List UInt8} (h:w.ownsRow B 5 1 v n (x.map encB)) (e:0<n) (s:n≤1000000):∃ q c,v=.slice q n c∧SP.PartOk w v x:=by
 have f:x.length=n:=by have:=h.1;rw[List.length_map,Nat.mul_one] at this;exact this
 rcases id h with ⟨-,⟨rfl,e⟩|⟨g,cap,cur,rfl,r,d,p,m,o,l⟩⟩
 ·omega
 ·have hx:x.toArray.size=n:=by rw[List.size_toArray];exact f
  refine ⟨_,_,rfl,some ⟨g,0,none⟩,g,0,cap,x.toArray,by rw[hx],rfl,oM,oM,Or.inr ⟨rfl,fun j i=>?_⟩⟩
  have k:=oM
  have b:=h.cells (g:=g) rfl j (encB x[j]) (by rw[List.getElem?_map,List.getElem?_eq_getElem k];rfl)
  rw[addP0] at b
  refine ⟨by rw[b,getElem!_pos _ j i];simp;rfl,?_⟩
  simp[World.frozen?,d]
theorem bsl3 (g b k:Nat) (w:World):(Instr.buildSlice 27 3 #[(0,r32 g),(1,r32 b),(2,r32 k)]).run Tryz.prog w=.ok (.slice (some ⟨w.heap.size,0,none⟩) 3 3) (w.alloc (.cells #[r32 g,r32 b,r32 k] 23)):=kR
def enB (u m t:Nat):List UInt8:=(bx u).toList++((bx m).toList++(bx t).toList)
def enL (L:Bs) (u m t:Nat):Bs:=SP.sayL L [115,117,109,115] (enB u m t)
theorem ElQ.el {Q:Nat→Prop} {m:Nat} {W:World} {x:Value} {b:Bs} (h:ElQ Q m W x b):El m W x b:=by
 obtain ⟨k,c,i,d,g,-,f,e⟩:=h
 exact ⟨k,c,i,d,g,f,e⟩
theorem end_c (O:Ord N) (p:Rp) (hp:p.Ok) (hu:p.u<N) (hm:p.m<N) (ht:p.t<N) (r:Nat) (L:Bs) (w:World) (hL:Holds encB w r 0 L) (hl:L.size=32) :
 Calls Tryz.prog 88 #[.agg p.l.toArray,lgV r] w (Ret fun e w'=>SP.Only r 0 32 w w'∧Holds encB w' r 0 (wentF (enL L p.u p.m p.t))∧e=nv (chS N (enL L p.u p.m p.t))):=by
 obtain ⟨H,d⟩:=hE (enL L p.u p.m p.t)
 obtain ⟨L2,f⟩:=hE (wentF H)
 obtain ⟨x,hx⟩:=hE (chS N H)
 have s1:H.size=32:=by rw[← d.out];exact SP.sayL_size _ _ _
 have s2:L2.size=32:=by rw[← f.out];exact SP.askedL_size _ _
 have HC:Hid (∀ (W:World),Holds encB W r 0 H→Calls Tryz.prog 136 #[lgV r] W (Ret fun e w'=>SP.Only r 0 32 W w'∧Holds encB w' r 0 L2∧e=nv x)):=fun W h=>by
  rw[← hx.out,← f.out]
  exact challS_c O r H W h s1
 rw[d.out,f.out,hx.out]
 unfold enL enB at d
 have c:=fun (a:Nat) (ha:a<N) (W:World)=>scBytesQ_c O ha W
 have b1:=fun W=>c p.u hu W
 have b2:=fun W=>c p.m hm W
 have b3:=fun W=>c p.t ht W
 have sz:∀ a:Nat,(bx a).size=32:=bx_size
 have l:=mk3 (sz p.u) (sz p.m) (sz p.t)
 have T:=mk3 b1 b2 b3
 clear b1 b2 b3 c hu hm ht sz f hx
 generalize bx p.u=m at *
 generalize bx p.m=o at *
 generalize bx p.t=n at *
 obtain ⟨vu,F⟩:=hE (nv p.u)
 obtain ⟨vm,y⟩:=hE (nv p.m)
 obtain ⟨vt,E⟩:=hE (nv p.t)
 rw[F.out,y.out,E.out] at T
 obtain ⟨k,w1,w2,Q,hk,z2,h3,B1,B2,g⟩:=md_beg hp hL hl
 obtain ⟨vp,P⟩:=hE (Value.agg p.l.toArray)
 obtain ⟨vl,i⟩:=hE (lgV r)
 rw[P.out] at B1
 rw[i.out] at B2
 rw[P.out,i.out]
 clear hL
 have HP:=mk1 hp
 go_enter Tryz.func88,Tryz.ntmps88
 go_wp2_with (first|(refine wpList_box (u:=vp) (v:=.pointer (some ⟨k,0,none⟩)) (w':=w1) rfl _ (.tmp 0) rfl ?_ ?_ ?_;rfl;exact B1.out)|(refine wpList_box (u:=vl) (v:=.pointer (some ⟨k+1,0,none⟩)) (w':=w2) rfl _ (.tmp 1) rfl ?_ ?_ ?_;rfl;exact B2.out)|(refine alR 4 z2 h3 ?_)|fail)
 have n3:Hid (k+1≠r):=by have:=g.rk;show _≠_;omega
 have Y:Hid (k≠r):=by have:=g.rk;show _≠_;omega
 refine AW.beg 14 14 (Iv.only g.lt) (SP.Only.of_below (⟨rfl,rfl,rfl,Nat.le_refl _,fun _ _=>rfl⟩:Below Q.heap.size Q Q.drew) rfl g.lt) ?_
 refine AW.va 0 (.pointer (some ⟨k+1,0,none⟩)) ?_
 refine AW.va 1 (.pointer (some ⟨k+1,0,none⟩)) ?_
 refine AW.ce 2 uLp (fun W b=>(g.r3.only b n3.out).2.1 0 _ rfl) ?_
 refine AW.va 3 (.pointer (some ⟨k,132,none⟩)) ?_
 refine AW.ro 4 (fun W b=>(Rp.at7 HP.out (g.r2.only b Y.out).2.1).2.2.2.2.1) F u40 i40 ?_
 refine AW.va 6 (.pointer (some ⟨k,136,none⟩)) ?_
 refine AW.ro 7 (fun W b=>(Rp.at7 HP.out (g.r2.only b Y.out).2.1).2.2.2.2.2.1) y u40 i40 ?_
 refine AW.va 9 (.pointer (some ⟨k,140,none⟩)) ?_
 refine AW.ro 10 (fun W b=>(Rp.at7 HP.out (g.r2.only b Y.out).2.1).2.2.2.2.2.2) E u40 i40 ?_
 refine AW.ca 5 (fun _=>T.1 _) (fun e w' h=>h.1) ?_
 rintro e w4 ⟨t,V,I,rfl⟩
 simp only[Act.put,List.setIfInBounds_toArray,List.set_cons_succ,List.set_cons_zero]
 refine AW.ca 8 (fun _=>T.2.1 _) (fun e w' h=>h.1) ?_
 rintro e w5 ⟨B,X,A,rfl⟩
 simp only[Act.put,List.setIfInBounds_toArray,List.set_cons_succ,List.set_cons_zero]
 refine AW.ca 11 (fun _=>T.2.2 _) (fun e w' h=>h.1) ?_
 rintro e M ⟨C,h5,D,rfl⟩
 simp only[Act.put,List.setIfInBounds_toArray,List.set_cons_succ,List.set_cons_zero]
 have K:=below1 M (.cells #[r32 I,r32 A,r32 D] 23)
 have S:=row_new M [r32 I,r32 A,r32 D] 23
 have q:=B.trans (C.mono B.size)
 have E1:=(V.keep (Kq.of_below q)).keep (Kq.of_below K)
 have E2:=(X.keep (Kq.of_below C)).keep (Kq.of_below K)
 have E3:=h5.keep (Kq.of_below K)
 refine AW.ns 12 (bsl3 I A D M) K ?_
 have s:=mk1 (concat_c M.heap.size 3 3 (fun j=>if j=0 then m else if j=1 then o else n) dC (fun j Z=>by
  match j,Z with
  | 0,_=>show m.size≤10000;rw[l.1];decide
  | 1,_=>show o.size≤10000;rw[l.2.1];decide
  | 2,_=>show n.size≤10000;rw[l.2.2];decide) (M.alloc (.cells #[r32 I,r32 A,r32 D] 23)) S.1 fun j Z=>by
  match j,Z with
  | 0,_=>exact ⟨r32 I,S.2.1 0 _ rfl,by show El m.size _ _ m;rw[l.1];exact E1.el⟩
  | 1,_=>exact ⟨r32 A,S.2.1 1 _ rfl,by show El o.size _ _ o;rw[l.2.1];exact E2.el⟩
  | 2,_=>exact ⟨r32 D,S.2.1 2 _ rfl,by show El n.size _ _ n;rw[l.2.2];exact E3.el⟩)
 have U:(catL (fun j=>if j=0 then m else if j=1 then o else n) 3)=m.toList++(o.toList++n.toList):=catL3 _
 rw[U] at s
 have h2:(m.toList++(o.toList++n.toList)).length=96:=by simp only[List.length_append,Array.length_toList,l.1,l.2.1,l.2.2]
 generalize m.toList++(o.toList++n.toList)=xx at *
 rw[h2] at s
 have J:=mk1 (((Below.refl _ Q).drew.trans (t.trans (q.mono t.size))).trans (K.mono (Nat.le_trans t.size q.size)))
 refine AW.ca 13 (fun _=>s.out) (fun e w' h=>h.1) ?_
 rintro e w8 ⟨h1,h0⟩
 obtain ⟨qa,qc,rfl,h4⟩:=own_partZ h0 dC dC
 have K8:=mk1 (g.grow (J.trans (h1.mono J.size)))
 refine AW.cw 14 (fun _=>sayR r L ⟨#[115,117,109,115]⟩ qa 96 qc xx w8 dC K8.lg hl h4) (fun e w' hI h=>hI.trans h.2.1) ?_
 rintro e w9 ⟨rfl,b,R⟩
 rw[show (⟨#[115,117,109,115]⟩:ByteArray).data.toList=[115,117,109,115] from rfl,d.out] at R
 have K9:=mk1 (K8.say b R s1)
 refine AW.dn fun _=>?_
 have HD:=mk1 (HC w9 K9.lg)
 rw[i.out] at HD
 go_wp2_with (first|(refine ldR 3 K9.r3.2.1 i uLg iLg ?_)|fail)
 refine HD.mono ?_
 rintro e wA ⟨uu,rfl,b,R,rfl⟩
 have KA:=mk1 (K9.say b R s2)
 obtain ⟨wB,G⟩:=hE (wA.setCells (k+2) 0 (wn x))
 have KB:=mk1 (KA.put G)
 obtain ⟨vx,z⟩:=hE (nv x)
 rw[z.out]
 go_wp2_with (first|(refine stR 4 G z KA.r4.2.2 i40 (wn_one x) ?_)|fail)
 refine bodyPost_ret (results_cell 4 44 rfl KB.r4 rfl u40 i40) rfl ?_
 exact ⟨_,rfl,KB.on,KB.lg,rfl⟩
end
section
open Go.RowKit Go.Sort Go.Deep
variable {P:Nat} [NeZero P] {N:Nat}
theorem uAr:(Tryz.prog.underlying 66).map (·.isRow)=some true:=kR
theorem iAr:(Tryz.prog.info? 66).map (·.size)=some 11:=kR
theorem boxI4 (a b c d:Value) (w:World):(Instr.box 64 (.agg #[a,b,c,d])).run Tryz.prog w=.ok (.pointer (some ⟨w.heap.size,0,none⟩)) (w.alloc (.cells #[a,b,c,d] 64)):=kR
def z11:List Value:=List.replicate 11 (.slice none 0 0)
structure RgT (Q:Nat→Prop) (W:World) (p:Rp) (a b c d e f g:Nat):Prop where
 a:ElQ Q 33 W (r33 a) p.a
 b:ElQ Q 33 W (r33 b) p.s
 c:ElQ Q 33 W (r33 c) p.c
 d:ElQ Q 33 W (r33 d) p.d
 e:ElQ Q 32 W (r32 e) (bx p.u)
 f:ElQ Q 32 W (r32 f) (bx p.m)
 g:ElQ Q 32 W (r32 g) (bx p.t)
theorem RgT.keep {Q:Nat→Prop} {W W':World} {p:Rp} {a b c d e f g:Nat} (h:RgT Q W p a b c d e f g) (k:Kq Q W W'):RgT Q W' p a b c d e f g:=⟨h.a.keep k,h.b.keep k,h.c.keep k,h.d.keep k,h.e.keep k,h.f.keep k,h.g.keep k⟩
theorem RgT.mono2 {Q Q':Nat→Prop} {W:World} {p:Rp} {a b c d e f g:Nat} (h:RgT Q W p a b c d e f g) (k:∀ g,g<W.heap.size→Q g→Q' g):RgT Q' W p a b c d e f g:=⟨h.a.mono2 k,h.b.mono2 k,h.c.mono2 k,h.d.mono2 k,h.e.mono2 k,h.f.mono2 k,h.g.mono2 k⟩
theorem told_c (O:Ord N) (p:Rp) (P:p.Ok) (hu:p.u<N) (hm:p.m<N) (ht:p.t<N) (l o r s:Value) (h1:l.oneCell'=true∧o.oneCell'=true∧r.oneCell'=true∧s.oneCell'=true) (w:World) :
 Calls Tryz.prog 89 #[.agg p.l.toArray,.agg #[l,o,r,s]] w (Ret fun e w'=>Below w.heap.size w w'∧∃ a b c d u m t,e=.agg #[r33 a,r33 b,r33 c,r33 d,r32 u,r32 m,r32 t,l,o,r,s]∧RgT (w.heap.size≤·) w' p a b c d u m t):=by
 have x:=mk7 (fun W=>ptBytesQ_c P.a W) (fun W=>ptBytesQ_c P.s W) (fun W=>ptBytesQ_c P.c W) (fun W=>ptBytesQ_c P.d W) (fun W=>scBytesQ_c O hu W) (fun W=>scBytesQ_c O hm W) (fun W=>scBytesQ_c O ht W)
 obtain ⟨va,h7⟩:=hE (pvl p.a)
 obtain ⟨vs,h2⟩:=hE (pvl p.s)
 obtain ⟨vc,h5⟩:=hE (pvl p.c)
 obtain ⟨vd,h0⟩:=hE (pvl p.d)
 obtain ⟨vu,h4⟩:=hE (nv p.u)
 obtain ⟨vm,Z⟩:=hE (nv p.m)
 obtain ⟨vt,h3⟩:=hE (nv p.t)
 rw[h7.out,h2.out,h5.out,h0.out,h4.out,Z.out,h3.out] at x
 have iP:∀ {b:Bs},b.size=33→(Tryz.prog.info? 51).map (·.size)=some (bl33 b).length:=fun h=>by rw[bl33_length h];exact iCP
 obtain ⟨k,hk⟩:=hE (w.heap.size)
 obtain ⟨U,D⟩:=hE (w.alloc (.cells p.l.toArray 153))
 obtain ⟨k3,J⟩:=hE (U.heap.size)
 obtain ⟨w2,H⟩:=hE (U.alloc (.cells [l,o,r,s].toArray 64))
 obtain ⟨k4,B⟩:=hE (w2.heap.size)
 obtain ⟨y,h6⟩:=hE (w2.alloc (.cells z11.toArray 66))
 have F:=box3 hk D J H B h6
 have ha:w.heap.size≤k4∧k4<y.heap.size:=⟨by rw[← B.out];exact Nat.le_trans (new_row hk D).1.size (new_row J H).1.size,F.2.2.2.1⟩
 have i:=mk2 ha h1
 obtain ⟨vp,h8⟩:=hE (Value.agg p.l.toArray)
 obtain ⟨vi,j⟩:=hE (Value.agg #[l,o,r,s])
 have B1:Hid ((Instr.box 153 vp).run Tryz.prog w=.ok (.pointer (some ⟨k,0,none⟩)) U):=by rw[← h8.out,← D.out,← hk.out];exact boxR P w
 have B2:Hid ((Instr.box 64 vi).run Tryz.prog U=.ok (.pointer (some ⟨k3,0,none⟩)) w2):=by rw[← j.out,← H.out,← J.out];exact boxI4 _ _ _ _ U
 have HP:=mk1 P
 rw[h8.out,j.out]
 go_enter Tryz.func89,Tryz.ntmps89
 go_wp2_with (first|(refine wpList_box (u:=vp) (v:=.pointer (some ⟨k,0,none⟩)) (w':=U) rfl _ (.tmp 0) rfl ?_ ?_ ?_;rfl;exact B1.out)|(refine wpList_box (u:=vi) (v:=.pointer (some ⟨k3,0,none⟩)) (w':=w2) rfl _ (.tmp 1) rfl ?_ ?_ ?_;rfl;exact B2.out)|(refine alR 4 B h6 ?_)|fail)
 have I:∀ W,Below y.heap.size y W→_:=fun W f=>Rp.at7 HP.out (F.2.1.below f).2.1
 refine AW.begin 23 23 ?_
 refine AW.va 0 (.pointer (some ⟨k,0,none⟩)) ?_
 refine AW.ro 1 (fun W f=>(I W f).1) h7 uCP (iP HP.a) ?_
 refine AW.va 3 (.pointer (some ⟨k,33,none⟩)) ?_
 refine AW.ro 4 (fun W f=>(I W f).2.1) h2 uCP (iP HP.s) ?_
 refine AW.va 6 (.pointer (some ⟨k,66,none⟩)) ?_
 refine AW.ro 7 (fun W f=>(I W f).2.2.1) h5 uCP (iP HP.c) ?_
 refine AW.va 9 (.pointer (some ⟨k,99,none⟩)) ?_
 refine AW.ro 10 (fun W f=>(I W f).2.2.2.1) h0 uCP (iP HP.d) ?_
 refine AW.va 12 (.pointer (some ⟨k,132,none⟩)) ?_
 refine AW.ro 13 (fun W f=>(I W f).2.2.2.2.1) h4 u40 i40 ?_
 refine AW.va 15 (.pointer (some ⟨k,136,none⟩)) ?_
 refine AW.ro 16 (fun W f=>(I W f).2.2.2.2.2.1) Z u40 i40 ?_
 refine AW.va 18 (.pointer (some ⟨k,140,none⟩)) ?_
 refine AW.ro 19 (fun W f=>(I W f).2.2.2.2.2.2) h3 u40 i40 ?_
 refine AW.ro 21 (fun W f=>(F.2.2.1.below f).2.1) j uInn iInn ?_
 refine AW.ca 2 (fun _=>x.1 _) (fun e w' h=>h.1) ?_
 rintro e w4 ⟨hc,E1,S,rfl⟩
 refine AW.ca 5 (fun _=>x.2.1 _) (fun e w' h=>h.1) ?_
 rintro e w5 ⟨A,E2,K,rfl⟩
 refine AW.ca 8 (fun _=>x.2.2.1 _) (fun e w' h=>h.1) ?_
 rintro e w6 ⟨C,E3,M,rfl⟩
 refine AW.ca 11 (fun _=>x.2.2.2.1 _) (fun e w' h=>h.1) ?_
 rintro e w7 ⟨G,E4,X,rfl⟩
 refine AW.ca 14 (fun _=>x.2.2.2.2.1 _) (fun e w' h=>h.1) ?_
 rintro e w8 ⟨E,E5,Y,rfl⟩
 refine AW.ca 17 (fun _=>x.2.2.2.2.2.1 _) (fun e w' h=>h.1) ?_
 rintro e w9 ⟨z,E6,Q,rfl⟩
 refine AW.ca 20 (fun _=>x.2.2.2.2.2.2 _) (fun e w' h=>h.1) ?_
 rintro e L ⟨h9,E7,V,rfl⟩
 rw[← j.out]
 refine AW.nx 22 (.agg #[r33 S,r33 K,r33 M,r33 X,r32 Y,r32 Q,r32 V,l,o,r,s]) ?_
 have b9:=h9
 have b8:=z.trans (b9.mono z.size)
 have b7:=E.trans (b8.mono E.size)
 have b6:=G.trans (b7.mono G.size)
 have b5:=C.trans (b6.mono C.size)
 have b4:=A.trans (b5.mono A.size)
 have s3:=hc.size
 have q:∀ {W:World} {m:Nat} {v:Value} {b:Bs},y.heap.size≤W.heap.size→ElQ (W.heap.size≤·) m L v b→ElQ (y.heap.size≤·) m L v b:=fun hW h=>h.mono2 fun g _ R=>Nat.le_trans hW R
 have t5:=Nat.le_trans s3 A.size
 have t6:=Nat.le_trans t5 C.size
 have t7:=Nat.le_trans t6 G.size
 have t8:=Nat.le_trans t7 E.size
 have t9:=Nat.le_trans t8 z.size
 have T:Hid (RgT (y.heap.size≤·) L p S K M X Y Q V):=⟨(E1.keep (Kq.of_below b4)).mono2 fun g _ R=>R,q s3 (E2.keep (Kq.of_below b5)),q t5 (E3.keep (Kq.of_below b6)),q t6 (E4.keep (Kq.of_below b7)),q t7 (E5.keep (Kq.of_below b8)),q t8 (E6.keep (Kq.of_below b9)),q t9 E7⟩
 refine AW.fi (us:=[r33 S,r33 K,r33 M,r33 X,r32 Y,r32 Q,r32 V,l,o,r,s]) (Hid.mk' rfl) (by simp only[List.all_toArray,List.all_cons,List.all_nil,i.2.1,i.2.2.1,i.2.2.2.1,i.2.2.2.2,show ∀ g,(r33 g).oneCell'=true from fun _=>rfl,show ∀ g,(r32 g).oneCell'=true from fun _=>rfl,Bool.and_true]) iAr (fun f=>?_)
 obtain ⟨wB,n⟩:=hE (L.setCells k4 0 [r33 S,r33 K,r33 M,r33 X,r32 Y,r32 Q,r32 V,l,o,r,s])
 have r4:=F.2.2.2.below f
 have KE:Hid (L.there k4 0 11∧Row wB k4 [r33 S,r33 K,r33 M,r33 X,r32 Y,r32 Q,r32 V,l,o,r,s]∧Below w.heap.size w wB∧RgT (w.heap.size≤·) wB p S K M X Y Q V):=by
  have kq:Kq (y.heap.size≤·) L wB:=by rw[← n.out];exact Kq.set fun g R=>by have:=i.1;omega
  refine ⟨r4.2.2,by rw[← n.out];exact r4.put rfl,by rw[← n.out];exact RG.below_setCells i.1.1 _ _ _ (F.1.trans (f.mono F.1.size)),(T.keep kq).mono2 fun g _ R=>Nat.le_trans F.1.size R⟩
 rw[n.out]
 refine ⟨KE.1,?_⟩
 go_wp2_with fail
 refine bodyPost_ret (results_cell 4 66 rfl KE.2.1 rfl uAr iAr) rfl ?_
 exact ⟨_,rfl,KE.2.2.1,_,_,_,_,_,_,_,rfl,KE.2.2.2⟩
end
section
open Go.RowKit Go.Sort Go.Deep
variable {N:Nat}
structure Pq where
 p:(Nat→Prop)→World→Prop
 kp:∀ Q W W',Kq Q W W'→p Q W→p Q W'
 mo:∀ Q Q' W,(∀ g,g<W.heap.size→Q g→Q' g)→p Q W→p Q' W
abbrev pqS (v:Value) (n:Nat) (a:Nat→Nat):Pq:=⟨fun Q W=>SLq Q W v n a,fun _ _ _ k h=>h.keep k,fun _ _ _ m h=>h.mono2 m⟩
abbrev pqG (v:Value) (n:Nat) (G H:Nat→List (Nat × Bs)) (U:List (Nat × Bs)):Pq:=⟨fun Q W=>GRq Q W v n G H U,fun _ _ _ k h=>h.keep k,fun _ _ _ m h=>h.mono2 m⟩
abbrev pqM (v:Value) (l:List (Nat × Bs)):Pq:=⟨fun Q W=>SmQ Q W v l,fun _ _ _ k h=>h.keep k,fun _ _ _ m h=>h.mono2 m⟩
def Nk (rs:List (Nat × List Value)) (g:Nat):Prop:=g ∉ rs.map (·.1)
structure Mp (w W:World) (rs:List (Nat × List Value)) (S:List Pq):Prop where
 bl:Below w.heap.size w W
 rw:∀ x∈rs,w.heap.size≤x.1∧Row W x.1 x.2
 nd:(rs.map (·.1)).Nodup
 ob:∀ s∈S,s.p (Nk rs) W
namespace Mp
variable {w W W':World} {rs rs':List (Nat × List Value)} {S S':List Pq} {k r i:Nat} {c c':List Value} {L L':Bs}
theorem start (w:World):Mp w w [] []:=⟨Below.refl _ _,fun _ h=>(List.not_mem_nil h).elim,List.nodup_nil,fun _ h=>(List.not_mem_nil h).elim⟩
theorem grow (h:Mp w W rs S) (k:Below W.heap.size W W'):Mp w W' rs S:=⟨h.bl.trans (k.mono h.bl.size),fun x hx=>⟨(h.rw x hx).1,(h.rw x hx).2.below k⟩,h.nd,fun s b=>s.kp _ _ _ (Kq.of_below k) (h.ob s b)⟩
theorem drew (h:Mp w W rs S):Mp w W.drew rs S:=h.grow ⟨rfl,rfl,rfl,Nat.le_refl _,fun _ _=>rfl⟩
theorem lt (h:Mp w W rs S) {g:Nat} (k:g∈rs.map (·.1)):w.heap.size≤g∧g<W.heap.size:=by
 obtain ⟨x,hx,rfl⟩:=List.mem_map.1 k
 exact ⟨(h.rw x hx).1,(h.rw x hx).2.1⟩
theorem nk (h:Mp w W rs S) (g:Nat) (k:W.heap.size≤g):Nk rs g:=fun e=>by have:=(h.lt e).2;omega
theorem at_ (h:Mp w W rs S) (i:Nat) (b:rs[i]? = some (k,c):=by rfl):Row W k c:=(h.rw _ (List.mem_of_getElem? b)).2
theorem key (b:rs[i]? = some (k,c)):k∈rs.map (·.1):=List.mem_map.2 ⟨_,List.mem_of_getElem? b,rfl⟩
theorem get (h:Mp w W rs S) (j:Nat) {s:Pq} (k:S[j]? = some s:=by rfl):s.p (Nk rs) W:=h.ob _ (List.mem_of_getElem? k)
theorem has (h:Mp w W rs S) (s:Pq) (k:s.p (Nk rs) W) (e:S++[s]=S':=by (simp only[List.cons_append,List.nil_append])<;>rfl):Mp w W rs S':=e ▸ ⟨h.bl,h.rw,h.nd,fun x hx=>by
 rcases List.mem_append.1 hx with hx|hx
 ·exact h.ob x hx
 ·rw[List.mem_singleton.1 hx];exact k⟩
theorem gets (h:Mp w W rs S) (k:Below W.heap.size W W') (s:Pq) (b:s.p (W.heap.size≤·) W') (e:S++[s]=S':=by (simp only[List.cons_append,List.nil_append])<;>rfl):Mp w W' rs S':=(h.grow k).has s (s.mo _ _ _ (fun g _ c=>h.nk g c) b) e
theorem q (_:Mp w W rs S):∃ Q,Hid (Nk rs=Q):=⟨_,rfl⟩
theorem getq {Q:Nat→Prop} (h:Mp w W rs S) (k:Hid (Nk rs=Q)) (j:Nat) {s:Pq} (b:S[j]? = some s:=by rfl):s.p Q W:=by rw[← k.out];exact h.get j b
theorem nkq {Q:Nat→Prop} (h:Mp w W rs S) (k:Hid (Nk rs=Q)) (g:Nat) (b:W.heap.size≤g):Q g:=by rw[← k.out];exact h.nk g b
theorem hasq {Q:Nat→Prop} (h:Mp w W rs S) (k:Hid (Nk rs=Q)) (s:Pq) (b:s.p Q W) (e:S++[s]=S':=by (simp only[List.cons_append,List.nil_append])<;>rfl):Mp w W rs S':=h.has s (by rw[k.out];exact b) e
theorem ne {Q:Nat→Prop} (_:Mp w W rs S) (d:Hid (Nk rs=Q)) (i:Nat) (f:rs[i]? = some (k,c):=by rfl) (g:Nat) (b:Q g):g≠k:=fun e=>by
 rw[← d.out] at b
 exact b (by rw[e];exact List.mem_map.2 ⟨_,List.mem_of_getElem? f,rfl⟩)
theorem add (h:Mp w W rs S) (f:Below W.heap.size W W') (j:Row W' k c) (n:W.heap.size≤k) (e:rs++[(k,c)]=rs':=by (simp only[List.cons_append,List.nil_append])<;>rfl):Mp w W' rs' S:=by
 subst e
 have i:=h.grow f
 refine ⟨i.bl,fun x hx=>?_,?_,fun s l=>?_⟩
 ·rcases List.mem_append.1 hx with hx|hx
  ·exact i.rw x hx
  ·rw[List.mem_singleton.1 hx];exact ⟨Nat.le_trans h.bl.size n,j⟩
 ·rw[List.map_append,List.nodup_append]
  refine ⟨h.nd,by simp,fun a m b d e=>?_⟩
  have o:=(h.lt m).2
  simp at d
  omega
 ·refine s.kp _ _ _ (Kq.of_below f) (s.mo _ _ _ (fun g m d e=>?_) (h.ob s l))
  rw[List.map_append,List.mem_append] at e
  rcases e with e|e
  ·exact d e
  ·simp at e;omega
theorem adds (h:Mp w W rs S) (l:Below W.heap.size W W') (ns:List (Nat × List Value)) (d:(ns.map (·.1)).Nodup) (c:∀ x∈ns,W.heap.size≤x.1∧Row W' x.1 x.2) (e:rs++ns=rs':=by (simp only[List.cons_append,List.nil_append])<;>rfl):Mp w W' rs' S:=by
 subst e
 have f:=h.grow l
 have i:∀ g,g∈ns.map (·.1)→W.heap.size≤g:=fun g j=>by
  obtain ⟨x,hx,rfl⟩:=List.mem_map.1 j
  exact (c x hx).1
 refine ⟨f.bl,fun x hx=>?_,?_,fun s n=>?_⟩
 ·rcases List.mem_append.1 hx with hx|hx
  ·exact f.rw x hx
  ·exact ⟨Nat.le_trans h.bl.size (c x hx).1,(c x hx).2⟩
 ·rw[List.map_append,List.nodup_append]
  refine ⟨h.nd,d,fun a m b k e=>?_⟩
  have p:=(h.lt m).2
  have o:=i b k
  omega
 ·refine s.kp _ _ _ (Kq.of_below l) (s.mo _ _ _ (fun g j d e=>?_) (h.ob s n))
  rw[List.map_append,List.mem_append] at e
  rcases e with e|e
  ·exact d e
  ·have:=i g e;omega
theorem new {T:TypeId} (h:Mp w W rs S) (b:Hid (W.heap.size=k)) (d:Hid (W.alloc (.cells c.toArray T)=W')) (e:rs++[(k,c)]=rs':=by (simp only[List.cons_append,List.nil_append])<;>rfl):Mp w W' rs' S:=by
 have f:=new_row b d
 exact h.add f.1 f.2 (Nat.le_of_eq b.out) e
theorem keys (b:rs[i]? = some (k,c)):(rs.set i (k,c')).map (·.1)=rs.map (·.1):=by
 rw[List.map_set]
 refine List.ext_getElem? fun j=>?_
 rw[List.getElem?_set]
 have d:=(List.getElem?_eq_some_iff.1 b).1
 split
 ·rename_i e
  subst e
  rw[if_pos (by simpa using d),List.getElem?_map,b]
  rfl
 ·rfl
theorem nkeys (b:rs[i]? = some (k,c)):Nk (rs.set i (k,c'))=Nk rs:=funext fun g=>by unfold Nk;rw[keys b]
theorem turn (h:Mp w W rs S) (d:rs[i]? = some (k,c)) (a:Below w.heap.size w W') (v:W.heap.size≤W'.heap.size) (ho:∀ g,g≠k→g<W.heap.size→W'.heap[g]? = W.heap[g]?) (A:Row W' k c'):Mp w W' (rs.set i (k,c')) S:=by
 refine ⟨a,fun x hx=>?_,by rw[keys d];exact h.nd,fun s m=>?_⟩
 ·have B:=hx
  obtain ⟨j,o,e⟩:=List.mem_iff_getElem.1 hx
  rw[List.length_set] at o
  rw[List.getElem_set] at e
  by_cases b:i=j
  ·rw[if_pos b] at e
   rw[← e]
   exact ⟨(h.lt (key d)).1,A⟩
  ·rw[if_neg b] at e
   have z:=List.getElem_mem o
   have hh:=h.rw _ z
   rw[← e]
   have l:rs[j].1≠k:=fun e'=>by
    have f:=(List.getElem?_eq_some_iff.1 d)
    obtain ⟨p,q⟩:=f
    have t:=List.pairwise_iff_getElem.1 h.nd
    have r:(rs.map (·.1))[i]'(by simpa using p)=k:=by rw[List.getElem_map,q]
    have u:(rs.map (·.1))[j]'(by simpa using o)=k:=by rw[List.getElem_map];exact e'
    rcases Nat.lt_or_ge i j with n|y
    ·exact t i j _ _ n (r.trans u.symm)
    ·exact t j i _ _ oM (u.trans r.symm)
   exact ⟨hh.1,row_same hh.2 v (ho _ l hh.2.1)⟩
 ·rw[nkeys d]
  exact s.kp _ _ _ ⟨v,fun g b f=>ho g (fun e=>b (by rw[e];exact key d)) f⟩ (h.ob s m)
theorem upd {o:Nat} {us:List Value} (h:Mp w W rs S) (i:Nat) (b:Hid (W.setCells k o us=W')) (d:Row (W.setCells k o us) k c') (f:rs[i]? = some (k,c):=by rfl) (e:rs.set i (k,c')=rs':=by (simp only[List.set_cons_succ,List.set_cons_zero])<;>rfl):Mp w W' rs' S:=by
 subst e
 rw[b.out] at d
 refine h.turn f ?_ ?_ (fun g j _=>?_) d
 ·rw[← b.out];exact RG.below_setCells (h.lt (key f)).1 _ _ _ h.bl
 ·rw[← b.out,RG.setCells_size];exact Nat.le_refl _
 ·rw[← b.out];exact RG.setCells_other k us o W g j
theorem put (h:Mp w W rs S) (i:Nat) (f:Hid (W.setCells k 0 c'=W')) (b:rs[i]? = some (k,c):=by rfl) (d:c'.length=c.length:=by rfl) (e:rs.set i (k,c')=rs':=by (simp only[List.set_cons_succ,List.set_cons_zero])<;>rfl):Mp w W' rs' S:=h.upd i f ((h.at_ i b).put d) b e
theorem th (h:Mp w W rs S) (i:Nat) (b:rs[i]? = some (k,c):=by rfl) (d:c'.length=c.length:=by rfl):W.there k 0 c'.length:=by rw[d];exact (h.at_ i b).2.2
theorem say (h:Mp w W rs S) (i:Nat) (k:SP.Only r 0 32 W W') (j:Holds encB W' r 0 L') (c:rs[i]? = some (r,bl33 L):=by rfl) (e:rs.set i (r,bl33 L')=rs':=by (simp only[List.set_cons_succ,List.set_cons_zero])<;>rfl):Mp w W' rs' S:=by
 subst e
 have b:=h.lt (key c)
 refine h.turn c (h.bl.trans (only_new k h.bl.size b.1)) k.size (fun g f d=>k.block g d f) (row_cp j (Nat.lt_of_lt_of_le b.2 k.size))
theorem log (h:Mp w W rs S) (i:Nat) (k:rs[i]? = some (r,bl33 L):=by rfl):Holds encB W r 0 L:=row_holds (h.at_ i k)
theorem wk (h:Mp w W rs S) (i:Nat) (d:rs[i]? = some (k,c):=by rfl):∃ c,Mp w W (rs.set i (k,c)) S:=⟨c,by
 obtain ⟨e,b⟩:=List.getElem?_eq_some_iff.1 d
 rw[← b,List.set_getElem_self]
 exact h⟩
end Mp
abbrev Iv.mx (w:World) (rs:List (Nat × List Value)) (S:List Pq) (i k:Nat) (b:Bool):Iv:=⟨fun W=>∃ c,Mp w W (rs.set i (k,c)) S,fun _ _ d ⟨c,h⟩=>⟨c,h.grow d⟩,b⟩
abbrev Iv.mp (w:World) (rs:List (Nat × List Value)) (S:List Pq) (b:Bool):Iv:=⟨fun W=>Mp w W rs S,fun _ _ k h=>h.grow k,b⟩
end
namespace SPA
variable {N:Nat} [NeZero N] {M:Type}
namespace Md
variable (D:Md N M)
theorem cancel (a b c:M):D.ad a b=D.ad a c↔b=c:=by
 constructor
 ·intro h
  have k:D.ad (D.ac (-1) a) (D.ad a b)=D.ad (D.ac (-1) a) (D.ad a c):=by rw[h]
  rw[← D.assoc,← D.assoc,D.comm _ a,D.own_neg,D.zadd,D.zadd] at k
  exact k
 ·rintro rfl
  rfl
theorem shift_dt (Y W T:Nat→(Fin N)) (z:(Fin N)) (k:Nat→M) (n:Nat) (h:∀ i,i<n→Y i*W i=1) :
 D.dt (fun i=>z*Y i+z*z*T i) (fun i=>D.ac (W i) (k i)) n=D.dt (fun i=>z+z*z*(T i*W i)) k n:=
 D.dt_congr n fun i b=>by
  have c:=h i b
  rw[D.acAc,show (z*Y i+z*z*T i)*W i=z+z*z*(T i*W i) by
   grind]
theorem sums_move (H G:M) (t d tau:(Fin N)) (A B E:M):D.cm H G (t-d) tau=D.ad (D.ad A B) E↔D.cm H G t tau=D.ad (D.ad A (D.ac d H)) (D.ad B E):=by
 rw[← D.cancel (D.ac d H)]
 have b:D.ad (D.ac d H) (D.cm H G (t-d) tau)=D.cm H G t tau:=by
  unfold cm
  rw[← D.assoc,← D.adAc,show d+(t-d)=t by grind]
 have k:D.ad (D.ac d H) (D.ad (D.ad A B) E)=D.ad (D.ad A (D.ac d H)) (D.ad B E):=by ac_rfl
 rw[b,k]
theorem point_pro (A X G:M) (mu x t w:(Fin N)) (L K U:M) :
 D.ad (D.ad (D.ad (D.ad A (D.ac x X)) (D.ac (-1) (D.ac mu G))) (D.ad L K)) (D.ac t (D.ac w U))=D.ad (D.ad (D.ad (D.ad A (D.ac x X)) (D.ac (-mu) G)) (D.ad L K)) (D.ac (t*w) U):=by
 rw[D.acAc,D.acAc,show (-1:(Fin N))*mu = -mu by grind]
end Md
end SPA
section
open SPA
variable {N:Nat} [NeZero N] {M:Type}
structure Rv (N:Nat) where
 v:Nat
 n:Nat
 s:Nat→Fin N
 q:Nat→Fin N
 al:Fin N
 rho:Fin N
 t1:Fin N
 t2:Fin N
 k:Fin N
 y:Fin N
 z:Fin N
 x:Fin N
 w:Fin N
namespace Rv
variable (R:Rv N)
def l (i:Nat):Fin N:=btF N R.v i
def m (i:Nat):Fin N:=btF N R.v i-1
def a0 (i:Nat):Fin N:=R.l i+-R.z
def sh (i:Nat):Fin N:=R.z*pwF R.y i+R.z*R.z*pwF (ofF N 2) i
def b0 (i:Nat):Fin N:=R.m i*pwF R.y i+R.sh i
def b1 (i:Nat):Fin N:=R.q i*pwF R.y i
def a (i:Nat):Fin N:=R.a0 i+R.s i*R.x
def b (i:Nat):Fin N:=R.b0 i+R.b1 i*R.x
def c1:Fin N:=Md.pr R.a0 R.b1 R.n+Md.pr R.s R.b0 R.n
def c2:Fin N:=Md.pr R.s R.b1 R.n
def t:Fin N:=Md.pr R.a R.b R.n
def tau:Fin N:=R.t1*R.x+R.t2*R.x*R.x+R.z*R.z*R.k
def mu:Fin N:=R.al+R.rho*R.x
def d:Fin N:=(R.z-R.z*R.z)*Md.pr (fun _=>1) (pwF R.y) R.n-R.z*R.z*R.z*ofF N (2^R.n-1)
variable (D:Md N M) (G H U:M) (g k:Nat→M)
def pA:M:=D.ad (D.ac R.al G) (D.ad (D.dt R.l g R.n) (D.dt R.m k R.n))
def pS:M:=D.ad (D.ac R.rho G) (D.ad (D.dt R.s g R.n) (D.dt R.q k R.n))
def pV:M:=D.cm H G (ofF N R.v) R.k
def p1:M:=D.cm H G R.c1 R.t1
def p2:M:=D.cm H G R.c2 R.t2
def hh (i:Nat):M:=D.ac (pwF (ivF R.y) i) (k i)
def rg:Md.Rg (Fin N):=rgF R.v R.s R.q R.y (ivF R.y) R.z R.x
theorem e_a0:R.rg.a0=R.a0:=funext fun i=>by
 show R.l i-R.z=R.l i+-R.z
 grind
theorem e_b0:R.rg.b0=R.b0:=funext fun i=>by
 show pwF R.y i*(R.m i+R.z)+R.z*R.z*pwF (ofF N 2) i=R.m i*pwF R.y i+(R.z*pwF R.y i+R.z*R.z*pwF (ofF N 2) i)
 grind
theorem e_b1:R.rg.b1=R.b1:=funext fun i=>by
 show pwF R.y i*R.q i=R.q i*pwF R.y i
 grind
theorem e_a:R.rg.a=R.a:=funext fun i=>by
 show R.rg.a0 i+_=_
 rw[e_a0]
 rfl
theorem e_b:R.rg.b=R.b:=funext fun i=>by
 show R.rg.b0 i+R.rg.b1 i*_=_
 rw[e_b0,e_b1]
 rfl
theorem pr_one (b:Nat→Fin N):∀ n,Md.pr (fun _=>1) b n=(SPA.own N).sm b n
 | 0=>rfl
 | n+1=>by
  show Md.pr (fun _=>1) b n+1*b n=(SPA.own N).sm b n+b n
  rw[pr_one b n]
  grind
theorem e_d:R.rg.d R.n=R.d:=by
 unfold d
 rw[pr_one]
 exact rgF_d _ _ _ _ _ _ _ _
theorem sums (d:NT.IsP N) (c:R.y.val≠0) (hv:R.v<2^R.n):D.cm H G (R.t-R.d) R.tau=D.ad (D.ad (D.ac (R.z*R.z) (R.pV D G H)) (D.ac R.x (R.p1 D G H))) (D.ac (R.x*R.x) (R.p2 D G H)):=by
 rw[D.sums_move]
 have h:=D.sums_right R.rg R.n (rgF_ok R.v R.s R.q R.z R.x (iv_mul d R.y c) R.n) H G R.k R.t1 R.t2
 have ev:R.rg.v R.n=ofF N R.v:=rgF_v _ _ _ _ _ _ _ _ hv
 have e:R.rg.t1 R.n=R.c1:=by
  show Md.pr R.rg.a0 R.rg.b1 R.n+Md.pr R.s R.rg.b0 R.n=_
  rw[e_a0,e_b1,e_b0]
  rfl
 have k:R.rg.t2 R.n=R.c2:=by
  show Md.pr R.s R.rg.b1 R.n=_
  rw[e_b1]
  rfl
 rw[ev,e,k,e_d,e_a,e_b] at h
 have b:R.t1*R.x+R.t2*(R.x*R.x)+R.z*R.z*R.k=R.tau:=by
  show _=R.t1*R.x+R.t2*R.x*R.x+R.z*R.z*R.k
  grind
 rw[show R.rg.x=R.x from rfl,show R.rg.z=R.z from rfl,b] at h
 exact h
theorem point (c:NT.IsP N) (b:R.y.val≠0) :
 D.ad (D.ad (D.ad (D.ad (R.pA D G g k) (D.ac R.x (R.pS D G g k))) (D.ac (-1) (D.ac R.mu G))) (D.ad (D.dt (fun _=>-R.z) g R.n) (D.dt R.sh (R.hh D k) R.n))) (D.ac R.t (D.ac R.w U))=D.hd R.a R.b g (R.hh D k) (D.ac R.w U) R.n:=by
 rw[D.point_pro]
 have h:=D.point_right R.rg R.n (rgF_ok R.v R.s R.q R.z R.x (iv_mul c R.y b) R.n) G g k U R.al R.rho R.w
 have d:=D.shift_dt (pwF R.y) (pwF (ivF R.y)) (pwF (ofF N 2)) R.z k R.n fun i _=>pwF_iv (iv_mul c R.y b) i
 rw[e_a,e_b] at h
 rw[show D.dt R.sh (R.hh D k) R.n=_ from d]
 exact h
end Rv
end
section
open Go.RowKit Go.Sort Go.Deep
variable {P:Nat} [NeZero P] {N:Nat}
end
section
open Go.RowKit Go.Sort Go.Deep Go.Shelf
section
variable {P:Program} {ops:Array Oper} {rest:List Oper} {op:Oper} {a:Act} {w w':World} {v:Value} {Q:Exit→Act→World→Prop}
theorem wpList_build (b:op.guard=none) (e:TypeId) (n:Nat) (k:Array (Nat × Operand)) (_:op.op=.buildSlice e n k) (c:(execOp a.eval op).run P w=.ok (.value v) w') (h:wpList P ops Q rest (a.put op.dst v) w'):wpList P ops Q (op :: rest) a w:=
 wpList_plain b fun K d=>by
  unfold Oper.wp
  rw[c]
  exact d _ _ h
end
variable {P:Nat} [NeZero P]
def valueL:ByteArray:=⟨#[118,97,108,117,101]⟩
noncomputable def cmt (P:Nat) [NeZero P] (n m:Nat):EC.Pt P:=EC.tot (fun j=>if j=0 then .some (hpt P valueL []) else gG P) 2 (fun j=>if j=0 then (n:Int) else (m:Int))
def ComR (P:Nat) [NeZero P] (N:Nat) (w:World) (k b:Bs) (e:Value) (w':World):Prop:=match rq N k,rq N b with
 | some n,some m=>OutP w (wr (cmt P n m)) e w'
 | _,_=>OutE 3 e
theorem two_scs {w:World} {v b:Value} {d k:Bs} (T:TypeId) (h:Arg w v d) (f:Arg w b k):ArgsScs (w.alloc (.cells #[v,b] T)) (some ⟨w.heap.size,0,none⟩) 2 (fun j=>if j=0 then d else k):=fun _ =>
 ⟨w.heap.size,rfl,by rw[World.size_alloc];omega,fun j g=>by
  have e:=(RG.Made.alloc w [v,b] T).range
  have c:j=0∨j=1:=oM
  rcases c with rfl|rfl
  ·exact ⟨v,e 0 _ rfl,h.below (below1 w _)⟩
  ·exact ⟨b,e 1 _ rfl,f.below (below1 w _)⟩⟩
theorem nil_part (w:World):SP.PartOk w (.slice none 0 0) []:=⟨none,0,0,0,#[],rfl,rfl,Nat.le_refl _,dC,Or.inl rfl⟩
theorem pair_some (q:Fin P × Fin P):EC.Pair q.1 q.2 (.some q:EC.Pt P):=⟨rfl,rfl⟩
theorem cmt_wr (C : Fld P) {n m : Nat} (hn : n < top) (hm : m < top) {ns : Nat → Nat} {xs ys : Nat → Fin P} (h0 : ns 0 = n) (h1 : ns 1 = m) (hx0 : xs 0 = (hpt P valueL []).1) (hy0 : ys 0 = (hpt P valueL []).2) (hx1 : xs 1 = gX P) (hy1 : ys 1 = gY P) :
    by33 (ptP (sumJ ns xs ys 2 257)).1 (ptP (sumJ ns xs ys 2 257)).2 = wr (cmt P n m) := by
  have hJ := sumJ_all C (N := 2) (ns := ns) (xs := xs) (ys := ys) (p := fun j => if j = 0 then (.some (hpt P valueL []) : EC.Pt P) else gG P)
    (fun j hj => by have : j = 0 ∨ j = 1 := oM
                    rcases this with rfl | rfl
                    · rw [h0]; exact hn
                    · rw [h1]; exact hm)
    (fun j hj => by have : j = 0 ∨ j = 1 := oM
                    rcases this with rfl | rfl
                    · rw [hx0, hy0]; exact pair_some _
                    · rw [hx1, hy1]; exact pair_some (gX P, gY P))
    (fun j hj => by have : j = 0 ∨ j = 1 := oM
                    rcases this with rfl | rfl
                    · exact hpt_on C _ _
                    · exact gG_on C)
  have e1 := by33_wr C (hJ.pair C) hJ.2
  have e2 : EC.tot (fun j => if j = 0 then (.some (hpt P valueL []) : EC.Pt P) else gG P) 2 (fun j => (ns j : Int)) = cmt P n m := EC.tot_congr 2 fun j hj => by
    have : j = 0 ∨ j = 1 := oM
    rcases this with rfl | rfl
    · rw [h0]; rfl
    · rw [h1]; rfl
  rw [e2] at e1
  exact e1
theorem Commit_c {N:Nat} (C:Fld P) (hG:Gap 4624529908474429119 4994812053365940164 1 N) (V:N≤top) (v0 v1:Value) (r a:Bs) (w:World) (h0:Arg w v0 r) (h1:Arg w v1 a) :
 Calls Tryz.prog 34 #[v0,v1] w (Ret fun e w'=>Below w.heap.size w w'∧ComR P N w r a e w'):=by
 have hA:=two_scs 23 h0 h1
 obtain ⟨p0,n0,c0,rfl,-,-⟩:=h0
 obtain ⟨p1,n1,c1,rfl,-,-⟩:=h1
 have W:=Scs_c hG 2 2 dC _ _ _ hA
 go_enter Tryz.func34,Tryz.ntmps34
 go_wp2_with fail
 refine W.mono ?_
 rintro e o ⟨v,rfl,K,⟨k,ha,h7,rfl,A⟩|⟨⟨j,I,b⟩,rfl⟩⟩
 ·obtain ⟨n,hn,h5⟩:=A 0 dC
  obtain ⟨m,hm,h6⟩:=A 1 dC
  have Y:=mk1 ((below1 w _).trans (K.mono (by rw[World.size_alloc];omega)))
  have S:=mk3 h7 h5 h6
  have F:Hid (rq N r=some n∧rq N a=some m):=⟨hn,hm⟩
  go_wp2_with fail
  refine (pointsOf_c valueL none 0 0 o).mono ?_
  rintro e w2 ⟨v,rfl,rfl,rfl⟩
  have X:=firstOf_c C valueL none 0 0 [] o dC (nil_part o)
  obtain ⟨q,hq⟩:=hE (hpt P valueL [])
  rw[hq.out] at X
  obtain ⟨x,y⟩:=q
  obtain ⟨gx,U⟩:=hE (gX P)
  obtain ⟨p,Q⟩:=hE (gY P)
  have D:=base_c C
  rw[U.out,Q.out] at D
  obtain ⟨v4,O⟩:=hE (pv x y)
  obtain ⟨v5,M⟩:=hE (pv gx p)
  replace X:Calls Tryz.prog 67 #[.func (.func 117) #[] #[.pointer (some ⟨o.heap.size,0,none⟩),.pointer (some ⟨o.heap.size+1,0,none⟩)]] ((o.alloc (.cells #[.string valueL] 9)).alloc (.cells #[.slice none 0 0] 23)) (Ret fun e w'=>Below o.heap.size o w'∧e=v4):=by rw[← O.out];exact X
  rw[M.out] at D
  go_wp2_with fail
  refine X.mono ?_
  rintro e w3 ⟨v,rfl,u,rfl⟩
  have L:=mk1 (Y.out.trans (u.mono Y.out.size))
  have c:=mk3 (Nat.lt_of_lt_of_le S.out.1 u.size) (RG.range_below S.out.2.1 u S.out.1) (RG.range_below S.out.2.2 u S.out.1)
  go_wp2_with fail
  refine (D _).mono ?_
  rintro e B ⟨v,rfl,t,rfl⟩
  have R:=mk1 (L.out.trans (t.mono L.out.size))
  have d:=mk3 (Nat.lt_of_lt_of_le c.out.1 t.size) (RG.range_below c.out.2.1 t c.out.1) (RG.range_below c.out.2.2 t c.out.1)
  obtain ⟨l,J⟩:=hE (B.alloc (.cells ((ws x++ws y)++(ws gx++ws p)).toArray 131))
  go_wp2_with (refine wpList_build (v:=.slice (some ⟨B.heap.size,0,none⟩) 2 2) (w':=l) rfl 138 2 _ rfl ?_ ?_;rw[← J.out,← O.out,← M.out];kernel_rfl;refine Hid.out ?_)
  have G:Hid (Below w.heap.size w l∧k<l.heap.size∧B.heap.size<l.heap.size∧(∀ i,i<2→l.rangeAt k (4*i) (wn (if i=0 then n else m)))∧∀ i,i<2→l.rangeAt B.heap.size (8*i) (ws (if i=0 then x else gx)++ws (if i=0 then y else p))):=by
   have f:=RG.Made.alloc B ((ws x++ws y)++(ws gx++ws p)) 131
   have T:=J.out
   rw[T] at f
   refine ⟨R.out.trans (f.bel.mono R.out.size),Nat.lt_of_lt_of_le d.out.1 f.bel.size,f.lt,fun i H=>?_,fun i H=>?_⟩
   ·have:i=0∨i=1:=oM
    rcases this with rfl|rfl
    ·exact RG.range_below d.out.2.1 f.bel d.out.1
    ·exact RG.range_below d.out.2.2 f.bel d.out.1
   ·have:i=0∨i=1:=oM
    rcases this with rfl|rfl
    ·intro j v I
     have E:=(List.getElem?_eq_some_iff.1 I).1
     have:=f.range j v (by rw[List.getElem?_append_left (show j<(ws x++ws y).length from E)];exact I)
     exact this
    ·intro j v I
     have:=f.range (8+j) v (by rw[List.getElem?_append_right (show (ws x++ws y).length≤8+j from Nat.le_add_right 8 j),show 8+j-(ws x++ws y).length=j from Nat.add_sub_cancel_left 8 j];exact I)
     rw[Nat.zero_add] at this
     exact this
  show wpList _ _ _ _ _ _
  have W:Calls Tryz.prog 66 #[.slice (some ⟨k,0,none⟩) 2 2,.slice (some ⟨B.heap.size,0,none⟩) 2 2] l (Ret fun e w'=>Below l.heap.size l w'∧e=pv (ptP (sumJ (fun i=>if i=0 then n else m) (fun i=>if i=0 then x else gx) (fun i=>if i=0 then y else p) 2 257)).1 (ptP (sumJ (fun i=>if i=0 then n else m) (fun i=>if i=0 then x else gx) (fun i=>if i=0 then y else p) 2 257)).2):=by
   refine (sums_c C 2 dC (fun i=>if i=0 then n else m) (fun i=>if i=0 then x else gx) (fun i=>if i=0 then y else p) (fun i H=>?_) k B.heap.size l G.out.2.1 G.out.2.2.1 G.out.2.2.2.1 G.out.2.2.2.2).mono ?_
   ·have:i=0∨i=1:=oM
    rcases this with rfl|rfl
    ·exact rq_top V F.out.1
    ·exact rq_top V F.out.2
   ·rintro e w' ⟨v,rfl,f,s,rfl,rfl⟩
    exact ⟨_,rfl,f,rfl⟩
  have hW:=cmt_wr C (n:=n) (m:=m) (rq_top V F.out.1) (rq_top V F.out.2) (ns:=fun i=>if i=0 then n else m) (xs:=fun i=>if i=0 then x else gx) (ys:=fun i=>if i=0 then y else p) rfl rfl (by rw[hq.out];rfl) (by rw[hq.out];rfl) (by rw[U.out];rfl) (by rw[Q.out];rfl)
  generalize ptP (sumJ (fun i=>if i=0 then n else m) (fun i=>if i=0 then x else gx) (fun i=>if i=0 then y else p) 2 257)=z at W hW
  have H:∀ w,Calls Tryz.prog 70 #[pv z.1 z.2] w (Ret fun e w'=>Below w.heap.size w w'∧BytesR w (by33 z.1 z.2) e w'):=bytes_c C _ _
  rw[hW] at H
  go_wp2_with fail
  refine W.mono ?_
  rintro e w6 ⟨v,rfl,h2,rfl⟩
  have E:=mk1 (G.out.1.trans (h2.mono G.out.1.size))
  go_wp2_with fail
  refine (H _).mono ?_
  rintro e w7 ⟨v,rfl,h4,g,f,rfl,h9,Z,T,h8⟩
  have h3:=mk1 (E.out.trans (h4.mono E.out.size))
  have HO:Hid (ComR P N w r a (.tuple #[.slice (some ⟨g,0,none⟩) 33 f,.int .i64 0]) w7):=by
   show ComR P N w r a (.tuple #[.slice (some ⟨g,0,none⟩) 33 f,.int .i64 0]) w7
   unfold ComR
   rw[F.out.1,F.out.2]
   exact ⟨g,f,rfl,h9,Nat.le_trans E.out.size Z,T,h8⟩
  go_wp2
  go_ret2
  exact ⟨_,rfl,h3.out,HO.out⟩
 ·have Y:=mk1 ((below1 w _).trans (K.mono (by rw[World.size_alloc];omega)))
  have HO:Hid (ComR P N w r a (.tuple #[.slice none 0 0,.int .i64 3]) o):=by
   show ComR P N w r a (.tuple #[.slice none 0 0,.int .i64 3]) o
   unfold ComR
   have:j=0∨j=1:=oM
   rcases this with rfl|rfl
   ·have b:rq N r=none:=b
    rw[b];rfl
   ·have b:rq N a=none:=b
    rw[b]
    cases rq N r<;>rfl
  go_wp2
  go_ret2
  exact ⟨_,rfl,Y.out,HO.out⟩
end
section
open Go.RowKit Go.Sort Go.Deep
variable {P:Nat} [NeZero P] {N:Nat}
theorem rq_bxO (O:Ord N) {n:Nat} (k:n<N):rq N (bx n)=some n:=by
 have hv:=bx_val (Nat.lt_of_lt_of_le k O.le)
 unfold rq
 rw[hv,if_pos ⟨bx_size n,k⟩]
def Ez (W:World) (v:Value) (T:Bs):Prop:=∃ g c,v=.slice (some ⟨g,0,none⟩) 33 c∧33≤c∧g<W.heap.size∧Holds encB W g 0 T
theorem Ez.grow {W W':World} {v:Value} {T:Bs} (h:Ez W v T) (k:Below W.heap.size W W'):Ez W' v T:=by
 obtain ⟨g,c,f,d,b,e⟩:=h
 exact ⟨g,c,f,d,Nat.lt_of_lt_of_le b k.size,Holds.below e k b⟩
def Et (W:World) (v:Value) (T:Bs):Prop:=∃ u,v=.tuple #[u,.int .i64 0]∧Ez W u T
section
variable (w:World) (k2 k3 k4 a b:Nat) (T:Bs)
def RC1:Nat→Value→World→Prop
 | 0,v,_=>v=nv a
 | 1,v,W=>El 32 W v (bx a)
 | 2,v,_=>v=nv b
 | 3,v,W=>El 32 W v (bx b)
 | 4,v,W=>Et W v T
 | 5,v,W=>Et W v T
 | 6,v,W=>Ez W v T
 | 7,v,_=>v=.int .i64 0
 | 8,v,W=>Ez W v T
 | 9,v,_=>v=.int .i64 0
 | _,_,_=>True
def GC1:RG.Gw:=⟨RC1 a b T,fun W=>Kp w W [(k4,z33),(k3,wn b),(k2,wn a)],fun i v W W' k h=>by
 match i,h with
 | 0,h=>exact h
 | 1,h=>exact El.below h k (Nat.le_refl _)
 | 2,h=>exact h
 | 3,h=>exact El.below h k (Nat.le_refl _)
 | 4,h=>obtain ⟨u,d,c⟩:=h;exact ⟨u,d,c.grow k⟩
 | 5,h=>obtain ⟨u,d,c⟩:=h;exact ⟨u,d,c.grow k⟩
 | 6,h=>exact Ez.grow h k
 | 7,h=>exact h
 | 8,h=>exact Ez.grow h k
 | 9,h=>exact h
 | _+10,_=>trivial,fun W W' k h=>h.grow k⟩
end
theorem cCommit_c (C:Fld P) (O:Ord N) {a b:Nat} (R:a<N) (U:b<N):Gives 14 #[nv a,nv b] (pvl (wr (cmt P a b))):=by
 intro w
 obtain ⟨T,D⟩:=hE (wr (cmt P a b))
 have J:T.size=33:=by rw[← D.out];exact wr_size _
 have t:=mk3 O R U
 have HC:Hid (∀ (v0 v1:Value) (W:World),El 32 W v0 (bx a)→El 32 W v1 (bx b)→Calls Tryz.prog 34 #[v0,v1] W (Ret fun e w'=>Below W.heap.size W w'∧Et w' e T)):=fun v0 v1 W h0 X=>by
  refine (Commit_c (N:=N) C O.gap O.le v0 v1 (bx a) (bx b) W h0.arg X.arg).mono ?_
  rintro e W' ⟨u,rfl,f,hR⟩
  unfold ComR at hR
  rw[rq_bxO O R,rq_bxO O U] at hR
  obtain ⟨g,c,rfl,k,z,p,i⟩:=hR
  rw[D.out] at i
  exact ⟨_,rfl,f,_,rfl,g,c,rfl,k,p,i⟩
 rw[D.out]
 obtain ⟨va,r⟩:=hE (nv a)
 obtain ⟨vb,o⟩:=hE (nv b)
 have Q:=boxS a w
 obtain ⟨j,l⟩:=hE (w.alloc (.cells (wn a).toArray 44))
 have E:=boxS b j
 obtain ⟨i,m⟩:=hE (j.alloc (.cells (wn b).toArray 44))
 obtain ⟨n,f⟩:=hE (i.alloc (.cells z33.toArray 51))
 rw[r.out,l.out] at Q
 rw[o.out,m.out] at E
 rw[r.out,o.out]
 have F:j.heap.size=w.heap.size+1:=by rw[← l.out,World.size_alloc]
 have S:i.heap.size=w.heap.size+2:=by rw[← m.out,World.size_alloc,F]
 rw[F] at E
 have s:Hid (Kp w n [(w.heap.size+2,z33),(w.heap.size+1,wn b),(w.heap.size,wn a)]):=by
  have k:Row j w.heap.size (wn a):=by rw[← l.out];exact row_new w _ _
  have z:Row i (w.heap.size+1) (wn b):=by rw[← m.out,← F];exact row_new j _ _
  have p:Row n (w.heap.size+2) z33:=by rw[← f.out,← S];exact row_new i _ _
  have b1:Below w.heap.size w j:=by rw[← l.out];exact below1 w _
  have y:Below j.heap.size j i:=by rw[← m.out];exact below1 j _
  have q:Below i.heap.size i n:=by rw[← f.out];exact below1 i _
  refine ⟨(b1.trans (y.mono oM)).trans (q.mono oM),fun x hx=>?_⟩
  simp only[List.mem_cons,List.not_mem_nil,or_false] at hx
  rcases hx with rfl|rfl|rfl
  ·exact p
  ·exact z.below q
  ·exact (k.below y).below q
 have BA:=Hid.mk' Q
 have BB:=Hid.mk' E
 have Y:=Hid.mk' S
 go_enter Tryz.func14,Tryz.ntmps14
 go_wp2_with (first|(refine wpList_box (u:=va) (v:=.pointer (some ⟨w.heap.size,0,none⟩)) (w':=j) rfl 44 (.tmp 0) rfl ?_ ?_ ?_;rfl;exact BA.out)|(refine wpList_box (u:=vb) (v:=.pointer (some ⟨w.heap.size+1,0,none⟩)) (w':=i) rfl 44 (.tmp 1) rfl ?_ ?_ ?_;rfl;exact BB.out)|(refine wpList_op (v:=.pointer (some ⟨w.heap.size+2,0,none⟩)) (w:=i) (w':=n) rfl (.alloc 51) rfl ?_ ?_;(rw[← f.out,← Y.out];kernel_rfl))|fail)
 refine (GC1 w w.heap.size (w.heap.size+1) (w.heap.size+2) a b T).draws kR kR ⟨
  RG.gw_load 44 2 rfl u40 fun x W k=>⟨w.heap.size,0,wn a,k.o 2 kR,(k.b.at 2 rfl).2.1,i40,rfl⟩,
  RG.gw_call fun x W k=>⟨[(8,nv a)],10,#[nv a],⟨k.n 0 8 kR kR,trivial⟩,kR,by
   refine (sbytes_c t.out.1 t.out.2.1 W).mono ?_
   rintro e W' ⟨u,rfl,q,p,rfl⟩
   exact ⟨_,rfl,p.bel,El.of_made p (bx_size a)⟩⟩,
  RG.gw_load 44 3 rfl u40 fun x W k=>⟨w.heap.size+1,0,wn b,k.o 3 kR,(k.b.at 1 rfl).2.1,i40,rfl⟩,
  RG.gw_call fun x W k=>⟨[(10,nv b)],10,#[nv b],⟨k.n 2 10 kR kR,trivial⟩,kR,by
   refine (sbytes_c t.out.1 t.out.2.2 W).mono ?_
   rintro e W' ⟨u,rfl,q,p,rfl⟩
   exact ⟨_,rfl,p.bel,El.of_made p (bx_size b)⟩⟩,
  RG.gw_call fun x W k=>⟨[(9,x.eval (.tmp 9)),(11,x.eval (.tmp 11))],34,#[x.eval (.tmp 9),x.eval (.tmp 11)],⟨rfl,rfl,trivial⟩,kR,HC.out _ _ W (k.n 1 9 kR kR) (k.n 3 11 kR kR)⟩,
  RG.gw_val fun x W k=>⟨[(12,x.eval (.tmp 12))],x.eval (.tmp 12),W,⟨rfl,trivial⟩,kR,Below.refl _ _,k.n 4 12 kR kR⟩,
  RG.gw_val fun x W k=>by
   obtain ⟨u,p,q⟩:=show Et W (x.eval (.tmp 7)) T from k.n 5 7 kR kR
   exact ⟨[(7,.tuple #[u,.int .i64 0])],u,W,⟨p,trivial⟩,kR,Below.refl _ _,q⟩,
  RG.gw_val fun x W k=>by
   obtain ⟨u,p,q⟩:=show Et W (x.eval (.tmp 7)) T from k.n 5 7 kR kR
   exact ⟨[(7,.tuple #[u,.int .i64 0])],.int .i64 0,W,⟨p,trivial⟩,kR,Below.refl _ _,rfl⟩,
  RG.gw_val fun x W k=>⟨[(13,x.eval (.tmp 13))],x.eval (.tmp 13),W,⟨rfl,trivial⟩,kR,Below.refl _ _,k.n 6 13 kR kR⟩,
  RG.gw_val fun x W k=>⟨[(14,.int .i64 0)],.int .i64 0,W,⟨k.n 7 14 kR kR,trivial⟩,kR,Below.refl _ _,rfl⟩,trivial⟩ s.out.drew ?_
 intro V H I B
 obtain ⟨g,cg,K,-,k3,Z⟩:=show Ez H (V 8) T from I 8 (Nat.lt_of_succ_le (Nat.le_of_ble_eq_true kR))
 have p:=B
 have z:=mk3 (p.at 0 rfl) p.bl (row_cp Z k3)
 dsimp only[RG.putV,Nat.reduceAdd]
 rw[K]
 have L:=arrCP g cg
 obtain ⟨n,f⟩:=hE (H.setCells (w.heap.size+2) 0 (bl33 T))
 have k:=bl33_length J
 have s:Hid (Row n (w.heap.size+2) (bl33 T)∧Below w.heap.size w n):=by rw[← f.out];exact ⟨z.out.1.put (by rw[k];rfl),RG.below_setCells oM _ _ _ z.out.2.1⟩
 obtain ⟨vt,q⟩:=hE (Value.agg (bl33 T).toArray)
 obtain ⟨d,A,G⟩:=Option.map_eq_some_iff.1 uCP
 have M:=mk2 A G
 have y:Hid ((Tryz.prog.info? 51).map (·.size)=some (bl33 T).length∧H.there (w.heap.size+2) 0 (bl33 T).toArray.size∧(Tryz.prog.info? 51).map (·.size)=some (bl33 T).toArray.size):=by
  have e:(bl33 T).toArray.size=33:=by rw[List.size_toArray];exact k
  refine ⟨by rw[k];exact infoCP,by rw[e];exact z.out.1.2.2,by rw[e];exact infoCP⟩
 go_wp2_with (first|(refine wpList_load_mid rfl 51 _ rfl g 0 ?_ (bl33 T) d ?_ ?_ ?_ ?_ ?_;rfl;exact z.out.2.2.2.1;exact M.out.1;exact M.out.2;exact y.out.1;rw[q.out])|(refine wpList_store_mid rfl 51 _ _ rfl (w.heap.size+2) 0 (bl33 T).toArray ?_ ?_ ?_ ?_ ?_ ?_;rfl;exact q.out.symm;exact y.out.2.1;exact y.out.2.2;exact bl33_one T;rw[show (bl33 T).toArray.toList=bl33 T from rfl,f.out])|fail)
 refine bodyPost_ret (results_cell 4 51 rfl s.out.1 rfl uCP y.out.1) rfl ?_
 exact ⟨_,rfl,s.out.2,rfl⟩
end
section
open Go.RowKit Go.Sort Go.Deep Go.Shelf
attribute [local go_sem] Oper.semAt_some
def chv (b k c i:Nat):Value:=.slice (some ⟨b,k+c*i,none⟩) c c
theorem grown_bc {w w':World} (h:Below w.heap.size w w') (row:Option Nat):w.grownBy w' row:=⟨h.os,h.tape,h.output,h.size,fun k b _=>h.block k b⟩
theorem sl3 (b k n cap x y:Nat) (i:x<y) (c:y≤cap) (w:World):(Instr.sliceAt 23 (.slice (some ⟨b,k,none⟩) n cap) (some (.int .i64 x)) (some (.int .i64 y)) (some (.int .i64 y))).run Tryz.prog w=.ok (.slice (some ⟨b,k+x,none⟩) (y-x) (y-x)) w:=by
 have f:¬ y=x:=oM
 have g:(x:Int)≤y:=oM
 have e:(y:Int)≤cap:=oM
 have d:x≤y:=oM
 go_simp
theorem chunk_c (k b c m n cap o d:Nat) (w:World) (Z:0<c) (G:n=c*m) (F:n≤cap) (H:n≤1073741824) (D:w.cell? ⟨o,0,none⟩=some (.slice (some ⟨k,b,none⟩) n cap)) (v:w.cell? ⟨d,0,none⟩=some (.int .i64 c)) (T:o<w.heap.size) (E:d<w.heap.size) (O:Nat) :
 SeqStopsK Fence.wide O Tryz.prog 158 #[.pointer (some ⟨o,0,none⟩),.pointer (some ⟨d,0,none⟩)] (fun i:Nat=>#[chv k b c i]) (Below w.heap.size) (fun xs=>xs=List.range m) (fun _=>True) m w:=by
 intro l J V W S U R Q N
 have C:Hid (n=c*m):=G
 clear G
 refine callsIn_of_wp Tryz.func158 rfl trivial ?_ rfl
 simp only[Tryz.ntmps158,List.size_toArray,List.length_cons,List.length_nil,Nat.reduceAdd,Nat.reduceSub,Array.replicate_succ,Array.replicate_zero,List.push_toArray,List.append_toArray,List.nil_append,List.cons_append]
 gi_wp2
 gi_loopw [4] (fun p wr=>∃ i:Nat,i≤m∧p=.int .i64 ((c*i:Nat):Int)∧J (List.range i) wr∧Below w.heap.size w wr∧W.heap.size≤wr.heap.size) (fun p wr=>n-(intOf p).toNat)
 case atStart =>
  exact ⟨0,Nat.zero_le _,by rw[Nat.mul_zero];rfl,N,S,Nat.le_refl _⟩
 case round =>
  obtain ⟨i,Y,rfl,s,z,B⟩:=hrel
  have c1:wr.cell? ⟨o,0,none⟩=some (.slice (some ⟨k,b,none⟩) n cap):=(World.cell?_of_block (z.block o T)).trans D
  have c2:wr.cell? ⟨d,0,none⟩=some (.int .i64 c):=(World.cell?_of_block (z.block d E)).trans v
  by_cases M:i=m
  ·subst M
   have f:¬ ((c*i:Nat):Int)<(n:Int):=by rw[C.out];omega
   gi_wp2
   go_end0
   exact ⟨⟨_,rfl⟩,.inl s⟩
  ·obtain ⟨x,hx⟩:∃ x,Hid (c*i=x):=⟨_,rfl⟩
   have L:x+c≤n:=by
    have:=Nat.mul_le_mul_left c (show i+1≤m by omega)
    rw[Nat.mul_add,hx.out,← C.out] at this
    omega
   have A:(x:Int)<(n:Int):=oM
   rw[hx.out]
   gi_wp2_with fail
   refine wpIn_wide.2 ?_
   have j:(Instr.sliceAt 23 (.slice (some ⟨k,b,none⟩) n cap) (some (.int .i64 x)) none none).run Tryz.prog wr.drew=.ok (.slice (some ⟨k,b+x,none⟩) (n-x) (cap-x)) wr.drew:=by
    have D:¬ (x:Int)<0:=oM
    have v:(x:Int)≤n:=oM
    have g:(n:Int)≤cap:=oM
    have f:¬ cap=x:=oM
    go_simp
   have f:wr.drew.cell? ⟨o,0,none⟩=some (.slice (some ⟨k,b,none⟩) n cap):=c1
   have q:wr.drew.cell? ⟨d,0,none⟩=some (.int .i64 c):=c2
   go_region
   rename_i K ha
   refine ha _ _ ?_
   clear ha j f q A
   obtain ⟨fn,tmps,u,I,a,hR⟩:=Q (List.range i) i wr.drew (U _ wr _ none s (grown_bc ((Below.refl _ wr).drew) none) (fun _ e=>by cases e)) (by rw[List.length_range];omega)
   have f:wr.drew.cell? ⟨o,0,none⟩=some (.slice (some ⟨k,b,none⟩) n cap):=c1
   have q:wr.drew.cell? ⟨d,0,none⟩=some (.int .i64 c):=c2
   have j:∀ w:World,(Instr.sliceAt 23 (.slice (some ⟨k,b,none⟩) n cap) (some (.int .i64 x)) (some (.int .i64 ((x+c:Nat):Int))) (some (.int .i64 ((x+c:Nat):Int)))).run Tryz.prog w=.ok (.slice (some ⟨k,b+x,none⟩) c c) w:=fun w=>by
    have:=sl3 k b n cap x (x+c) oM oM w
    rwa[show x+c-x=c by omega] at this
   unfold chv at a
   rw[hx.out] at a
   gi_wp2_with fail
   clear a
   refine ⟨fun h=>(by cases h),hR.mono ?_⟩
   clear hR j f q c1
   have r:Below w.heap.size w wr.drew:=z.drew
   rintro e P (⟨rfl,y,g⟩|⟨rfl,t⟩)
   ·have X:P.cell? ⟨d,0,none⟩=some (.int .i64 c):=(World.cell?_of_block ((r.trans g).block d E)).trans v
    gi_wp2_with fail
    refine ⟨⟨i+1,oM,?_,?_,r.trans g,Nat.le_trans B g.size⟩,?_⟩
    ·rw[Nat.mul_add,hx.out,Nat.mul_one];rfl
    ·rw[List.range_succ];exact y
    ·simp[intOf]
     omega
   ·gi_wp2_with fail
    refine bodyPost_ret (results_none rfl _ _ _) rfl ?_
    exact ⟨⟨_,rfl⟩,.inr ⟨_,trivial,t⟩⟩
end
section
open Go.RowKit Go.Sort Go.Deep Go.Shelf
attribute [local go_sem] Oper.semAt_some
theorem ownsRow_own (k:Nat) (T:TypeId) (v:Value) (n:Nat) (xs:List Value):Own (fun (_:Unit) W=>W.ownsRow k T 1 v n xs):=fun s A B row c d e=>by
 refine c.kept d ?_
 rcases c.2 with ⟨rfl,_⟩|⟨g,cap,cur,rfl,_,b,_⟩
 ·exact .inl rfl
 ·refine .inr fun e'=>?_
  obtain ⟨o,ho,f⟩:=e g (by simpa[Value.ownBlock] using e'.symm)
  rw[b] at ho;cases ho;cases f
theorem ownsRow_apart {W:World} {b:Nat} {T U:TypeId} {v:Value} {n k:Nat} {xs:List Value} (h:W.ownsRow b T 1 v n xs) {o:Obj} (d:W.heap[k]? = some o) (e:∀ cs,o≠.cells cs T (0,0)):v.ownBlock=none∨v.ownBlock≠some k:=by
 rcases h.2 with ⟨rfl,_⟩|⟨g,cap,cur,rfl,_,c,_⟩
 ·exact .inl rfl
 ·refine .inr fun e'=>?_
  have:g=k:=by simpa[Value.ownBlock] using e'
  subst this;rw[c] at d;cases d;exact e cur rfl
theorem ko_grown {W W':World} {b:Nat} {T:TypeId} {v:Value} {n:Nat} {xs:List Value} (h:W.ownsRow b T 1 v n xs) (f:W.grownBy W' v.ownBlock):KeepsOthers W W':=by
 refine ⟨f.size,fun k o c ho=>?_⟩
 rw[f.block k (Array.getElem?_eq_some_iff.1 c).1 ?_]
 ·exact c
 ·rcases h.2 with ⟨rfl,_⟩|⟨g,cap,cur,rfl,_,d,_⟩
  ·simp[Value.ownBlock]
  ·intro e
   have:k=g:=by simpa[Value.ownBlock] using e
   subst this;rw[d] at c;cases c;cases ho
def Box (T U:TypeId) (k Bs:Nat) (xs:List Value) (W:World):Prop:=∃ v,W.heap[Bs]? = some (.cells #[v] U (0,0))∧W.ownsRow k T 1 v xs.length xs∧(v=.slice none 0 0↔xs=[])
theorem box_own (T U:TypeId) (k Bs:Nat) (xs:List Value):Own (fun (_:Unit) W=>Box T U k Bs xs W):=fun s A B row j c d=>by
 obtain ⟨v,b,f,g⟩:=j
 refine ⟨v,?_,ownsRow_own k T v _ xs () A B row f c d,g⟩
 rw[c.block Bs (Array.getElem?_eq_some_iff.1 b).1 ?_]
 ·exact b
 ·intro e
  obtain ⟨o,ho,i⟩:=d Bs e.symm
  rw[b] at ho;cases ho;cases i
theorem box_set {W:World} {B:Nat} {v:Value} {t:TypeId} (b:Value) (h:W.heap[B]? = some (.cells #[v] t (0,0))):(W.setCell ⟨B,0,none⟩ b).heap[B]? = some (.cells #[b] t (0,0)):=by
 obtain ⟨k,c⟩:=Array.getElem?_eq_some_iff.1 h
 show (W.heap.modify B _)[B]? = _
 rw[Array.getElem?_eq_getElem (by rw[Array.size_modify];exact k),Array.getElem_modify_self,c]
 rfl
theorem box_grown (W:World) (b:Nat) (v:Value):W.grownBy (W.setCell ⟨b,0,none⟩ v) (some b):=
 ⟨rfl,rfl,rfl,(KeepsOthers.setCell W _ v).size,fun k _ c=>Below.heap_setCell _ _ _ k (fun e=>c (by rw[e]))⟩
theorem iBy:(Tryz.prog.info? 23).map (fun i=>(i.zero,i.size,i.bytes))=some (some (.slice none 0 0),1,24):=kR
theorem uBB:Tryz.prog.underlying 27=some (.slice 23):=kR
theorem appendSeq_c (g:Nat→Addr) (c:Nat) (gf:Nat) (eg:∀ args w,(callFunc gf args).run Tryz.prog w=.ok (.enter gf args) w) (lb:Array Value) (N:Nat) (hN:N≤1048576) (w:World)
 (J:∀ n,SeqStopsK Fence.wide n Tryz.prog gf lb (fun i:Nat=>#[.slice (some (g i)) c c]) (Below w.heap.size) (fun xs=>xs=List.range N) (fun _=>True) N w) :
 Calls Tryz.prog 157 #[.slice none 0 0,.func (.func gf) #[] lb] w (Ret fun e w'=>Below w.heap.size w w'∧w'.ownsRow w.heap.size 23 1 e N ((List.range N).map (fun i=>Value.slice (some (g i)) c c))∧(e=.slice none 0 0↔N=0)):=by
 obtain ⟨i0,hi,Y,X,h4⟩:=info_parts iBy
 refine (callsIn_wide (n:=5)).1 ?_
 refine callsIn_of_wp_marks Tryz.func157 rfl trivial ?_ rfl
 simp only[Tryz.ntmps157,List.size_toArray,List.length_cons,List.length_nil,Nat.reduceAdd,Nat.reduceSub,Array.replicate_succ,Array.replicate_zero,List.push_toArray,List.append_toArray,List.nil_append,List.cons_append]
 gi_wp2
 obtain ⟨O,q⟩:∃ O,O=w.alloc (.cells #[.slice none 0 0] 27):=⟨_,rfl⟩
 have h8:O.heap.size=w.heap.size+1:=by rw[q,World.size_alloc]
 have V:O.heap[w.heap.size]? = some (.cells #[.slice none 0 0] 27 (0,0)):=by rw[q];exact World.alloc_heap_new w _
 have G:Below w.heap.size w O:=by rw[q];exact (Below.refl _ w).alloc (Nat.le_refl _) _
 rw[← q]
 clear q
 refine wpIn_rangeFunc_ownH (α:=Nat) rfl dC (gf:=gf) (lb:=lb) rfl trivial eg (J 4) belowK_t (belowK_b oM) G (fun _=>rfl)
  (fun b W=>Box 23 27 w.heap.size w.heap.size (b.map (fun i=>Value.slice (some (g i)) c c)) W∧Below w.heap.size w W)
  (fun c b W=>False)
  (OwnFrom.and (Own.from (show Own (fun (b:List Nat) W=>Box 23 27 w.heap.size w.heap.size (b.map (fun i=>Value.slice (some (g i)) c c)) W) from fun s A B row d f L=>box_own 23 27 w.heap.size w.heap.size (s.map (fun i=>Value.slice (some (g i)) c c)) () A B row d f L) _) (ownFrom_below (Nat.le_refl _) oM))
  (fun c=>fun s A B row d f L=>d.elim)
  ⟨⟨_,V,⟨rfl,.inl ⟨rfl,rfl⟩⟩,by simp⟩,G⟩
  (fun x a' W=>a' = { tmps:=#[.slice none 0 0,.func (.func gf) #[] lb,.pointer (some ⟨w.heap.size,0,none⟩),undef,.slice none 0 0,(.slice (some (g x)) c c),.func (.func gf) #[] lb,(.slice (some (g x)) c c),undef,undef,undef,undef,undef],defers:=[] })
  (fun x a'=>fun s A B row d f L=>d) ?assign ?body ?done ?stop
 case assign =>
  intro l b x W K d H
  gi_wp2
  exact H _ _ (KeepsFrom.refl _ _) (Below.refl _ _) d rfl
 case body =>
  rintro l b x a' W hl ⟨r,L⟩ ⟨⟨v,hv,j,A⟩,I⟩ rfl h9
  have hc:W.cell? ⟨w.heap.size,0,none⟩=some v:=by simp[World.cell?,hv]
  have h6:W.frozen? ⟨w.heap.size,0,none⟩=false:=by simp[World.frozen?,hv]
  have C:w.heap.size<W.heap.size:=(Array.getElem?_eq_some_iff.1 hv).1
  have p:(b.map (fun i=>Value.slice (some (g i)) c c)).length=b.length:=List.length_map _
  have f:(W.alloc (.cells #[(.slice (some (g x)) c c)] 23)).ownsRow w.heap.size 23 1 v (b.map (fun i=>Value.slice (some (g i)) c c)).length (b.map (fun i=>Value.slice (some (g i)) c c)):=j.alloc _
  have F:(W.alloc (.cells #[(.slice (some (g x)) c c)] 23)).heap[w.heap.size]? = some (.cells #[v] 27 (0,0)):=(Below.heap_alloc _ _ _ C).trans hv
  have T:=ownsRow_apart (U:=0) f F (fun cs e=>by cases e)
  gi_wp2_with (gi_at_builtin;refine Hid.out ?_)
  show wpListIn _ _ _ _ _ _ _ _
  (refine wpListIn_append_own _ rfl _ _ 27 rfl w.heap.size 23 i0 (.slice none 0 0) 1 24 uBB hi Y X h4 rfl dC v _ _ rfl f ⟨W.heap.size,0,none⟩ 1 1 [(.slice (some (g x)) c c)] rfl rfl (cell_one_new _ _ _) (fun u hu=>by rw[List.mem_singleton.1 hu];rfl) (by rw[p];exact Nat.le_trans (show b.length+1≤1048577 by omega) dC) (by rw[p];omega) (by simp;omega) ?_;intro v' t m y R)
  have S:(some w.heap.size:Option Nat)≠v.ownBlock:=by
   rcases T with e|e
   ·rw[e];simp
   ·exact fun e'=>e e'.symm
  have a:t.heap[w.heap.size]? = some (.cells #[v] 27 (0,0)):=(y.block _ (by rw[World.size_alloc];omega) S).trans F
  have hb:t.cell? ⟨w.heap.size,0,none⟩=some v:=by simp[World.cell?,a]
  have ha:t.frozen? ⟨w.heap.size,0,none⟩=false:=by simp[World.frozen?,a]
  have h5:KeepsOthers W t:=(KeepsOthers.alloc W _).trans (ko_grown f y)
  have M:Below w.heap.size W t:=((Below.refl _ W).alloc (Nat.le_of_lt C) _).grown y (by rw[World.size_alloc];omega) (fun k e=>(f.lt k e).1)
  obtain ⟨z,d,o,rfl,Q,h7,L⟩:∃ z d o,v'=.slice (some ⟨z,0,none⟩) ((b.map (fun i=>Value.slice (some (g i)) c c)).length+1) d∧w.heap.size≤z∧t.heap[z]? = some (.cells o 23 (0,0))∧True:=by
   rcases m.2 with ⟨_,P⟩|⟨z,d,o,E,K,Z,_⟩
   ·exact absurd P oM
   ·exact ⟨z,d,o,E,K,Z,trivial⟩
  clear y hc h6 hv F j f
  gi_wp2
  have P:=box_grown t w.heap.size (.slice (some ⟨z,0,none⟩) (b.length+1) d)
  have Z:=box_set (.slice (some ⟨z,0,none⟩) (b.length+1) d) a
  rw[p] at m
  have E:=m.kept P (ownsRow_apart (U:=0) m a (fun cs e=>by cases e))
  have K:Below w.heap.size W (t.setCell ⟨w.heap.size,0,none⟩ (.slice (some ⟨z,0,none⟩) (b.length+1) d)):=M.grown P (Nat.le_trans I.size M.size) (fun k e=>by cases e;exact Nat.le_refl _)
  refine ⟨(h5.trans (KeepsOthers.setCell t _ _)).from _,K,⟨_,Z,?_,?_⟩,I.trans K⟩
  ·rw[List.map_append,List.length_append,p]
   exact E
  ·simp
 case done =>
  rintro D ys W m rfl ⟨⟨v,hv,j,A⟩,I⟩ H
  have hc:W.cell? ⟨w.heap.size,0,none⟩=some v:=by simp[World.cell?,hv]
  gi_wp2
  refine ⟨by simp,.inl ⟨_,_,rfl,run_takeDeferred H,?_⟩⟩
  have d:=grownBy_putObj' W D (.deferred none)
  rw[List.length_map,List.length_range] at j
  refine ⟨_,results_tmp rfl _ _ _,v,rfl,I.grown d I.size (fun k e=>by cases e;omega),j.kept d (ownsRow_apart (U:=0) j H (fun cs e=>by cases e)),?_⟩
  rw[A]
  simp
 case stop =>
  rintro D c b W m d f H
  exact f.elim
theorem collect_c (g:Nat→Addr) (c:Nat) (gf:Nat) (l:∀ args w,(callFunc gf args).run Tryz.prog w=.ok (.enter gf args) w) (lb:Array Value) (N:Nat) (f:N≤1048576) (w:World)
 (k:∀ n,SeqStopsK Fence.wide n Tryz.prog gf lb (fun i:Nat=>#[.slice (some (g i)) c c]) (Below w.heap.size) (fun xs=>xs=List.range N) (fun _=>True) N w) :
 Calls Tryz.prog 104 #[.func (.func gf) #[] lb] w (Ret fun e w'=>Below w.heap.size w w'∧w'.ownsRow w.heap.size 23 1 e N ((List.range N).map (fun i=>Value.slice (some (g i)) c c))∧(e=.slice none 0 0↔N=0)):=by
 go_enter Tryz.func104,Tryz.ntmps104
 go_wp2_with fail
 refine (appendSeq_c g c gf l lb N f w k).mono ?_
 rintro e m ⟨v,rfl,b,d,j⟩
 go_wp2_with fail
 go_ret
 exact ⟨_,rfl,b,d,j⟩
theorem chunks_c (f g c m n cap:Nat) (w:World) (q:0<c) (p:n=c*m) (r:m≤1024) (b:n≤cap) (d:n≤1073741824) (k:Nat) (l:k+1<w.heap.size) (o:w.cell? ⟨k,0,none⟩=some (.slice (some ⟨f,g,none⟩) n cap)) (j:w.cell? ⟨k+1,0,none⟩=some (.int .i64 c)) :
 Calls Tryz.prog 104 #[.func (.func 158) #[] #[.pointer (some ⟨k,0,none⟩),.pointer (some ⟨k+1,0,none⟩)]] w (Ret fun e w'=>Below w.heap.size w w'∧w'.ownsRow w.heap.size 23 1 e m ((List.range m).map (chv f g c))∧(e=.slice none 0 0↔m=0)):=
 collect_c (fun i=>⟨f,g+c*i,none⟩) c _ (enters_of Tryz.func158 kR rfl) _ m oM w (chunk_c f g c m n cap k (k+1) w q p b d o j oM l)
theorem chunk0_c (b k n cap:Nat) (c:Nat) (d:0<c) (w:World):Calls Tryz.prog 105 #[.slice (some ⟨b,k,none⟩) n cap,.int .i64 c] w (Ret fun e w'=>e=.func (.func 158) #[] #[.pointer (some ⟨w.heap.size,0,none⟩),.pointer (some ⟨w.heap.size+1,0,none⟩)]∧w'=(w.alloc (.cells #[.slice (some ⟨b,k,none⟩) n cap] 23)).alloc (.cells #[.int .i64 c] 3)):=by
 have f:¬ (c:Int)<1:=oM
 go_enter Tryz.func105,Tryz.ntmps105
 go_wp2
 go_ret
 exact ⟨_,rfl,rfl,rfl⟩
end
section
open Go.RowKit Go.Sort Go.Deep
variable {P:Nat} [NeZero P] {N:Nat}
def zz (n:Nat):List Value:=(List.replicate n (Value.int .u8 0))
def o33:Bs:=Array.replicate 33 0
theorem o33_pvl:(.agg z33.toArray:Value)=pvl o33:=by
 unfold pvl z33 o33 bl33
 rw[Array.toList_replicate,List.map_replicate]
 rfl
end
section
open Go.RowKit Go.Sort Go.Deep
variable {P:Nat} [NeZero P] {N:Nat}
section
variable (w:World) (k6 k8 k9 k10 x kk c z B0:Nat) (X A B F G:Bs)
end
end
section
open Go.RowKit Go.Sort Go.Deep
variable {P:Nat} [NeZero P] {N:Nat}
end
section
open Go.RowKit Go.Sort Go.Deep
variable {P:Nat} [NeZero P] {N:Nat}
theorem Sm.mono {B k:Nat} {W:World} {v:Value} {l:List (Nat × Bs)} (h:Sm B W v l) (b:k≤B):Sm k W v l:=by
 obtain ⟨g,c,i,d,e,f⟩:=h
 exact ⟨g,c,i,d,Nat.le_trans b e,f⟩
section
variable (w:World) (k6 k8 n:Nat) (Y A T:Bs)
def Rb:Nat→Value→World→Prop
 | 0,v,_=>v=pvl Y
 | 1,v,W=>Sm w.heap.size W v [(1,Y)]
 | 2,v,_=>v=pvl A
 | 3,v,_=>v=nv n
 | 4,v,W=>Sm w.heap.size W v [(n,A)]
 | 5,v,W=>Sm w.heap.size W v [(1,Y),(n,A)]
 | 6,v,_=>v=pvl T
 | 7,v,W=>El 33 W v T
 | 8,v,W=>El 33 W v T
 | 9,v,_=>v=.int .i64 0
 | _,_,_=>True
def Gb:RG.Gw:=⟨Rb w n Y A T,fun W=>Kp w W [(k8,wn n),(k6,bl33 Y)],fun i v W W' k h=>by
 match i,h with
 | 0,h=>exact h
 | 1,h=>exact Sm.grow h k
 | 2,h=>exact h
 | 3,h=>exact h
 | 4,h=>exact Sm.grow h k
 | 5,h=>exact Sm.grow h k
 | 6,h=>exact h
 | 7,h=>exact El.below h k (Nat.le_refl _)
 | 8,h=>exact El.below h k (Nat.le_refl _)
 | 9,h=>exact h
 | _+10,_=>trivial,fun W W' k h=>h.grow k⟩
end
end
section
open Go.RowKit Go.Sort Go.Deep
variable {P:Nat} [NeZero P] {N:Nat}
end
section
open Go.RowKit Go.Sort Go.Deep
variable {P:Nat} [NeZero P] {N:Nat}
theorem sumMinus_c (O:Ord N) (B:Nat) (s t:Value) (l m:List (Nat × Bs)) (D:0<l.length) (M:l.length≤500) (Q:m.length≤500) (u:∀ x∈l,x.2.size=33) (d:∀ x∈m,x.2.size=33) (A:∀ x∈m,x.1<N) (w:World) (S:B≤w.heap.size) (G:Sm B w s l) (E:Sm B w t m) :
 Calls Tryz.prog 197 #[s,t] w (Ret fun e w'=>Below w.heap.size w w'∧Sm w.heap.size w' e (l++m.map (tmT N (sMi N 0 1)))):=by
 have C:1<N:=by have:2≤N:=Nat.le_trans O.n2 (Nat.mod_le _ _);omega
 have k:=Hid.mk' (opp1_c O C)
 have i:sMi N 0 1<N:=Nat.mod_lt _ O.pos
 generalize sMi N 0 1=o at k i ⊢
 have H:Hid (∀ W,Below w.heap.size w W→Calls Tryz.prog 149 #[t,nv o] W (Ret fun e w'=>Below W.heap.size W w'∧Sm W.heap.size w' e (m.map (tmT N o)))):=fun W z=>by
  have c:∀ x∈m.map (·.2),x.size=33:=fun x hx=>by obtain ⟨y,b,rfl⟩:=List.mem_map.1 hx;exact d y b
  exact sumTimes_c O i B t m oM c A W (E.grow z)
 have U:Hid (∀ W v,Below w.heap.size w W→Sm w.heap.size W v (m.map (tmT N o))→Calls Tryz.prog 31 #[s,v] W (Ret fun e w'=>Below W.heap.size W w'∧Sm W.heap.size w' e (l++m.map (tmT N o)))):=fun W v z hv=>by
  refine sumPlus_c B s v l (m.map (tmT N o)) D M (by rw[List.length_map];exact Q) u (fun x hx=>?_) W (G.grow z) (hv.mono S)
  obtain ⟨y,b,rfl⟩:=List.mem_map.1 hx
  exact d y b
 obtain ⟨Z,cs,L,-⟩:=id G
 obtain ⟨gt,ct,T,-⟩:=id E
 subst L
 subst T
 obtain ⟨v1,g⟩:=hE (nv 1)
 obtain ⟨X,f⟩:=hE (nv o)
 rw[g.out,f.out] at k
 rw[f.out] at H
 have I:=Hid.mk' (of1_c)
 rw[g.out] at I
 go_enter Tryz.func197,Tryz.ntmps197
 go_wp2_with fail
 refine (I w).mono ?_
 rintro e P ⟨V,rfl,c,rfl⟩
 go_wp2_with fail
 refine (k P).mono ?_
 rintro e R ⟨V,rfl,a,rfl⟩
 have j:=mk1 (c.trans (a.mono c.size))
 go_wp2_with fail
 refine (H R j.out).mono ?_
 rintro e J ⟨K,rfl,r,n⟩
 have b:=mk2 (j.trans (r.mono j.size)) (n.mono j.size)
 go_wp2_with fail
 refine (U J K b.1 b.2).mono ?_
 rintro e w4 ⟨Y,rfl,p,q⟩
 have F:=mk2 (b.1.trans (p.mono b.1.size)) (q.mono b.1.size)
 go_wp2
 go_ret
 exact ⟨_,rfl,F.1,F.2⟩
section
variable (w:World) (K k8 n o:Nat) (S Q T:Bs)
end
end
section
open Go.RowKit Go.Sort Go.Deep
variable {P:Nat} [NeZero P] {N:Nat}
def encV (v:Value):Value:=v
structure ListAt (w:World) (g cap:Nat) (vs:List Value) (cur:Array Value):Prop where
 lt:g<w.heap.size
 size:cur.size=cap
 fits:vs.length≤cap
 holds:Holds encV w g 0 cur
 front:∀ j,j<vs.length→cur[j]! = vs[j]!
omit [NeZero P] in
theorem wr_none:(wr (none:EC.Pt P))=o33:=by
 show zs33=o33
 decide +kernel
end
section
open Go.RowKit Go.Sort Go.Deep
namespace RG
section
variable {P:Program} {ops:Array Oper} {Q:Exit→Act→World→Prop} {w0 w:World} {k0:Nat} {X:List Nat} {its:List It} {bl:List Bl} {olds:List (Tmp × SV)} {a:Act} {i:Nat} {o:Oper} {it:It}
end
end RG
variable {P:Nat} [NeZero P] {N:Nat}
end
section
open Go.RowKit Go.Sort Go.Deep
variable {P:Nat} [NeZero P] {N:Nat}
theorem allP_nil (q:Option Addr) (c:Nat) (w:World):Calls Tryz.prog 56 #[.func (.func 57) #[] #[],.slice q 0 c] w (Ret fun e w'=>Below w.heap.size w w'∧∃ K,e=.tuple #[.slice (some ⟨K,0,none⟩) 0 0,.bool true]):=by
 obtain ⟨C0,g,d⟩:=mkPL 0 dC
 have k:(Instr.makeSlice 83 (.int .i64 0) (.int .i64 0)).run Tryz.prog w=.ok (.slice (some ⟨w.heap.size,0,none⟩) 0 0) (w.alloc (.cells C0.toArray 51)):=d w
 obtain ⟨f,b⟩:∃ f,Hid (w.alloc (.cells C0.toArray 51)=f):=⟨_,rfl⟩
 rw[b.out] at k
 have i:Hid (Below w.heap.size w f):=by rw[← b.out];exact below1 _ _
 clear d g b
 go_enter Tryz.func56,Tryz.ntmps56
 go_wp2
 clear k
 go_loopg [16] 0 (fun m s16 W=>s16=.int .i64 0∧Hid (Below w.heap.size w W))
 case atStart=>exact ⟨rfl,i.out⟩
 case round =>
  obtain ⟨rfl,j⟩:=hrel
  go_wp2
  go_ret2
  exact ⟨_,rfl,j.out,_,rfl⟩
end
section
open Go.RowKit Go.Sort Go.Deep SPA
variable {P:Nat} [NeZero P] {N:Nat} [NeZero N]
theorem addPQ (g j:Nat):(⟨g,0,none⟩:Addr).add j=⟨g,j,none⟩:=by
 simp[Addr.add]
 exact fun h=>h.symm
theorem own_cellQ {W:World} {k n g c:Nat} {e:TypeId} {xs:List Value} (h:W.ownsRow k e 1 (.slice (some ⟨g,0,none⟩) n c) n xs) {j:Nat} {u:Value} (b:xs[j]? = some u):W.cell? ⟨g,j,none⟩=some u:=by
 have:=h.cells (g:=g) rfl j u b
 rw[addPQ] at this
 exact this
theorem own_shapeQ {W:World} {k n:Nat} {e:TypeId} {v:Value} {xs:List Value} (h:W.ownsRow k e 1 v n xs) (b:0<n):∃ g c,v=.slice (some ⟨g,0,none⟩) n c:=by
 rcases h with ⟨-,⟨-,d⟩|⟨g,cap,cur,rfl,-⟩⟩
 ·omega
 ·exact ⟨g,cap,rfl⟩
def PtL (Q:Nat→Prop) (W:World) (K t:Nat) (B:Nat→Bs):Prop:=∀ j,j<t→Q K∧K<W.heap.size∧W.rangeAt K (33*j) (bl33 (B j))
theorem PtL.keep {Q:Nat→Prop} {W W':World} {K t:Nat} {B:Nat→Bs} (h:PtL Q W K t B) (b:Kq Q W W'):PtL Q W' K t B:=fun j d=>by
 obtain ⟨c,k,f⟩:=h j d
 refine ⟨c,Nat.lt_of_lt_of_le k b.size,fun i u e=>?_⟩
 rw[World.cell?_of_block (a:=⟨K,33*j+i,none⟩) (b.block K c k)]
 exact f i u e
theorem PtL.mono2 {Q Q':Nat→Prop} {W:World} {K t:Nat} {B:Nat→Bs} (h:PtL Q W K t B) (b:∀ g,g<W.heap.size→Q g→Q' g):PtL Q' W K t B:=fun j c=>by
 obtain ⟨e,k,d⟩:=h j c
 exact ⟨b K k e,k,d⟩
theorem TlL.below {Q:Nat→Prop} {k t:Nat} {W W':World} {v:Value} {B:Nat→Bs} (h:TlL Q k t W v B) (b:Below W.heap.size W W'):TlL Q k t W' v B:=h.keep (Kq.of_below b) fun g c=>b.block g (h.lt c).2
def TlV (t:Nat) (W:World) (v:Value) (B:Nat→Bs):Prop:=∃ q c,v=.slice q t c∧(0<t→∃ g,q=some ⟨g,0,none⟩∧g<W.heap.size∧∀ j,j<t→∃ x,W.cell? ⟨g,j,none⟩=some x∧Arg33 W x (B j))
theorem TlV.below {t:Nat} {W W':World} {v:Value} {B:Nat→Bs} (h:TlV t W v B) (k:Below W.heap.size W W'):TlV t W' v B:=by
 obtain ⟨q,c,rfl,h⟩:=h
 refine ⟨q,c,rfl,fun f=>?_⟩
 obtain ⟨g,rfl,b,d⟩:=h f
 refine ⟨g,rfl,Nat.lt_of_lt_of_le b k.size,fun j l=>?_⟩
 obtain ⟨x,i,e⟩:=d j l
 exact ⟨x,by rw[k.cell (p:=⟨g,j,none⟩) b];exact i,e.below k⟩
theorem allT_y (C:Fld P) {t:Nat} {W:World} {v:Value} {B:Nat→Bs} (w:t≤512) (h:TlV t W v B) (u:∀ j,j<t→∃ p,rd P (B j)=some p):Calls Tryz.prog 56 #[.func (.func 57) #[] #[],v] W (Ret fun e w'=>Below W.heap.size W w'∧∃ K,e=.tuple #[.slice (some ⟨K,0,none⟩) t t,.bool true]∧PtL (W.heap.size≤·) w' K t B):=by
 rcases Nat.eq_zero_or_pos t with b|b
 ·obtain ⟨q,c,rfl,-⟩:=h
  subst b
  refine (allP_nil q c W).mono ?_
  rintro e w' ⟨v,rfl,d,K,rfl⟩
  exact ⟨_,rfl,d,K,rfl,fun j k=>absurd k (Nat.not_lt_zero _)⟩
 ·obtain ⟨q,c,rfl,s⟩:=h
  obtain ⟨g,rfl,i,o⟩:=s b
  refine (allP_c C g t c w B W i o).mono ?_
  ·rintro e w' ⟨v,rfl,d,h⟩
   rcases h with ⟨-,K,rfl,m,l,r⟩|⟨⟨j,k,f⟩,-⟩
   ·exact ⟨_,rfl,d,K,rfl,fun j k=>⟨m,l,r j k⟩⟩
   ·obtain ⟨p,n⟩:=u j k
    rw[n] at f
    cases f
theorem ElQ.argS {Q:Nat→Prop} {W:World} {x:Value} {b:Bs} (h:ElQ Q 32 W x b):Arg W x b:=by
 obtain ⟨k,c,rfl,d,g,-,f,e⟩:=h
 exact ⟨_,32,c,rfl,g,fun _=>⟨k,0,rfl,d,f,e⟩⟩
def two {α:Type} (x y:α) (j:Nat):α:=if j=0 then x else y
theorem bslE (k b:Nat) (n c e d:Nat) (w:World):(Instr.buildSlice 27 2 #[(0,.slice (some ⟨k,0,none⟩) n c),(1,.slice (some ⟨b,0,none⟩) e d)]).run Tryz.prog w=.ok (.slice (some ⟨w.heap.size,0,none⟩) 2 2) (w.alloc (.cells #[.slice (some ⟨k,0,none⟩) n c,.slice (some ⟨b,0,none⟩) e d] 23)):=kR
theorem bslF {Q Q':Nat→Prop} {W:World} {x y:Value} {b e:Bs} (h:ElQ Q 32 W x b) (f:ElQ Q' 32 W y e) (w:World):(Instr.buildSlice 27 2 #[(0,x),(1,y)]).run Tryz.prog w=.ok (.slice (some ⟨w.heap.size,0,none⟩) 2 2) (w.alloc (.cells #[x,y] 23)):=by
 obtain ⟨k,c,rfl,-⟩:=h
 obtain ⟨d,g,rfl,-⟩:=f
 exact bslE k d 32 c 32 g w
theorem args_two {Q Q':Nat→Prop} {W:World} {x y:Value} {b c:Bs} (h:ElQ Q 32 W x b) (e:ElQ Q' 32 W y c):Args (W.alloc (.cells #[x,y] 23)) (some ⟨W.heap.size,0,none⟩) 2 (two b c):=fun _=>by
 have d:=below1 W (.cells #[x,y] 23)
 have k:=row_new W [x,y] 23
 refine ⟨_,rfl,k.1,fun j f=>?_⟩
 match j,f with
 | 0,_=>exact ⟨x,k.2.1 0 _ rfl,h.argS.below d⟩
 | 1,_=>exact ⟨y,k.2.1 1 _ rfl,e.argS.below d⟩
 | j+2,h=>omega
theorem boxIq (a b c d:Value) (w:World):(Instr.box 64 (.agg #[a,b,c,d])).run Tryz.prog w=.ok (.pointer (some ⟨w.heap.size,0,none⟩)) (w.alloc (.cells #[a,b,c,d] 64)):=kR
theorem uIr:(Tryz.prog.underlying 252).map (·.isRow)=some true:=kR
theorem iIr:(Tryz.prog.info? 252).map (·.size)=some 10:=kR
def inL (k c t a b:Nat):List Value:=.slice (some ⟨k,0,none⟩) t t :: .slice (some ⟨c,0,none⟩) t t :: (wn a++wn b)
def inZ:List Value:=[.slice none 0 0,.slice none 0 0,.int .u64 0,.int .u64 0,.int .u64 0,.int .u64 0,.int .u64 0,.int .u64 0,.int .u64 0,.int .u64 0]
theorem inL_one (k c t a b:Nat):(inL k c t a b).toArray.all (·.oneCell')=true:=kR
omit [NeZero N] in
theorem readI_y (C:Fld P) (O:Ord N) {t:Nat} (ht:t≤6) {Lb Rb:Nat→Bs} {A B:Bs} {a b:Nat} {vL vR z E:Value} (w:World) (hL:TlV t w vL Lb) (hR:TlV t w vR Rb) (hA:ElQ (fun _=>True) 32 w z A) (hB:ElQ (fun _=>True) 32 w E B) (hl:∀ j,j<t→∃ p,rd P (Lb j)=some p) (hr:∀ j,j<t→∃ p,rd P (Rb j)=some p) (ha:rq N A=some a) (hb:rq N B=some b) :
 Calls Tryz.prog 160 #[.agg #[vL,vR,z,E],.int .i64 t] w (Ret fun e w'=>Below w.heap.size w w'∧∃ q r,e=.tuple #[.agg (inL q r t a b).toArray,.bool true]∧PtL (w.heap.size≤·) w' q t Lb∧PtL (w.heap.size≤·) w' r t Rb):=by
 obtain ⟨k,hk⟩:∃ k,Hid (w.heap.size=k):=⟨_,rfl⟩
 obtain ⟨L,U⟩:∃ L,Hid (w.alloc (.cells #[vL,vR,z,E] 64)=L):=⟨_,rfl⟩
 obtain ⟨F,h5⟩:∃ F,Hid (L.alloc (.cells inZ.toArray 252)=F):=⟨_,rfl⟩
 obtain ⟨vI,hvI⟩:∃ v,Hid (Value.agg #[vL,vR,z,E]=v):=⟨_,rfl⟩
 have B1:Hid ((Instr.box 64 vI).run Tryz.prog w=.ok (.pointer (some ⟨k,0,none⟩)) L):=by rw[← hvI.out,← U.out,← hk.out];exact boxIq _ _ _ _ w
 obtain ⟨q1,x1,rfl,-⟩:=id hL
 obtain ⟨q2,x2,rfl,-⟩:=id hR
 have z1:L.heap.size=k+1:=by rw[← U.out,World.size_alloc,hk.out]
 have hz:=Hid.mk' z1
 have b1:Below w.heap.size w L:=by rw[← U.out];exact below1 _ _
 have b2:Below L.heap.size L F:=by rw[← h5.out];exact below1 _ _
 have r1:Row L k [.slice q1 t x1,.slice q2 t x2,z,E]:=by rw[← U.out,← hk.out];exact row_new w _ _
 have r2:Row F (k+1) inZ:=by rw[← h5.out,← z1];exact row_new L _ _
 have he:=b1.trans (b2.mono b1.size)
 have hi:=Hid.mk' (fun (W:World) (S:Below w.heap.size w W)=>allT_y C (v:=.slice q1 t x1) oM (hL.below S) hl)
 have hq:=Hid.mk' (fun (W:World) (S:Below w.heap.size w W)=>allT_y C (v:=.slice q2 t x2) oM (hR.below S) hr)
 have G:=Hid.mk' (And.intro (fun (W:World) (S:Below w.heap.size w W)=>hA.keep (Kq.of_below S)) (fun (W:World) (S:Below w.heap.size w W)=>hB.keep (Kq.of_below S)))
 have hm:=Hid.mk' (fun (W:World) (S:Below w.heap.size w W)=>allS_y O 2 2 dC (some ⟨W.heap.size,0,none⟩) (two A B) (two a b) (W.alloc (.cells #[z,E] 23)) (args_two (G.1 W S) (G.2 W S)) (fun j hj=>by
  match j,hj with
  | 0,_=>exact ha
  | 1,_=>exact hb
  | j+2,h=>omega))
 have K2:Hid (Row F (k+1) inZ∧Below w.heap.size w F∧Row F k [.slice q1 t x1,.slice q2 t x2,z,E]):=⟨r2,he,r1.below b2⟩
 have c0:F.cell? ⟨k,0,none⟩=some (.slice q1 t x1):=(r1.below b2).2.1 0 _ rfl
 have c1:F.cell? ⟨k,1,none⟩=some (.slice q2 t x2):=(r1.below b2).2.1 1 _ rfl
 rw[hvI.out]
 clear b1 b2 r1 r2 he z1 hL hR hA hB hvI hl hr ha hb
 go_enter Tryz.func160,Tryz.ntmps160
 go_wp2_with (first|(refine wpList_box (u:=vI) (v:=.pointer (some ⟨k,0,none⟩)) (w':=L) rfl 64 (.tmp 0) rfl ?_ ?_ ?_;rfl;exact B1.out)|(refine wpList_al (v:=.pointer (some ⟨k+1,0,none⟩)) (w':=F) rfl 252 4 rfl rfl ?_ ?_;(rw[← h5.out,← hz.out];kernel_rfl))|fail)
 refine (hi F K2.2.1).mono ?_
 rintro e w3 ⟨uu,rfl,Z,q,rfl,hp⟩
 have b3:=K2.2.1.trans (Z.mono K2.2.1.size)
 have V:Hid (Row w3 (k+1) inZ∧Below w.heap.size w w3∧Row w3 k [.slice q1 t x1,.slice q2 t x2,z,E]∧PtL (k+1 < ·) w3 q t Lb):=⟨K2.1.below Z,b3,K2.2.2.below Z,hp.mono2 fun g _ X=>Nat.lt_of_lt_of_le K2.1.1 X⟩
 have hw:w3.cell? ⟨k,1,none⟩=some (.slice q2 t x2):=V.2.2.1.2.1 1 _ rfl
 clear Z hp b3 K2 c0 c1 hi
 go_wp2_with fail
 refine (hq w3 V.2.1).mono ?_
 rintro e s ⟨uu,rfl,K,r,rfl,hs⟩
 have b4:=V.2.1.trans (K.mono V.2.1.size)
 have M:Hid (Row s (k+1) inZ∧Below w.heap.size w s∧Row s k [.slice q1 t x1,.slice q2 t x2,z,E]∧PtL (k+1 < ·) s q t Lb∧PtL (k+1 < ·) s r t Rb):=⟨V.1.below K,b4,V.2.2.1.below K,V.2.2.2.keep (Kq.of_below K),hs.mono2 fun g _ X=>Nat.lt_of_lt_of_le V.1.1 X⟩
 have hy:s.cell? ⟨k,2,none⟩=some z:=M.2.2.1.2.1 2 _ rfl
 have k0:s.cell? ⟨k,3,none⟩=some E:=M.2.2.1.2.1 3 _ rfl
 obtain ⟨w5,T⟩:∃ W,Hid (s.alloc (.cells #[z,E] 23)=W):=⟨_,rfl⟩
 obtain ⟨k5,hc⟩:∃ n,Hid (s.heap.size=n):=⟨_,rfl⟩
 have HS:Hid ((Instr.buildSlice 27 2 #[(0,z),(1,E)]).run Tryz.prog s=.ok (.slice (some ⟨k5,0,none⟩) 2 2) w5):=by rw[← T.out,← hc.out];exact bslF (G.1 s M.2.1) (G.2 s M.2.1) s
 have h3:=hm.out s M.2.1
 rw[T.out,hc.out] at h3
 have hn:=Hid.mk' h3
 have I:Below s.heap.size s w5:=by rw[← T.out];exact below1 _ _
 have b5:=M.2.1.trans (I.mono M.2.1.size)
 have K5:Hid (Row w5 (k+1) inZ∧Below w.heap.size w w5∧PtL (k+1 < ·) w5 q t Lb∧PtL (k+1 < ·) w5 r t Rb):=⟨M.1.below I,b5,M.2.2.2.1.keep (Kq.of_below I),M.2.2.2.2.keep (Kq.of_below I)⟩
 clear K hs b4 V hw hq h3 I b5 hm G
 go_wp2_with (first|(refine wpList_bsl (v:=.slice (some ⟨k5,0,none⟩) 2 2) (w':=w5) rfl 27 2 _ rfl #[(0,z),(1,E)] ?_ ?_ ?_;kernel_rfl;exact HS.out)|fail)
 refine hn.mono ?_
 rintro e m ⟨uu,rfl,H,f,rfl,hu⟩
 have K6:Hid (Row m (k+1) inZ∧Below w.heap.size w m∧PtL (k+1 < ·) m q t Lb∧PtL (k+1 < ·) m r t Rb∧SLq (k+1 < ·) m (.slice (some ⟨f,0,none⟩) 2 2) 2 (two a b)):=⟨K5.1.below H,K5.2.1.trans (H.mono K5.2.1.size),K5.2.2.1.keep (Kq.of_below H),K5.2.2.2.keep (Kq.of_below H),hu.mono fun g X=>Nat.lt_of_lt_of_le K5.1.1 X⟩
 have hE:m.rangeAt f 0 (wn a)∧m.rangeAt f 4 (wn b)∧k+1≠f:=by
  obtain ⟨g,o,c,e,-,D,-,y⟩:=K6.2.2.2.2
  injection e with e1
  injection e1 with e1
  injection e1 with e2 e3
  subst e2 e3
  exact ⟨y 0 dC,y 1 dC,Nat.ne_of_lt D⟩
 have Q:=Hid.mk' hE
 clear H hu K5 M hn HS hy k0 T hE
 go_wp2_with fail
 obtain ⟨dS,R,J⟩:=Option.map_eq_some_iff.1 rSc
 have D:m.drew.rangeAt f 0 (wn a)∧m.drew.rangeAt f 4 (wn b):=⟨Q.1,Q.2.1⟩
 refine anyS.begin (fun _ W=>W.rangeAt f 0 (wn a)∧W.rangeAt f 4 (wn b)) kR ?_
 have Y:∀ (p:Nat),Bef (fun _ W=>World.rangeAt W f 0 (wn a)∧World.rangeAt W f 4 (wn b)) p m.drew:=fun p=>⟨#[],by simp,D⟩
 refine anyS.val (i:=0) (d:=some 57) (x:=.slice (some ⟨q,0,none⟩) t t) rfl 9 (fun _ _ h=>h) (Y 9) D ?_
 simp only[Act.put,List.setIfInBounds_toArray,List.set_cons_succ,List.set_cons_zero]
 refine anyS.val (i:=1) (d:=some 58) (x:=.slice (some ⟨r,0,none⟩) t t) rfl 9 (fun _ _ h=>h) (Y 9) D ?_
 simp only[Act.put,List.setIfInBounds_toArray,List.set_cons_succ,List.set_cons_zero]
 refine anyS.val (i:=2) (d:=some 59) (x:=.slice (some ⟨f,0,none⟩) 2 2) rfl 9 (fun _ _ h=>h) (Y 9) D ?_
 simp only[Act.put,List.setIfInBounds_toArray,List.set_cons_succ,List.set_cons_zero]
 refine anyS.val (i:=3) (d:=some 60) (x:=.pointer (some ⟨f,0,none⟩)) rfl 9 (fun _ _ h=>h) (Y 9) D ?_
 simp only[Act.put,List.setIfInBounds_toArray,List.set_cons_succ,List.set_cons_zero]
 refine anyS.row (i:=4) (d:=some 61) (cs:=wn a) rfl 9 (fun _ _ h=>h) 44 60 f 0 dS rfl R J nSc (fun W ⟨l,e,h⟩=>h.1) (Y 9) D ?_
 simp only[Act.put,List.setIfInBounds_toArray,List.set_cons_succ,List.set_cons_zero]
 refine anyS.val (i:=5) (d:=some 62) (x:=.slice (some ⟨f,0,none⟩) 2 2) rfl 9 (fun _ _ h=>h) (Y 9) D ?_
 simp only[Act.put,List.setIfInBounds_toArray,List.set_cons_succ,List.set_cons_zero]
 refine anyS.val (i:=6) (d:=some 63) (x:=.pointer (some ⟨f,4,none⟩)) rfl 9 (fun _ _ h=>h) (Y 9) D ?_
 simp only[Act.put,List.setIfInBounds_toArray,List.set_cons_succ,List.set_cons_zero]
 refine anyS.row (i:=7) (d:=some 64) (cs:=wn b) rfl 9 (fun _ _ h=>h) 44 63 f 4 dS rfl R J nSc (fun W ⟨l,e,h⟩=>h.2) (Y 9) D ?_
 simp only[Act.put,List.setIfInBounds_toArray,List.set_cons_succ,List.set_cons_zero]
 clear Y
 refine anyS.nxt (i:=8) (d:=some 65) (x:=.agg (inL q r t a b).toArray) rfl D ?_
 simp only[Act.put,List.setIfInBounds_toArray,List.set_cons_succ,List.set_cons_zero]
 have h8:m.drew.there (k+1) 0 10:=K6.1.2.2
 have y:∀ g,g≠k+1→(m.drew.setCells (k+1) 0 (inL q r t a b)).heap[g]? = m.drew.heap[g]?:=fun g h=>RG.setCells_other (k+1) _ 0 m.drew g h
 have S7:(m.drew.setCells (k+1) 0 (inL q r t a b)).rangeAt f 0 (wn a)∧(m.drew.setCells (k+1) 0 (inL q r t a b)).rangeAt f 4 (wn b):=⟨fun j u hj=>by rw[World.cell?_of_block (a:=⟨f,0+j,none⟩) (y f (Ne.symm Q.2.2))];exact D.1 j u hj,fun j u hj=>by rw[World.cell?_of_block (a:=⟨f,4+j,none⟩) (y f (Ne.symm Q.2.2))];exact D.2 j u hj⟩
 have r6:Row m.drew (k+1) inZ:=K6.1
 have r7:Row (m.drew.setCells (k+1) 0 (inL q r t a b)) (k+1) (inL q r t a b):=r6.put rfl
 have b7:Below w.heap.size w (m.drew.setCells (k+1) 0 (inL q r t a b)):=RG.below_setCells (by rw[hk.out];exact Nat.le_succ _) _ _ _ K6.2.1.drew
 have h1:Kq (k+1 < ·) m (m.drew.setCells (k+1) 0 (inL q r t a b)):=⟨by rw[RG.setCells_size];exact Nat.le_refl _,fun g X _=>y g (Nat.ne_of_gt X)⟩
 have h7:=(K6.2.2.1.keep h1).mono2 (Q':=(w.heap.size≤·)) fun g _ X=>by rw[hk.out];omega
 have h6:=(K6.2.2.2.1.keep h1).mono2 (Q':=(w.heap.size≤·)) fun g _ X=>by rw[hk.out];omega
 refine anyS.sta (i:=9) (d:=none) rfl 252 (.tmp 4) (.tmp 65) rfl (k+1) 0 (inL q r t a b).toArray (inL_one q r t a b) h8 iIr S7 ?_
 simp only[Act.put,List.setIfInBounds_toArray,List.set_cons_succ,List.set_cons_zero]
 refine anyS.nxt (i:=10) (d:=some 5) (x:=.bool true) rfl S7 ?_
 simp only[Act.put,List.setIfInBounds_toArray,List.set_cons_succ,List.set_cons_zero]
 refine anyS.fin kR ?_ _
 intro WZ h9
 have h0:WZ=m.drew.setCells (k+1) 0 (inL q r t a b):=h9
 rw[← h0] at r7 b7 h7 h6
 have KZ:=Hid.mk' (And.intro r7 (And.intro b7 (And.intro h7 h6)))
 clear r6 r7 b7 h1 h7 h6 S7 D y h8 h9 h0 K6 Q R J
 go_wp2_with fail
 refine bodyPost_ret (results_ct 4 5 252 rfl KZ.1 rfl rfl uIr iIr) rfl ?_
 exact ⟨_,rfl,KZ.2.1,q,r,rfl,KZ.2.2.1,KZ.2.2.2⟩
end
section
open Go Go.RowKit Go.Sort Go.Deep SPA
section
variable {P:Program} {ops:Array Oper} {Q:Exit→Act→World→Prop} {S:Array Bool→World→Prop}
theorem putC (a:Act) {d e:Tmp} (h:d≠e) (v u:Value):(a.put (some d) v).put (some e) u=(a.put (some e) u).put (some d) v:=by
 unfold Act.put
 dsimp only
 rw[Array.setIfInBounds_comm _ _ h]
theorem anyS.calal {i j c:Nat} {u l:Oper} {di dj:Tmp} {f:FuncId} {args:Array Value} {obj:Obj} {k:Array Bool} {a:Act} {w:World} {M O:Value→World→Prop} {F:Value→Nat→World→Prop} (r:ops[i]? = some u) (m:ops[j]? = some l)
 (U:Calls P f args w (Ret M)) (z:Calls P f args (w.alloc obj) (Ret O)) (G:S (k.setIfInBounds j true) (w.alloc obj))
 (T:∀ v W',M v W'→S (k.setIfInBounds i true) W'∧S ((k.setIfInBounds i true).setIfInBounds j true) (W'.alloc obj)∧F v W'.heap.size (W'.alloc obj)) (R:∀ v W',O v W'→S ((k.setIfInBounds i true).setIfInBounds j true) W'∧F v w.heap.size W')
 (t:∀ (b:Act) (W:World),(execOp b.eval l).run P W=.ok (.value (.pointer (some ⟨W.heap.size,0,none⟩))) (W.alloc obj))
 (h:∀ v b W',F v b W'→anyS P ops Q S c ((k.setIfInBounds i true).setIfInBounds j true) ((a.put (some di) v).put (some dj) (.pointer (some ⟨b,0,none⟩))) W')
 (hx:∀ W,(execOp a.eval u).run P W=.ok (.enter f args) W:=by intro _;kernel_rfl) (H:∀ (b:Nat) (W:World),(execOp (a.put (some dj) (.pointer (some ⟨b,0,none⟩))).eval u).run P W=.ok (.enter f args) W:=by intro _ _;kernel_rfl)
 (B:i≠j:=by decide) (y:di≠dj:=by decide) (N:Region.ready .any ops k=[i,j]:=by kernel_rfl) (d:Region.ready .any ops (k.setIfInBounds i true)=[j]:=by kernel_rfl) (D:Region.ready .any ops (k.setIfInBounds j true)=[i]:=by kernel_rfl)
 (s:u.guard=none:=by rfl) (o:l.guard=none:=by rfl) (n:u.dst=some di:=by kernel_rfl) (p:l.dst=some dj:=by kernel_rfl):anyS P ops Q S (c+2) k a w:=by
 refine ⟨fun J=>(by rw[N] at J;cases J),fun q L=>?_⟩
 rw[N] at L
 have C:q=i∨q=j:=by simpa using L
 rcases C with rfl|rfl
 ·refine wpOp_step r fun K x=>?_
  rw[if_pos (wanted_of s _)]
  unfold Oper.wp
  rw[hx,Oper.upon_enter]
  refine U.mono ?_
  rintro e W' ⟨v,rfl,hR⟩
  obtain ⟨s1,s2,E⟩:=T v W' hR
  refine x _ _ ⟨s1,?_⟩
  rw[n]
  refine anyS.step m d fun I g=>?_
  rw[if_pos (wanted_of o _)]
  unfold Oper.wp
  rw[t]
  show I (Act.put _ l.dst _) _
  rw[p]
  exact g.out _ _ s2 (h v _ _ E)
 ·refine wpOp_step m fun K x=>?_
  rw[if_pos (wanted_of o _)]
  unfold Oper.wp
  rw[t]
  show K (a.put l.dst _) _
  rw[p]
  refine x _ _ ⟨G,?_⟩
  refine anyS.step r D fun I g=>?_
  rw[if_pos (wanted_of s _)]
  unfold Oper.wp
  rw[H,Oper.upon_enter]
  refine z.mono ?_
  rintro e W' ⟨v,rfl,hR⟩
  obtain ⟨s2,E⟩:=R v W' hR
  have d:=h v _ _ E
  rw[Array.setIfInBounds_comm _ _ B] at s2 d
  rw[putC a y] at d
  rw[n]
  exact g.out _ _ s2 d
end
variable {P:Nat} [NeZero P] {N:Nat} [NeZero N]
theorem vst_step (C:Fld P) (k:∀ r:EC.Pt P,EC.On r→EC.mul N r=none) (g:NT.IsP N) (t:Nat) (L T:Nat→OnP P) (v:Md.Vs Bs (OnP P)) (i m:Nat) (j:m=2^(t-(i+1))) (s:Bs) (c:Fin N) (f:chF N ((ptMd C k).vst (chF N) ivF t L T v i).s (L i) (T i)=(s,c)) :
 (ptMd C k).vst (chF N) ivF t L T v (i+1)=⟨s,(ptMd C k).ad ((ptMd C k).ad ((ptMd C k).vst (chF N) ivF t L T v i).p ((ptMd C k).ac (c*c) (L i))) ((ptMd C k).ac (ivF (c*c)) (T i)),(ptMd C k).fP (ivF c) c m ((ptMd C k).vst (chF N) ivF t L T v i).g,(ptMd C k).fP c (ivF c) m ((ptMd C k).vst (chF N) ivF t L T v i).h⟩:=by
 have b:=chF_sq g ((ptMd C k).vst (chF N) ivF t L T v i).s (L i) (T i)
 rw[f] at b
 have d:c.val≠0:=fun e=>b (by
  have:c=0:=Fin.ext (e.trans (Nat.zero_mod N).symm)
  show (c*c).val=0
  rw[this]
  show (0%N*(0%N))%N=0
  rw[Nat.zero_mod,Nat.zero_mul,Nat.zero_mod])
 rw[Md.step_pro,iv_sq g c d b,j]
 show (ptMd C k).vstep (chF N) ivF (2^(t-(i+1))) (L i) (T i) ((ptMd C k).vst (chF N) ivF t L T v i)=_
 unfold Md.vstep
 rw[f]
end
section
open Go.RowKit Go.Sort Go.Deep SPA
variable {P:Nat} [NeZero P] {N:Nat} [NeZero N]
def QR (r k g:Nat):Prop:=g≠r∧(g<k∨k+3≤g)
structure Lk (w W:World) (r k kl kr t a b n:Nat) (v sv:Value) (Lb Rb:Nat→Bs) (L:Bs) (G H:Nat→List (Nat × Bs)) (U l:List (Nat × Bs)):Prop where
 on:SP.Only r 0 32 w W
 rk:r<k
 wk:w.heap.size=k
 r0:Row W k (inL kl kr t a b)
 r1:Row W (k+1) [.pointer (some ⟨r,0,none⟩)]
 r2:∃ e:Array Value,v=.agg e∧e.size=3∧e.all (·.oneCell')=true∧Row W (k+2) e.toList
 pl:PtL (QR r k) W kl t Lb
 pr:PtL (QR r k) W kr t Rb
 gr:GRq (QR r k) W v n G H U
 sm:SmQ (QR r k) W sv l
 lg:Holds encB W r 0 L
 ls:L.size=32
section
variable {w W W':World} {r k kl kr t a b n:Nat} {v sv:Value} {Lb Rb:Nat→Bs} {L:Bs} {G H:Nat→List (Nat × Bs)} {U l:List (Nat × Bs)}
theorem Lk.any {d:Bs} (h:Lk w W r k kl kr t a b n v sv Lb Rb L G H U l) (j:SP.Only r 0 32 w W') (kq:Kq (QR r k) W W') (f:∀ g,k≤g→g<k+3→W'.heap[g]? = W.heap[g]?) (o:Holds encB W' r 0 d) (c:d.size=32):Lk w W' r k kl kr t a b n v sv Lb Rb d G H U l:=by
 obtain ⟨e,p,i,e3,m⟩:=h.r2
 exact ⟨j,h.rk,h.wk,row_same h.r0 kq.size (f k oM oM),row_same h.r1 kq.size (f _ oM oM),⟨e,p,i,e3,row_same m kq.size (f _ oM oM)⟩,h.pl.keep kq,h.pr.keep kq,h.gr.keep kq,h.sm.keep kq,o,c⟩
theorem Lk.big (h:Lk w W r k kl kr t a b n v sv Lb Rb L G H U l):k+3≤W.heap.size:=by
 obtain ⟨e,-,-,-,c⟩:=h.r2
 exact c.1
theorem Lk.grow (h:Lk w W r k kl kr t a b n v sv Lb Rb L G H U l) (c:Below W.heap.size W W'):Lk w W' r k kl kr t a b n v sv Lb Rb L G H U l:=by
 have d:=Holds.lt h.lg (by rw[h.ls];decide)
 exact h.any (h.on.trans (SP.Only.of_below c rfl d)) (Kq.of_below c) (fun g f e=>c.block g (by have:=h.big;omega)) (Holds.below h.lg c d) h.ls
theorem Lk.drew (h:Lk w W r k kl kr t a b n v sv Lb Rb L G H U l):Lk w W.drew r k kl kr t a b n v sv Lb Rb L G H U l:=h.grow ⟨rfl,rfl,rfl,Nat.le_refl _,fun _ _=>rfl⟩
theorem Lk.say {d:Bs} (h:Lk w W r k kl kr t a b n v sv Lb Rb L G H U l) (c:SP.Only r 0 32 W W') (j:Holds encB W' r 0 d) (f:d.size=32):Lk w W' r k kl kr t a b n v sv Lb Rb d G H U l:=by
 have e:=h.rk
 exact h.any (h.on.trans c) (Kq.of_only c fun g i=>i.1) (fun g o m=>c.block g (by have:=h.big;omega) oM) j f
theorem Lk.qn (h:Lk w W r k kl kr t a b n v sv Lb Rb L G H U l):∀ g,W.heap.size≤g→QR r k g:=fun g c=>⟨by have:=h.rk;have:=h.big;omega,Or.inr (by have:=h.big;omega)⟩
theorem Lk.hide {c:Value} {l':List (Nat × Bs)} (h:Lk w W r k kl kr t a b n v sv Lb Rb L G H U l) (d:SmQ (QR r k) W c l'):Lk w W r k kl kr t a b n v c Lb Rb L G H U l':=⟨h.on,h.rk,h.wk,h.r0,h.r1,h.r2,h.pl,h.pr,h.gr,d,h.lg,h.ls⟩
theorem Lk.next {j:Nat} {e:Array Value} {i m:Nat→List (Nat × Bs)} (h:Lk w W r k kl kr t a b n v sv Lb Rb L G H U l) (u:GRq (QR r k) W (.agg e) j i m U) (f:e.size=3) (s:e.all (·.oneCell')=true):Lk w (W.setCells (k+2) 0 e.toList) r k kl kr t a b j (.agg e) sv Lb Rb L i m U l:=by
 have c:∀ g,g≠k+2→(W.setCells (k+2) 0 e.toList).heap[g]? = W.heap[g]?:=fun g o=>RG.setCells_other (k+2) _ 0 W g o
 have d:W.heap.size≤(W.setCells (k+2) 0 e.toList).heap.size:=by rw[RG.setCells_size];exact Nat.le_refl _
 have kq:Kq (QR r k) W (W.setCells (k+2) 0 e.toList):=⟨d,fun g q _=>c g (by have:=q.2;omega)⟩
 have x:=h.rk
 obtain ⟨z,-,p,-,y⟩:=h.r2
 exact ⟨set_only h.on h.wk h.rk oM,h.rk,h.wk,row_same h.r0 d (c k oM),row_same h.r1 d (c _ oM),⟨e,rfl,f,s,y.put (by rw[Array.length_toList,Array.length_toList,f,p])⟩,h.pl.keep kq,h.pr.keep kq,u.keep kq,h.sm.keep kq,holds_eq h.lg (c r oM),h.ls⟩
end
theorem boxIn (k c t a b:Nat) (w:World):(Instr.box 252 (.agg (inL k c t a b).toArray)).run Tryz.prog w=.ok (.pointer (some ⟨w.heap.size,0,none⟩)) (w.alloc (.cells (inL k c t a b).toArray 252)):=kR
theorem uPL:(Tryz.prog.underlying 83).map (·.isRow)=some false:=kR
theorem smq_one {Q:Nat→Prop} {W:World} {g n:Nat} {p:Bs} (k:Row W g (wn n++bl33 p)) (b:Q g):SmQ Q W (.slice (some ⟨g,0,none⟩) 1 1) [(n,p)]:=by
 have e:cellsT [(n,p)]=wn n++bl33 p:=by unfold cellsT;simp
 refine ⟨g,1,rfl,Nat.le_refl _,b,k.1,?_⟩
 rw[e]
 exact k.2.1
theorem ix_run {k:Program} {o:Oper} {ev:Operand→Value} {I:Sem Value} {v:Value} {w:World} (h:I.run k w=.ok v w) (b:execOp ev o=I >>= fun v=>pure (Next.value v):=by kernel_rfl):(execOp ev o).run k w=.ok (.value v) w:=by
 rw[b,Sem.run_bind,h]
 rfl
theorem Lk.rd {w W W':World} {r k d e t a b n:Nat} {v m:Value} {f Rb:Nat→Bs} {L:Bs} {G H:Nat→List (Nat × Bs)} {U l:List (Nat × Bs)} (h:Lk w W r k d e t a b n v m f Rb L G H U l) (c:SP.Only r 0 32 W W') {i:Nat} (j:i<t) :
 W'.rangeAt (k+1) 0 [.pointer (some ⟨r,0,none⟩)]∧W'.cell? ⟨k,0,none⟩=some (.slice (some ⟨d,0,none⟩) t t)∧W'.cell? ⟨k,1,none⟩=some (.slice (some ⟨e,0,none⟩) t t)∧W'.rangeAt d (0+33*i) (bl33 (f i))∧W'.rangeAt e (0+33*i) (bl33 (Rb i)):=by
 have p:=h.rk
 have kq:Kq (QR r k) W W':=Kq.of_only c fun g o=>o.1
 rw[Nat.zero_add]
 exact ⟨(h.r1.only c oM).2.1,(h.r0.only c oM).2.1 0 _ rfl,(h.r0.only c oM).2.1 1 _ rfl,((h.pl.keep kq) i j).2.2,((h.pr.keep kq) i j).2.2⟩
theorem mone (h:1<N):(-1:Fin N).val=sMi N 0 1:=by
 have b:(1:Fin N).val=1:=by
  show 1%N=1
  exact Nat.mod_eq_of_lt h
 have k:(-1:Fin N).val=(N-(1:Fin N).val)%N:=Fin.val_neg' _
 rw[k,b]
 unfold sMi
 rw[Nat.zero_add]
omit [NeZero N] in
theorem wr_zero (C:Fld P) {X:EC.Pt P} (b:EC.On X):wr X=o33↔X=none:=by
 rw[← wr_none (P:=P)]
 refine ⟨fun h=>?_,fun h=>by rw[h]⟩
 obtain ⟨p,k,c⟩:=rd_wr C b
 obtain ⟨q,d,e⟩:=rd_wr C (EC.none_on (P:=P))
 rw[h,d] at k
 injection k with k
 rw[← c,← e,k]
theorem fin_c (C:Fld P) (O:Ord N) (k:∀ r:EC.Pt P,EC.On r→EC.mul N r=none) (K:NT.IsP N) {Q:Nat→Prop} {c:Nat} {G H:Nat→List (Nat × Bs)} {U l:List (Nat × Bs)} {g h:Nat→OnP P} {u p:OnP P} (J:0<c) (I:c≤64) (hG:Gd N 1 c G g) (z:Gd N 1 c H h) (x:Tl N U u) (D:0<U.length) (F:U.length≤16) (q:Tl N l p) (A:l.length≤200) (a b:Fin N) :
 ∃ l' f Y,Y.size=33∧(Y=o33↔p=(ptMd C k).ad ((ptMd C k).ad ((ptMd C k).ac a (g 0)) ((ptMd C k).ac b (h 0))) ((ptMd C k).ac (a*b) u))∧(∀ (W:World) (v va n:Value),GRq Q W v 1 G H U→SLq Q W va 1 (fun _=>a.val)→SLq Q W n 1 (fun _=>b.val)→Calls Tryz.prog 143 #[v,va,n] W (Ret fun e w'=>Below W.heap.size W w'∧Sm W.heap.size w' e l')) ∧
  (∀ (W:World) (s m:Value),Sm 0 W s l'→Sm 0 W m l→Calls Tryz.prog 197 #[s,m] W (Ret fun e w'=>Below W.heap.size W w'∧Sm W.heap.size w' e f)) ∧
  (∀ (W:World) (v:Value),Sm 0 W v f→Calls Tryz.prog 33 #[v] W (Ret fun e w'=>Below W.heap.size W w'∧e=pvl Y)):=by
 have B:=gok_of (by decide:0<1) J oM hG z x D F
 obtain ⟨w,f⟩:=hid_tl C k hG z x (d:=U.length) rfl (fun _=>a) (fun _=>b)
 rw[← prS_val] at w f
 have j:=w.app C k (q.tm C k (-1))
 rw[mone K.1] at j
 have y:=(ptMd C k).sub_zo ((ptMd C k).hd (fun _=>a) (fun _=>b) g h u 1) p
 rw[(ptMd C k).hd_one (fun _=>a) (fun _=>b) g h u] at y j
 refine ⟨_,_,_,wr_size _,(wr_zero C (Subtype.property _)).trans ((Subtype.ext_iff (a2:=(ptMd C k).zo)).symm.trans y),fun W v va n t o E=>hideG_c O 1 c G H U B _ _ (fun i _=>a.isLt) (fun i _=>b.isLt) v va n W t o E,fun W s m t o=>sumMinus_c O 0 s m _ l (by rw[f];omega) (by rw[f];omega) oM w.ok.sz q.ok.sz q.ok.lt W (Nat.zero_le _) t o,fun W v hv=>?_⟩
 exact j.point C O k (by rw[List.length_append,f];omega) (by rw[List.length_append,List.length_map,f];omega) hv
theorem eqPtY {a b:Bs} (d:a.size=33) (k:b.size=33) (w:World):(binOp .eql 51 (pvl a) (pvl b)).run Tryz.prog w=.ok (.bool (decide (a=b))) w:=by
 have c:(binOp .eql 51 (pvl a) (pvl b)).run Tryz.prog w=(Op.equal 51 (pvl a) (pvl b) >>= fun b=>pure (Value.bool b)).run Tryz.prog w:=rfl
 rw[c,Sem.run_bind,show (Op.equal 51 (pvl a) (pvl b)).run Tryz.prog w=.ok (decide (a=b)) w from eqCP d k w]
 rfl
theorem bslS (n:Nat) (w:World):(Instr.buildSlice 143 1 #[(0,nv n)]).run Tryz.prog w=.ok (.slice (some ⟨w.heap.size,0,none⟩) 1 1) (w.alloc (.cells (wn n).toArray 44)):=kR
theorem slq1 {Q:Nat→Prop} {W:World} {g n:Nat} (k:Row W g (wn n)) (b:Q g):SLq Q W (.slice (some ⟨g,0,none⟩) 1 1) 1 (fun _=>n):=⟨g,0,1,rfl,Nat.le_refl _,b,k.1,fun j c=>by
 have:j=0:=oM
 subst this
 exact k.2.1⟩
theorem right_c (C:Fld P) (O:Ord N) (f:∀ r:EC.Pt P,EC.On r→EC.mul N r=none) (hP:NT.IsP N) (t:Nat) (ht:t≤6) (B D:Nat→OnP P) (v0:Md.Vs Bs (OnP P)) (u:OnP P) (G0 H0:Nat→List (Nat × Bs)) (U l0:List (Nat × Bs)) (d7:Gd N (2^t) 1 G0 v0.g) (de:Gd N (2^t) 1 H0 v0.h) (hU:Tl N U u) (dh:0<U.length) (d9:U.length≤16) (kx:Tl N l0 v0.p) (br:0<l0.length∧l0.length≤150)
 (q Rb:Nat→Bs) (co:∀ j,q j=wP (B j)) (cu:∀ j,Rb j=wP (D j)) (r E A:Nat) (a b:Fin N) (n sv:Value) (w:World) (hL:Holds encB w r 0 v0.s) (b8:v0.s.size=32) (H:PtL (·≠r) w E t q) (L:PtL (·≠r) w A t Rb) (hv:GRq (·≠r) w n (2^t) G0 H0 U) (V:SmQ (·≠r) w sv l0) (Bd:Bool) (d1:Bd=true↔(ptMd C f).vend u a b ((ptMd C f).vst (chF N) ivF t B D v0 t)) :
 Calls Tryz.prog 163 #[.agg (inL E A t a.val b.val).toArray,lgV r,n,sv] w (Ret fun e w'=>SP.Only r 0 32 w w'∧e=.bool Bd):=by
 have hr:=Holds.lt hL (by rw[b8];decide)
 obtain ⟨k,hk⟩:=hE (w.heap.size)
 obtain ⟨e0,dq,du,cq⟩:=hv.ar
 subst dq
 obtain ⟨w1,k6⟩:=hE (w.alloc (.cells (inL E A t a.val b.val).toArray 252))
 obtain ⟨w2,k3⟩:=hE (w1.alloc (.cells #[.pointer (some ⟨r,0,none⟩)] 159))
 obtain ⟨w3,ko⟩:∃ w3,Hid (w2.alloc (.cells e0 150)=w3):=⟨_,rfl⟩
 have z1:w1.heap.size=k+1:=by rw[← k6.out,World.size_alloc,hk.out]
 have z2:w2.heap.size=k+2:=by rw[← k3.out,World.size_alloc,z1]
 have da:r<k:=by rw[← hk.out];exact hr
 have K3:Hid (Lk w w3 r k E A t a.val b.val (2^t) (.agg e0) sv q Rb v0.s G0 H0 U l0):=by
  have b1:Below w.heap.size w w1:=by rw[← k6.out];exact below1 _ _
  have b2:Below w1.heap.size w1 w2:=by rw[← k3.out];exact below1 _ _
  have K:Below w2.heap.size w2 w3:=by rw[← ko.out];exact below1 _ _
  have r1:Row w1 k (inL E A t a.val b.val):=by rw[← k6.out,← hk.out];exact row_new w _ _
  have r2:Row w2 (k+1) [.pointer (some ⟨r,0,none⟩)]:=by rw[← k3.out,← z1];exact row_new w1 _ _
  have T:Row w3 (k+2) e0.toList:=by rw[← ko.out,← z2];exact row_new w2 e0.toList 150
  have o:Below w.heap.size w w3:=(b1.trans (b2.mono b1.size)).trans (K.mono (Nat.le_trans b1.size b2.size))
  have n:∀ g,g<w.heap.size→g≠r→QR r k g:=fun g hg G=>⟨G,Or.inl (by rw[← hk.out];exact hg)⟩
  have kq:∀ {Q:Nat→Prop},Kq Q w w3:=Kq.of_below o
  have J:SmQ (QR r k) w sv l0:=by
   obtain ⟨g,c,h1,h2,S,M,R⟩:=V
   exact ⟨g,c,h1,h2,n g M S,M,R⟩
  exact ⟨SP.Only.of_below o rfl hr,da,hk.out,(r1.below b2).below K,r2.below K,⟨e0,rfl,du,cq,T⟩,(H.mono2 n).keep kq,(L.mono2 n).keep kq,(hv.mono2 n).keep kq,J.keep kq,Holds.below hL o hr,b8⟩
 obtain ⟨vI,hvI⟩:=hE (Value.agg (inL E A t a.val b.val).toArray)
 obtain ⟨vl,bi⟩:=hE (lgV r)
 obtain ⟨vG,c4⟩:=hE (Value.agg e0)
 have B1:Hid ((Instr.box 252 vI).run Tryz.prog w=.ok (.pointer (some ⟨k,0,none⟩)) w1):=by rw[← hvI.out,← k6.out,← hk.out];exact boxIn E A t a.val b.val w
 have B2:Hid ((Instr.box 159 vl).run Tryz.prog w1=.ok (.pointer (some ⟨k+1,0,none⟩)) w2):=by rw[← bi.out,← k3.out,← z1];exact boxL r w1
 have B3:Hid ((Instr.box 150 vG).run Tryz.prog w2=.ok (.pointer (some ⟨k+2,0,none⟩)) w3):=by
  obtain ⟨H,a2,J,n⟩:∃ a b c,e0=#[a,b,c]:=by
   obtain ⟨x1,x2,G,e,-⟩:=hv.ex
   injection e with e
   exact ⟨x1,x2,G,e⟩
  rw[← c4.out,← ko.out,← z2,n]
  exact boxG H a2 J w2
 have K4:Hid (∃ v G H l,Gd N (2^(t-0)) (2^0) G ((ptMd C f).vst (chF N) ivF t B D v0 0).g∧Gd N (2^(t-0)) (2^0) H ((ptMd C f).vst (chF N) ivF t B D v0 0).h∧Tl N l ((ptMd C f).vst (chF N) ivF t B D v0 0).p∧l.length=l0.length+2*0∧Lk w w3 r k E A t a.val b.val (2^(t-0)) v sv q Rb ((ptMd C f).vst (chF N) ivF t B D v0 0).s G H U l):=⟨_,G0,H0,l0,d7,de,kx,rfl,K3.out⟩
 have R:Hid ((∀ j,q j=wP (B j))∧∀ j,Rb j=wP (D j)):=⟨co,cu⟩
 have K:=mk7 C O hP hU dh d9 ht
 have b4:=Hid.mk' br
 clear br
 have ck:=Hid.mk' d1
 have c0:=K3.r0.2.1 0 _ rfl
 rw[hvI.out,bi.out,c4.out]
 go_enter Tryz.func163,Tryz.ntmps163
 go_wp2_with (first|(refine wpList_box (u:=vI) (v:=.pointer (some ⟨k,0,none⟩)) (w':=w1) rfl 252 (.tmp 0) rfl ?_ ?_ ?_;rfl;exact B1.out)|(refine wpList_box (u:=vl) (v:=.pointer (some ⟨k+1,0,none⟩)) (w':=w2) rfl 159 (.tmp 1) rfl ?_ ?_ ?_;rfl;exact B2.out)|(refine wpList_box (u:=vG) (v:=.pointer (some ⟨k+2,0,none⟩)) (w':=w3) rfl 150 (.tmp 2) rfl ?_ ?_ ?_;rfl;exact B3.out)|fail)
 go_loopg [3,16] t (fun m s3 s16 W=>∃ i:Nat,i+m=t∧s16=.int .i64 i∧Hid (∃ v G H l,Gd N (2^(t-i)) (2^i) G ((ptMd C f).vst (chF N) ivF t B D v0 i).g∧Gd N (2^(t-i)) (2^i) H ((ptMd C f).vst (chF N) ivF t B D v0 i).h∧Tl N l ((ptMd C f).vst (chF N) ivF t B D v0 i).p∧l.length=l0.length+2*i∧Lk w W r k E A t a.val b.val (2^(t-i)) v s3 q Rb ((ptMd C f).vst (chF N) ivF t B D v0 i).s G H U l))
 case atStart=>exact ⟨0,oM,rfl,K4⟩
 case round =>
  obtain ⟨i,e2,rfl,KM⟩:=hrel
  by_cases hi:i<t
  ·have dp:(i:Int)<(t:Int):=oM
   obtain ⟨v,G,H,l,hG,hH,hl,kp,hR⟩:=KM.out
   have HI:=Hid.mk' hi
   obtain ⟨m,hm⟩:∃ m,m=2^(t-(i+1)):=⟨_,rfl⟩
   have kj:2^(t-i)=m+m:=by rw[hm,show t-i=t-(i+1)+1 by omega,Nat.pow_succ];omega
   have bf:0<m:=by rw[hm];exact Nat.pow_pos dC
   obtain ⟨c,hc⟩:∃ c,c=2^i:=⟨_,rfl⟩
   have k7:0<c:=by rw[hc];exact Nat.pow_pos dC
   have c6:c*(m+m)≤64:=by
    rw[← kj,hc,← Nat.pow_add,show i+(t-i)=t by omega]
    exact Nat.le_trans (Nat.pow_le_pow_right dC K.2.2.2.2.2.2) dC
   have HE:Hid (2^(t-(i+1))=m∧2^(i+1)=c+c):=⟨hm.symm,by rw[Nat.pow_succ,hc];omega⟩
   rw[kj,← hc] at hG hH
   rw[kj] at hR
   have dy:=fun (s:Bs) (x:Fin N)=>vst_step C f K.2.2.1 t B D v0 i m hm s x
   obtain ⟨sx,n,ku,k8⟩:=chHalf K.2.1 K.2.2.1 r ((ptMd C f).vst (chF N) ivF t B D v0 i).s (B i) (D i) (q i) (Rb i) (R.1 i) (R.2 i)
   have bd:=dy sx n ku.1
   have HS:=Hid.mk' bd
   have df:(q i).size=33:=by rw[R.1 i];exact wr_size _
   have dz:(Rb i).size=33:=by rw[R.2 i];exact wr_size _
   have k5:=Hid.mk' (And.intro df dz)
   generalize dx:(ptMd C f).vst (chF N) ivF t B D v0 i=Vi at hG hH hl hR ku k8 HS
   have Y:=Hid.mk' (And.intro hG (And.intro hH (And.intro hl (And.intro kp (And.intro bf (And.intro k7 c6))))))
   clear hG hH hl kp bf k7 c6 dx
   have HR:=Hid.mk' hR
   clear hR
   go_wp2_with fail
   have R0:=HR.drew
   have h7:=fun (W:World) (hO:SP.Only r 0 32 wr.drew W)=>R0.rd hO HI.out
   have O0:SP.Only r 0 32 wr.drew wr.drew:=SP.Only.of_below (Below.refl _ _) rfl (Holds.lt R0.lg (by rw[R0.ls];decide))
   obtain ⟨dL,bc,ci⟩:=Option.map_eq_some_iff.1 uLg
   obtain ⟨dP,kb,ka⟩:=Option.map_eq_some_iff.1 uCP
   have bk:(Tryz.prog.info? 51).map (·.size)=some (bl33 (q i)).length:=by rw[bl33_length k5.1];exact iCP
   have b7:(Tryz.prog.info? 51).map (·.size)=some (bl33 (Rb i)).length:=by rw[bl33_length k5.2];exact iCP
   refine anyS.begin (fun _ W=>SP.Only r 0 32 wr.drew W) kR ?_
   have bS:∀ (p:Nat),Bef (fun _ W=>SP.Only r 0 32 wr.drew W) p wr.drew:=fun p=>⟨#[],by simp,O0⟩
   refine anyS.row (i:=0) (d:=some 19) (cs:=[.pointer (some ⟨r,0,none⟩)]) rfl 13 (fun _ _ h=>h) 159 5 (k+1) 0 dL rfl bc ci iLg (fun W ⟨l,e,h⟩=>(h7 W h).1) (bS 13) O0 ?_
   simp only[Act.put,List.setIfInBounds_toArray,List.set_cons_succ,List.set_cons_zero]
   refine anyS.val (i:=1) (d:=some 20) (x:=.pointer (some ⟨k,0,none⟩)) rfl 13 (fun _ _ h=>h) (bS 13) O0 ?_
   simp only[Act.put,List.setIfInBounds_toArray,List.set_cons_succ,List.set_cons_zero]
   refine anyS.cel (i:=2) (d:=some 21) (x:=.slice (some ⟨E,0,none⟩) t t) rfl 13 (fun _ _ h=>h) 83 20 k 0 rfl uPL (fun W ⟨l,e,h⟩=>(h7 W h).2.1) (bS 13) O0 ?_
   simp only[Act.put,List.setIfInBounds_toArray,List.set_cons_succ,List.set_cons_zero]
   refine anyS.val (i:=3) (d:=some 22) (x:=.int .i64 i) rfl 13 (fun _ _ h=>h) (bS 13) O0 ?_
   simp only[Act.put,List.setIfInBounds_toArray,List.set_cons_succ,List.set_cons_zero]
   refine anyS.val (i:=4) (d:=some 23) (x:=.pointer (some ⟨E,0+33*i,none⟩)) rfl 13 (fun _ _ h=>h) (bS 13) O0 ?_ (fun W=>ix_run (I:=Instr.indexAt 83 (.slice (some ⟨E,0,none⟩) t t) (.int .i64 i)) (atP E 0 t t i HI.out W))
   simp only[Act.put,List.setIfInBounds_toArray,List.set_cons_succ,List.set_cons_zero]
   refine anyS.row (i:=5) (d:=some 24) (cs:=bl33 (q i)) rfl 13 (fun _ _ h=>h) 51 23 E (0+33*i) dP rfl kb ka bk (fun W ⟨l,e,h⟩=>(h7 W h).2.2.2.1) (bS 13) O0 ?_
   simp only[Act.put,List.setIfInBounds_toArray,List.set_cons_succ,List.set_cons_zero]
   refine anyS.val (i:=6) (d:=some 25) (x:=.pointer (some ⟨k,1,none⟩)) rfl 13 (fun _ _ h=>h) (bS 13) O0 ?_
   simp only[Act.put,List.setIfInBounds_toArray,List.set_cons_succ,List.set_cons_zero]
   refine anyS.cel (i:=7) (d:=some 26) (x:=.slice (some ⟨A,0,none⟩) t t) rfl 13 (fun _ _ h=>h) 83 25 k 1 rfl uPL (fun W ⟨l,e,h⟩=>(h7 W h).2.2.1) (bS 13) O0 ?_
   refine anyS.val (i:=8) (d:=some 27) (x:=.int .i64 i) rfl 13 (fun _ _ h=>h) (bS 13) O0 ?_
   refine anyS.val (i:=9) (d:=some 28) (x:=.pointer (some ⟨A,0+33*i,none⟩)) rfl 13 (fun _ _ h=>h) (bS 13) O0 ?_ (fun W=>ix_run (I:=Instr.indexAt 83 (.slice (some ⟨A,0,none⟩) t t) (.int .i64 i)) (atP A 0 t t i HI.out W))
   refine anyS.row (i:=10) (d:=some 29) (cs:=bl33 (Rb i)) rfl 13 (fun _ _ h=>h) 51 28 A (0+33*i) dP rfl kb ka b7 (fun W ⟨l,e,h⟩=>(h7 W h).2.2.2.2) (bS 13) O0 ?_
   have h8:r<wr.drew.heap.size:=Holds.lt R0.lg (by rw[R0.ls];decide)
   have bA:=below1 wr.drew (.cells #[.int .u64 0,.int .u64 0,.int .u64 0,.int .u64 0] 44)
   have oA:SP.Only r 0 32 wr.drew (wr.drew.alloc (.cells #[.int .u64 0,.int .u64 0,.int .u64 0,.int .u64 0] 44)):=SP.Only.of_below bA rfl h8
   refine anyS.calal (i:=11) (j:=12) (di:=30) (dj:=10) (obj:=.cells #[.int .u64 0,.int .u64 0,.int .u64 0,.int .u64 0] 44) (F:=fun v b W'=>v=nv n.val∧SP.Only r 0 32 wr.drew W'∧Holds encB W' r 0 sx∧wr.drew.heap.size≤b∧Row W' b [.int .u64 0,.int .u64 0,.int .u64 0,.int .u64 0]) rfl rfl (k8 wr.drew R0.lg R0.ls) (k8 _ (Holds.below R0.lg bA h8) R0.ls) oA ?_ ?_ (by intro _ _;kernel_rfl) ?_
   ·rintro v W' ⟨hO,hH,rfl⟩
    have o:=below1 W' (.cells #[.int .u64 0,.int .u64 0,.int .u64 0,.int .u64 0] 44)
    have J:=Nat.lt_of_lt_of_le h8 hO.size
    exact ⟨hO,hO.trans (SP.Only.of_below o rfl J),rfl,hO.trans (SP.Only.of_below o rfl J),Holds.below hH o J,hO.size,row_new W' _ _⟩
   ·rintro v W' ⟨hO,hH,rfl⟩
    exact ⟨oA.trans hO,rfl,oA.trans hO,hH,Nat.le_refl _,(row_new wr.drew [.int .u64 0,.int .u64 0,.int .u64 0,.int .u64 0] 44).only hO (Nat.ne_of_gt h8)⟩
   ·rintro xv k2 W4 ⟨rfl,bh,bn,k1,kn⟩
    have kv:SP.Only r 0 32 wr.drew (W4.setCells k2 0 (wn n.val)):=only_setCells bh h8 k1 0
    refine anyS.sta (i:=13) (d:=none) rfl 44 (.tmp 10) (.tmp 30) rfl k2 0 (wn n.val).toArray (wn_one _) kn.2.2 nSc kv ?_
    simp only[Act.put,List.setIfInBounds_toArray,List.set_cons_succ,List.set_cons_zero]
    refine anyS.fin kR ?_ _
    intro W5 bo
    have hu:=bo
    have R5:Lk w W5 r k E A t a.val b.val (m+m) v u3 q Rb sx G H U l:=by rw[hu];exact R0.say kv (holds_set bn oM) ku.2
    have r5:Row W5 k2 (wn n.val):=by rw[hu];exact kn.put rfl
    obtain ⟨x,h6⟩:=hE (n.val)
    obtain ⟨J,T⟩:=hE ((n*n).val)
    obtain ⟨xi,hq⟩:=hE ((ivF (n*n)).val)
    have cp:Hid (∀ W:World,Calls Tryz.prog 26 #[nv x,nv x] W (Ret fun e w'=>Below W.heap.size W w'∧e=nv J)):=by
     rw[← h6.out,← T.out]
     exact fun W=>sTim_c K.2.1 n.val n.val n.isLt n.isLt W
    have dd:Hid (∀ W:World,Calls Tryz.prog 144 #[nv J] W (Ret fun e w'=>Below W.heap.size W w'∧e=nv xi)):=by
     rw[← T.out,← hq.out]
     exact fun W=>sInv2_c K.2.1 (n*n).val (n*n).isLt W
    rw[h6.out] at r5
    rw[h6.out]
    have K5:=Hid.mk' (And.intro R5 r5)
    clear R5 r5 hu bo kv bh bn k1 kn R0 h7 O0 oA bA h8 HR k8
    obtain ⟨vx,he⟩:=hE (nv x)
    have bp:Hid (∀ W:World,Calls Tryz.prog 26 #[vx,vx] W (Ret fun e w'=>Below W.heap.size W w'∧e=nv J)):=by rw[← he.out];exact cp.out
    obtain ⟨dS,k9,kd⟩:=Option.map_eq_some_iff.1 rSc
    rw[he.out]
    go_wp2_with (first|(refine ldR 10 K5.2.2.1 he rSc nSc ?_)|fail)
    refine (bp W5).mono ?_
    rintro e W6 ⟨uu,rfl,cg,rfl⟩
    obtain ⟨kt,ha⟩:=hE (W6.heap.size)
    obtain ⟨W7,c7⟩:=hE (W6.alloc (.cells #[.int .u64 0,.int .u64 0,.int .u64 0,.int .u64 0] 44))
    obtain ⟨S,kh⟩:=hE (W7.setCells kt 0 (wn J))
    have F7:Hid (Row W7 kt [.int .u64 0,.int .u64 0,.int .u64 0,.int .u64 0]∧Below W6.heap.size W6 W7):=by rw[← c7.out,← ha.out];exact ⟨row_new W6 _ _,below1 _ _⟩
    have bv:Below W5.heap.size W5 S:=by
     have:Below W6.heap.size W6 S:=by rw[← kh.out];exact RG.below_setCells (by rw[ha.out];exact Nat.le_refl _) _ _ _ F7.2
     exact cg.trans (this.mono cg.size)
    have K8:Hid (Lk w S r k E A t a.val b.val (m+m) v u3 q Rb sx G H U l∧Row S k2 (wn x)∧Row S kt (wn J)):=⟨K5.1.grow bv,K5.2.below bv,by rw[← kh.out];exact F7.1.put rfl⟩
    obtain ⟨vq,ki⟩:=hE (nv J)
    rw[ki.out]
    go_wp2_with (first|(refine alR 11 ha c7 ?_)|(refine stR 11 kh ki F7.1.2.2 nSc (wn_one J) ?_)|fail)
    have dw:∀ (W:World),Below S.heap.size S W→∀ g,W.heap.size≤g→QR r k g:=fun W o g hg=>K8.1.qn g (Nat.le_trans o.size hg)
    have o8:∀ (W:World),Below S.heap.size S W→SP.Only r 0 32 S W:=fun W o=>SP.Only.of_below o rfl (Holds.lt K8.1.lg (by rw[K8.1.ls];decide))
    have h9:=Hid.mk' (fun (W:World) (o:Below S.heap.size S W)=>K8.1.rd (o8 W o) HI.out)
    have hp:=Hid.mk' dw
    have tk:=Y.2.2.1.ok
    have bs:TOk N [(J,q i)]:=by rw[← T.out,R.1 i];exact (Tl.pt C f (n*n) (B i)).ok
    have dl:TOk N [(xi,Rb i)]:=by rw[← hq.out,R.2 i];exact (Tl.pt C f (ivF (n*n)) (D i)).ok
    have e1:l.length≤200:=by have:=Y.2.2.2.1;have:=K.2.2.2.2.2.2;have:=HI.out;have:=b4.2;omega
    have kx:0<l.length:=by have:=Y.2.2.2.1;have:=b4.1;omega
    have bt:=Hid.mk' (fun W=>ptTimes_c (q i) k5.1 J W)
    have b9:=Hid.mk' (fun W=>ptTimes_c (Rb i) k5.2 xi W)
    have bg:=Hid.mk' (fun (s1 s2:Value) (W:World) (h1:Sm 0 W s1 l) (h2:Sm 0 W s2 [(J,q i)])=>sumPlus_c 0 s1 s2 l [(J,q i)] kx oM (by simp) tk.sz bs.sz W h1 h2)
    have b6:=Hid.mk' (fun (s1 s2:Value) (W:World) (h1:Sm 0 W s1 (l++[(J,q i)])) (h2:Sm 0 W s2 [(xi,Rb i)])=>sumPlus_c 0 s1 s2 (l++[(J,q i)]) [(xi,Rb i)] (by simp) (by simp;omega) (by simp) (tk.app bs).sz dl.sz W h1 h2)
    rw[← ki.out]
    refine (RG.gwL [RG.pE u3,RG.pE (.pointer (some ⟨k,0,none⟩)),RG.pE (.slice (some ⟨E,0,none⟩) t t),RG.pE (.int .i64 i),RG.pE (.pointer (some ⟨E,0+33*i,none⟩)),RG.pE (pvl (q i)),RG.pE (nv J),RG.pM (QR r k) [(J,q i)],RG.pM (QR r k) (l++[(J,q i)]),RG.pE (.pointer (some ⟨k,1,none⟩)),RG.pE (.slice (some ⟨A,0,none⟩) t t),RG.pE (.int .i64 i),RG.pE (.pointer (some ⟨A,0+33*i,none⟩)),RG.pE (pvl (Rb i)),RG.pE (nv J),RG.pE (nv xi),RG.pM (QR r k) [(xi,Rb i)],RG.pM (QR r k) (l++[(J,q i)]++[(xi,Rb i)])] (fun W=>Below S.heap.size S W) (fun W W' hb h=>h.trans (hb.mono h.size))).tail2 18 kR kR kR ⟨
     RG.gO 3 u3,
     RG.gO 4 (.pointer (some ⟨k,0,none⟩)),
     RG.gw_l1 83 1 35 k 0 (.slice (some ⟨E,0,none⟩) t t) uPL (fun x W h=>h) (fun W o=>(h9 W o).2.1) (fun _=>rfl),
     RG.gO 9 (.int .i64 i),
     RG.gX 2 36 3 37 (atP E 0 t t i HI.out),
     RG.gLr 4 38 (fun W o=>(h9 W o).2.2.2.1) uCP bk,
     RG.gLo 11 (fun W o=>RG.range_below K8.2.2.2.1 o K8.2.2.1) rSc nSc,
     RG.gw_c2 5 39 6 40 32 (fun x y=>#[x,y]) (fun z y W hx L o=>by
      obtain rfl:z=pvl (q i):=hx
      obtain rfl:y=nv J:=L
      refine (bt W).mono ?_
      rintro e W' ⟨uu,rfl,hb,g,rfl,hg,M⟩
      exact ⟨_,rfl,hb,smq_one M (hp W o g hg)⟩),
     RG.gw_c2 0 34 7 41 31 (fun x y=>#[x,y]) (fun z y W hx L o=>by
      obtain rfl:z=u3:=hx
      have L:=L
      refine (bg z y W ((K8.1.grow o).sm.sm) L.sm).mono ?_
      rintro e W' ⟨uu,rfl,hb,V⟩
      exact ⟨_,rfl,hb,V.q.mono fun g hg=>hp.out W o g hg⟩),
     RG.gP 4 (.pointer (some ⟨k,0,none⟩)) (.pointer (some ⟨k,1,none⟩)),
     RG.gw_l1 83 9 43 k 1 (.slice (some ⟨A,0,none⟩) t t) uPL (fun x W h=>h) (fun W o=>(h9 W o).2.2.1) (fun _=>rfl),
     RG.gO 9 (.int .i64 i),
     RG.gX 10 44 11 45 (atP A 0 t t i HI.out),
     RG.gLr 12 46 (fun W o=>(h9 W o).2.2.2.2) uCP b7,
     RG.gLo 11 (fun W o=>RG.range_below K8.2.2.2.1 o K8.2.2.1) rSc nSc,
     RG.gw_c1 14 48 144 (fun x=>#[x]) (fun z W hx o=>by
      obtain rfl:z=nv J:=hx
      exact dd.out W),
     RG.gw_c2 13 47 15 49 32 (fun x y=>#[x,y]) (fun z y W hx L o=>by
      obtain rfl:z=pvl (Rb i):=hx
      obtain rfl:y=nv xi:=L
      refine (b9 W).mono ?_
      rintro e W' ⟨uu,rfl,hb,g,rfl,hg,M⟩
      exact ⟨_,rfl,hb,smq_one M (hp W o g hg)⟩),
     RG.gw_c2 8 42 16 50 31 (fun x y=>#[x,y]) (fun z y W hx L o=>by
      have hx:=hx
      have L:=L
      refine (b6 z y W hx.sm L.sm).mono ?_
      rintro e W' ⟨uu,rfl,hb,V⟩
      exact ⟨_,rfl,hb,V.q.mono fun g hg=>hp.out W o g hg⟩),trivial⟩ (Below.refl _ _).drew ?_
    intro V W9 c8 km
    have kf:=c8 17 dC
    have K9:=mk2 ((K8.1.grow km).hide kf) (K8.2.1.below km)
    dsimp only[RG.putV,Nat.reduceAdd,List.take,List.drop]
    generalize V 17=s17 at K9 ⊢
    clear kf c8 km K8 h9 hp bt b9 bg b6
    generalize V 0=y0
    generalize V 1=y1
    generalize V 2=y2
    generalize V 3=y3
    generalize V 4=y4
    generalize V 5=y5
    generalize V 6=y6
    generalize V 7=y7
    generalize V 8=y8
    generalize V 9=y9
    generalize V 10=ya
    generalize V 11=yb
    generalize V 12=yc
    generalize V 13=yd
    generalize V 14=ye
    generalize V 15=yf
    generalize V 16=yg
    clear V
    obtain ⟨ev,k0,L,ke,h0⟩:=K9.1.r2
    have bj:GOk N (m+m) c G H U:=gok_of (by have:=Y.2.2.2.2.1;omega) Y.2.2.2.2.2.1 Y.2.2.2.2.2.2 Y.1 Y.2.1 K.2.2.2.1 K.2.2.2.2.1 K.2.2.2.2.2.1
    obtain ⟨xo,kc⟩:∃ x,Hid ((ivF n).val=x):=⟨_,rfl⟩
    have be:x<N:=by rw[← h6.out];exact n.isLt
    have ba:sIn N x=xo:=by rw[← h6.out,← kc.out];rfl
    have k4:=foldG_c K.2.1 m c Y.2.2.2.2.1 G H U bj x be v W9 K9.1.qn K9.1.gr
    rw[ba] at k4
    obtain ⟨yv,hn⟩:∃ y,Hid (v=y):=⟨_,rfl⟩
    have M:Hid (Value.agg ev.toList.toArray=yv∧Row W9 (k+2) ev.toList∧(Tryz.prog.info? 150).map (·.size)=some ev.toList.length∧ev.size=3):=⟨k0.symm.trans hn.out,h0,by rw[Array.length_toList,L];exact iGr,L⟩
    rw[hn.out,he.out] at k4
    have cv:=Hid.mk' k4
    obtain ⟨dG,Z,X⟩:=Option.map_eq_some_iff.1 uGr
    have bz:Hid (Tryz.prog.underlying 150=some dG∧dG.isRow=true):=⟨Z,X⟩
    clear k0 L ke h0 bj be ba k4 Z X
    go_wp2_with (first|(refine wpList_load_mid rfl 150 (.tmp 6) rfl (k+2) 0 ?_ ev.toList dG ?_ ?_ ?_ ?_ ?_;rfl;exact M.2.1.2.1;exact bz.1;exact bz.2;exact M.2.2.1;rw[M.1])|(refine ldR 10 K9.2.2.1 he rSc nSc ?_)|fail)
    refine cv.mono ?_
    rintro e Wa ⟨vf,rfl,cj,b5⟩
    obtain ⟨ef,ct,hw,kg⟩:=b5.ar
    subst ct
    have La:=(K9.1.grow cj).next b5 hw kg
    obtain ⟨Wb,cn⟩:∃ W,Hid (Wa.setCells (k+2) 0 ef.toList=W):=⟨_,rfl⟩
    rw[cn.out] at La
    have kk:Hid (Wa.there (k+2) 0 ef.size∧(Tryz.prog.info? 150).map (·.size)=some ef.size∧ef.all (·.oneCell')=true):=by
     refine ⟨?_,by rw[hw];exact iGr,kg⟩
     rw[hw]
     have:=(M.2.1.below cj).2.2
     rw[Array.length_toList,M.2.2.2] at this
     exact this
    have bm:Hid (∃ v G H l,Gd N (2^(t-(i+1))) (2^(i+1)) G ((ptMd C f).vst (chF N) ivF t B D v0 (i+1)).g∧Gd N (2^(t-(i+1))) (2^(i+1)) H ((ptMd C f).vst (chF N) ivF t B D v0 (i+1)).h∧Tl N l ((ptMd C f).vst (chF N) ivF t B D v0 (i+1)).p∧l.length=l0.length+2*(i+1)∧Lk w Wb r k E A t a.val b.val (2^(t-(i+1))) v s17 q Rb ((ptMd C f).vst (chF N) ivF t B D v0 (i+1)).s G H U l):=by
     show ∃ v G H l,_
     rw[HS.out,HE.1,HE.2]
     have g1:=Y.1.fold C f (ivF n) n
     have g2:=Y.2.1.fold C f n (ivF n)
     rw[h6.out,kc.out] at g1 g2
     have tl:=(Y.2.2.1.app C f (Tl.pt C f (n*n) (B i))).app C f (Tl.pt C f (ivF (n*n)) (D i))
     rw[T.out,hq.out] at tl
     have ds:Tl N (l++[(J,q i)]++[(xi,Rb i)]) ((ptMd C f).ad ((ptMd C f).ad Vi.p ((ptMd C f).ac (n*n) (B i))) ((ptMd C f).ac (ivF (n*n)) (D i))):=by rw[R.1 i,R.2 i];exact tl
     exact ⟨_,_,_,_,g1,g2,ds,by have:=Y.2.2.2.1;simp;omega,La⟩
    obtain ⟨vo,c5⟩:=hE (Value.agg ef)
    rw[c5.out]
    go_wp2_with (first|(refine wpList_store_mid rfl 150 (.tmp 6) _ rfl (k+2) 0 ef ?_ ?_ ?_ ?_ ?_ ?_;rfl;exact c5.symm;exact kk.1;exact kk.2.1;exact kk.2.2;rw[cn.out])|fail)
    go_roundg (gk-1)
    case measure=>have:=HI.out;omega
    case rel=>exact ⟨i+1,by have:=HI.out;omega,rfl,bm⟩
  ·have dp:¬ (i:Int)<(t:Int):=oM
   have d6:i=t:=oM
   obtain ⟨v,G,H,l,hG,hH,hl,kp,hR⟩:=KM.out
   subst d6
   rw[Nat.sub_self,Nat.pow_zero] at hG hH hR
   have k7:0<2^i:=Nat.pow_pos dC
   have bu:2^i≤64:=Nat.le_trans (Nat.pow_le_pow_right dC K.2.2.2.2.2.2) dC
   obtain ⟨l1,l2,Y,d0,d8,cH,cM,cP⟩:=fin_c (Q:=QR r k) C K.2.1 f K.2.2.1 k7 bu hG hH K.2.2.2.1 K.2.2.2.2.1 K.2.2.2.2.2.1 hl (by have:=K.2.2.2.2.2.2;have:=b4.2;omega) a b
   have d5:decide (Y=o33)=Bd:=by
    have h2:=d8.trans ck.symm
    cases Bd with
    | true=>exact decide_eq_true (h2.2 rfl)
    | false=>exact decide_eq_false fun h=>Bool.false_ne_true (h2.1 h)
   obtain ⟨ev,k0,L,ke,h0⟩:=hR.r2
   obtain ⟨g1,S⟩:=hE (wr.heap.size)
   obtain ⟨o,T⟩:=hE (wr.alloc (.cells (wn a.val).toArray 44))
   obtain ⟨g2,V⟩:∃ g,Hid (o.heap.size=g):=⟨_,rfl⟩
   obtain ⟨W2,J⟩:∃ W,Hid (o.alloc (.cells (wn b.val).toArray 44)=W):=⟨_,rfl⟩
   have b1:Below wr.heap.size wr o:=by rw[← T.out];exact below1 _ _
   have b2:Below o.heap.size o W2:=by rw[← J.out];exact below1 _ _
   have r1:Row o g1 (wn a.val):=by rw[← T.out,← S.out];exact row_new wr _ _
   have r2:Row W2 g2 (wn b.val):=by rw[← J.out,← V.out];exact row_new o _ _
   have L1:=hR.grow b1
   have L2:=L1.grow b2
   have q1:QR r k g1:=by rw[← S.out];exact hR.qn _ (Nat.le_refl _)
   have q2:QR r k g2:=by rw[← V.out];exact L1.qn _ (Nat.le_refl _)
   have c3:=cH W2 v _ _ L2.gr (slq1 (r1.below b2) q1) (slq1 r2 q2)
   obtain ⟨yv,hn⟩:∃ y,Hid (v=y):=⟨_,rfl⟩
   obtain ⟨va,bl⟩:∃ y,Hid (nv a.val=y):=⟨_,rfl⟩
   obtain ⟨vb,bq⟩:∃ y,Hid (nv b.val=y):=⟨_,rfl⟩
   rw[hn.out] at c3
   have ra:∀ {W:World},Row W k (inL E A i a.val b.val)→W.rangeAt k 2 (wn a.val)∧W.rangeAt k 6 (wn b.val):=fun hW=>⟨fun j z n=>by
    have:=hW.2.1 (2+j) z (by
     have hj:j<4:=(List.getElem?_eq_some_iff.1 n).1
     match j,hj with
     | 0,_=>exact n
     | 1,_=>exact n
     | 2,_=>exact n
     | 3,_=>exact n
     | j+4,h=>omega)
    rw[Nat.zero_add] at this
    exact this,fun j z n=>by
    have:=hW.2.1 (6+j) z (by
     have hj:j<4:=(List.getElem?_eq_some_iff.1 n).1
     match j,hj with
     | 0,_=>exact n
     | 1,_=>exact n
     | 2,_=>exact n
     | 3,_=>exact n
     | j+4,h=>omega)
    rw[Nat.zero_add] at this
    exact this⟩
   have S1:Hid ((Instr.buildSlice 143 1 #[(0,va)]).run Tryz.prog wr=.ok (.slice (some ⟨g1,0,none⟩) 1 1) o):=by rw[← bl.out,← S.out,← T.out];exact bslS a.val wr
   have S2:Hid ((Instr.buildSlice 143 1 #[(0,vb)]).run Tryz.prog o=.ok (.slice (some ⟨g2,0,none⟩) 1 1) W2):=by rw[← bq.out,← V.out,← J.out];exact bslS b.val o
   have kz:=mk3 ((ra hR.r0).1) ((ra L1.r0).2) h0.2.1
   have M:Hid (Value.agg ev.toList.toArray=yv∧(Tryz.prog.info? 150).map (·.size)=some ev.toList.length):=⟨k0.symm.trans hn.out,by rw[Array.length_toList,L];exact iGr⟩
   obtain ⟨dG,Z,X⟩:=Option.map_eq_some_iff.1 uGr
   obtain ⟨dS,k9,kd⟩:=Option.map_eq_some_iff.1 rSc
   have HD:Hid ((Tryz.prog.underlying 150=some dG∧dG.isRow=true)∧Tryz.prog.underlying 44=some dS∧dS.isRow=true):=⟨⟨Z,X⟩,k9,kd⟩
   have db:=Hid.mk' c3
   have ky:=Hid.mk' (And.intro cM cP)
   have d3:=Hid.mk' L2
   obtain ⟨vz,d2⟩:=hE (Value.agg z33.toArray)
   obtain ⟨vy,cd⟩:=hE (pvl Y)
   rw[cd.out] at ky
   have HZ:Hid (∀ W,(binOp .eql 51 vy vz).run Tryz.prog W=.ok (.bool Bd) W∧(Instr.build 51 #[]).run Tryz.prog W=.ok vz W∧(eqGuard .eql 51 (.tmp 67) (.tmp 68) vy vz).run Tryz.prog W=.ok () W):=by
    rw[← d2.out,← cd.out,← d5]
    exact fun W=>⟨by rw[o33_pvl];exact eqPtY d0 rfl W,bldCP W,by unfold pvl;kernel_rfl⟩
   go_wp2_with (first|(refine wpList_load_mid rfl 150 (.tmp 6) rfl (k+2) 0 ?_ ev.toList dG ?_ ?_ ?_ ?_ ?_;rfl;exact kz.2.2;exact HD.1.1;exact HD.1.2;exact M.2;rw[M.1])|(refine ldR 57 kz.1 bl rSc nSc ?_)|(refine ldR 60 kz.2.1 bq rSc nSc ?_)|(refine wpList_bsl (v:=.slice (some ⟨g1,0,none⟩) 1 1) (w':=o) rfl 143 1 _ rfl #[(0,va)] ?_ ?_ ?_;kernel_rfl;exact S1.out)|(refine wpList_bsl (v:=.slice (some ⟨g2,0,none⟩) 1 1) (w':=W2) rfl 143 1 _ rfl #[(0,vb)] ?_ ?_ ?_;kernel_rfl;exact S2.out)|fail)
   refine db.mono ?_
   rintro e W3 ⟨s1,rfl,cz,cy⟩
   have L3:=d3.grow cz
   have kw:=Hid.mk' (And.intro L3 (show Sm 0 W3 s1 l1 from by
    obtain ⟨g,c,x1,x2,-,x4⟩:=cy
    exact ⟨g,c,x1,x2,Nat.zero_le _,x4⟩))
   go_wp2_with fail
   refine (ky.1 W3 s1 u3 kw.2 kw.1.sm.sm).mono ?_
   rintro e W4 ⟨s2,rfl,k1,dm⟩
   have L4:=kw.1.grow k1
   have cf:=Hid.mk' (And.intro L4 (show Sm 0 W4 s2 l2 from by
    obtain ⟨g,c,x1,x2,-,x4⟩:=dm
    exact ⟨g,c,x1,x2,Nat.zero_le _,x4⟩))
   go_wp2_with fail
   refine (ky.2 W4 s2 cf.2).mono ?_
   rintro e W5 ⟨uu,rfl,dk,d4⟩
   have c9:=d4.symm
   subst c9
   have L5:=Hid.mk' (cf.1.grow dk).on
   go_wp2_with (first|(refine wpList_bld (v:=vz) (w':=W5) rfl 51 _ rfl #[] ?_ ?_ ?_;kernel_rfl;exact (HZ W5).2.1)|(refine wpList_op (v:=.bool Bd) (w':=W5) rfl (.binOp .eql 51 (.tmp 67) (.tmp 68) 51) rfl ?_ ?_;exact ix_run (I:=eqGuard .eql 51 (.tmp 67) (.tmp 68) vy vz >>= fun _=>binOp .eql 51 vy vz) (by rw[Sem.run_bind,(HZ W5).2.2];exact (HZ W5).1))|fail)
   go_ret
   exact ⟨_,rfl,L5.out,rfl⟩
end
section
open Go.RowKit Go.Sort Go.Deep SPA
variable {P:Nat} [NeZero P] {N:Nat}
noncomputable def gPG (C:Fld P):OnP P:=⟨gG P,gG_on C⟩
noncomputable def hPV (C:Fld P):OnP P:=lPt C valueL []
theorem cmt_two (n m:Nat):cmt P n m=EC.add (EC.mul n (.some (hpt P valueL []))) (EC.mul m (gG P)):=by
 unfold cmt
 generalize (.some (hpt P valueL []):EC.Pt P)=H
 show EC.add (EC.add none (EC.zmul ((n:Nat):Int) H)) (EC.zmul ((m:Nat):Int) (gG P))=_
 rw[EC.none_add]
 rfl
section
variable [NeZero N]
theorem cmt_cm (C:Fld P) (k:∀ r:EC.Pt P,EC.On r→EC.mul N r=none) (a b:Fin N):wr (cmt P a.val b.val)=wP ((ptMd C k).cm (hPV C) (gPG C) a b):=by
 rw[cmt_two]
 rfl
structure RvL (C:Fld P) (hord:∀ r:EC.Pt P,EC.On r→EC.mul N r=none) (R:Rv N) (V A S C1 C2 L3 L6 L8:Bs):Prop where
 eV:V=wP (R.pV (ptMd C hord) (gPG C) (hPV C))
 eA:A=wP (R.pA (ptMd C hord) (gPG C) (gPt C ⟨#[108,101,102,116]⟩) (gPt C ⟨#[114,105,103,104,116]⟩))
 eS:S=wP (R.pS (ptMd C hord) (gPG C) (gPt C ⟨#[108,101,102,116]⟩) (gPt C ⟨#[114,105,103,104,116]⟩))
 e1:C1=wP (R.p1 (ptMd C hord) (gPG C) (hPV C))
 e2:C2=wP (R.p2 (ptMd C hord) (gPG C) (hPV C))
 l3:L3=bgL V R.n A S
 y:R.y=askF N L3
 z:R.z=askF N (wentF L3)
 l6:L6=mdL (wentF (wentF L3)) C1 C2
 x:R.x=askF N L6
 l8:L8=enL (wentF L6) R.tau.val R.mu.val R.t.val
 w:R.w=askF N L8
structure RvS (R:Rv N) (sd:List UInt8):Prop where
 s:∀ i,(R.s i).val=chL N [115,108] [sd,(num4 i).toList]
 q:∀ i,(R.q i).val=chL N [115,114] [sd,(num4 i).toList]
 al:R.al.val=chL N [97,108,112,104,97] [sd]
 rho:R.rho.val=chL N [114,104,111] [sd]
 t1:R.t1.val=chL N [116,97,117,49] [sd]
 t2:R.t2.val=chL N [116,97,117,50] [sd]
end
theorem bslA (q:Option Addr) (n c:Nat) (w:World):(Instr.buildSlice 27 1 #[(0,.slice q n c)]).run Tryz.prog w=.ok (.slice (some ⟨w.heap.size,0,none⟩) 1 1) (w.alloc (.cells #[.slice q n c] 23)):=kR
theorem ch_pre (O:Ord N) (d:ByteArray) (i:d.size≤1000) (g:List UInt8) (q:Option Addr) (n c:Nat) (w:World) (l:SP.PartOk w (.slice q n c) g) {x:Nat} (hx:x=chL N d.data.toList [g]) :
 ∃ k f,Hid ((Instr.buildSlice 27 1 #[(0,.slice q n c)]).run Tryz.prog w=.ok (.slice (some ⟨k,0,none⟩) 1 1) f)∧Hid (Below w.heap.size w f)∧Hid (Calls Tryz.prog 74 #[.string d,.slice (some ⟨k,0,none⟩) 1 1] f (Ret fun e w'=>Below f.heap.size f w'∧e=nv x)):=by
 have b:=below1 w (.cells #[.slice q n c] 23)
 refine ⟨_,_,bslA q n c w,b,?_⟩
 rw[hx]
 refine chance_c O d _ 1 1 [g] _ oM rfl dC (Or.inr ⟨_,_,rfl,fun j f=>?_⟩)
 obtain rfl:j=0:=by simp at f;omega
 exact ⟨_,(row_new w [.slice q n c] 23).2.1 0 _ rfl,l.below b⟩
def rp0:Rp:=⟨o33,o33,o33,o33,0,0,0⟩
theorem rp0_ok:rp0.Ok:=⟨rfl,rfl,rfl,rfl⟩
end
namespace RG
open Go Go.RowKit
variable {P:Program} {ops:Array Oper} {Q:Exit→Act→World→Prop} {w:World} {a0:Act} {L:Array Bool} {F:Flow} {m:Nat}
theorem anyT:∀ (k:Nat) (L:Array Bool) (a:Act) (w:World),wpAny P .any ops Q k L a w→anyS P ops Q (fun _ _=>True) k L a w
 | 0,_,_,_,h=>h
 | k+1,_,_,_,h=>⟨h.1,fun i d=>wpOp_mono (fun b w' c=>⟨trivial,anyT k _ b w' c⟩) (h.2 i d)⟩
def chainL (k:Array Oper) (n:Nat) (late:List Nat):Bool:=(List.range n).all (fun j=>late.contains j || reachB k 5 n j) && (List.range k.size).all (fun i=>decide (i≤n) || depOn k i (i-1))
theorem chainL_dep {n i:Nat} {late:List Nat} (h:chainL ops n late=true) (c:n<i) (b:i<ops.size):depOn ops i (i-1)=true:=by
 unfold chainL at h
 rw[Bool.and_eq_true] at h
 have k:=List.all_eq_true.1 h.2 i (List.mem_range.2 b)
 rw[Bool.or_eq_true,decide_eq_true_eq] at k
 rcases k with k|k
 ·omega
 ·exact k
def lz (m n:Nat) (late:List Nat):Array Bool:=((List.range m).map fun i=>decide (i<n) && !late.contains i).toArray
structure LateP (P:Program) (F:Flow) (ops:Array Oper) (n:Nat) (late:List Nat) (j:Nat):Prop where
 lt:j<n
 o:∃ o,ops[j]? = some o∧o.guard=none∧isAl ops j=false∧(∀ i oi,ops[i]? = some oi→i≠j→(i∈late∨n≤i)→(∀ e∈oi.after,Region.binds .any e=true→e.on≠j)→o.apart ops oi=true)∧(∃ p op,n≤p∧ops[p]? = some op∧∃ e∈op.after,Region.binds .any e=true∧e.on=j)∧(∀ e∈o.after,Region.binds .any e=true→e.on<n∧e.on ∉ late)∧∃ j' t,depB o j'=true∧dstOf ops j'=some t∧F.kill j'=[]∧∀ v w,F.R j' v w→∃ u,F.R j u w∧F.E j w w∧∀ (a:Act) (W:World),a.eval (.tmp t)=v→(execOp a.eval o).run P W=.ok (.value u) W
theorem flow_late {id:Nat} (F:Flow) (n:Nat) (late:List Nat) (k5:∀ j∈late,LateP P F ops n late j) (hQ:∀ c (a:Act) t v w,Q (.panic c) (a.put (some t) v) w→Q (.panic c) a w) (hs:Region.noSelect ops=true) (hn:n<ops.size) (hc:chainL ops n late=true) (hm:P.follows .mixedOrders=true) (R:RegF P Q F ops a0 n) (hA:Als P F ops n) (hB:∀ b,F.B b w.drew)
 (hp:∀ (V:Nat→Value) (w':World),(∀ i,i<n→F.kill i=[]→F.R i (V i) w')→(∀ b,F.killB b=[]→F.B b w')→(∀ i j,i<n→j<n→i≠j→isAl ops i=true→isAl ops j=true→(dstOf ops i).isSome=true→(dstOf ops j).isSome=true→V i≠V j)→wpList P ops Q (ops.toList.drop n) (putV V (ops.toList.take n) 0 a0) w'):(Code.region id ops true).wp P Q a0 w:=by
 have ka:∀ (i:Nat) (o:Oper),ops[i]? = some o→∀ e∈o.after,Region.binds .any e=true→e.on<i:=fun i o ho=>(R.of ho).1
 have key:∀ (m:Nat) (L:Array Bool) (a:Act) (w:World),unl L=m→(∀ j,n≤j→on L j=false)→InvF F ops a0 L a w→Sep ops L a→wpAny P .any ops Q m L a w:=by
  intro m
  induction m with
  | zero =>
   intro L a w hu k y hS
   have:=unl_zero hu n (by rw[y.size];omega)
   rw[k n (Nat.le_refl _)] at this;cases this
  | succ m ih =>
   intro L a w hu k y hS
   by_cases q:∀ j,j<n→j ∉ late→on L j=true
   ·by_cases h5:∃ j,j∈late∧on L j=false
    ·obtain ⟨j,s,I⟩:=h5
     obtain ⟨k4,o,ho,hg,hz,k7,⟨p,op,k6,kb,ke⟩,h9,j',t,A,k0,kd,ht⟩:=k5 j s
     have J:∀ x∈F.kill j',on L x=false:=fun x hx=>by rw[kd] at hx;cases hx
     obtain ⟨V,D,X⟩:=y.all
     have f:∀ e∈o.after,Region.binds .any e=true→on L e.on=true:=fun e Z hb=>q _ (h9 e Z hb).1 (h9 e Z hb).2
     obtain ⟨e,Z,U⟩:=Array.any_eq_true'.1 A
     simp only[Bool.and_eq_true,beq_iff_eq] at U
     have r:on L j'=true:=by rw[← U.2];exact f e Z U.1
     obtain ⟨u,kf,k1,k3⟩:=ht (V j') w (X j' r J)
     have k9:=eval_of (D j' t r k0)
     have T:=(Array.getElem?_eq_some_iff.1 ho).1
     have h0:L.getD j true=false:=by
      unfold on at I
      rw[Array.getD_eq_getD_getElem?,Array.getElem?_eq_getElem (by rw[y.size];exact T)] at I ⊢
      exact I
     have hq:∀ i,on L i=true→i<n:=fun i g=>by
      rcases Nat.lt_or_ge i n with h|h
      ·exact h
      ·rw[k i h] at g;cases g
     have H:=y.nx R k4 hq ho I f k1 kf
     have O:∀ i,on (L.setIfInBounds j true) i=true→i≠j→on L i=true:=fun i g B=>by
      rw[on_set (by rw[y.size];exact T)] at g
      rcases Bool.or_eq_true _ _ ▸ g with g|g
      ·exact g
      ·exact absurd (by simpa using g:j=i).symm B
     have k8:Sep ops (L.setIfInBounds j true) (a.put o.dst u):=fun i i2 di dj g k2 Y E C z M=>by
      have hy:i≠j:=by rintro rfl;rw[hz] at E;cases E
      have h8:i2≠j:=by rintro rfl;rw[hz] at C;cases C
      have G:=hS i i2 di dj (O i g hy) (O i2 k2 h8) Y E C z M
      have K:∀ i di N,i≠j→dstOf ops i=some di→o.dst=some N→N≠di:=fun i di N B g hk e=>by
       subst e
       exact B ((R.of ho).2 N hk |>.2 i g)
      cases hd:o.dst with
      | none=>exact G
      | some N=>rw[put_get (K i di N hy z hd),put_get (K i2 dj N h8 M hd)];exact G
     have h6:=ih (L.setIfInBounds j true) (a.put o.dst u) w (by have:=unl_set h0;omega) (fun i g=>by
      rw[on_set (by rw[y.size];exact T),k i g]
      simp only[Bool.false_or,beq_eq_false_iff_ne]
      omega) H k8
     refine anyS.any _ _ _ _ (anyS.first (S:=fun _ _=>True) (p:=p) ho kb ke oM (fun _ _ _=>trivial) (Region.noSelect_spec hs) (fun c a w h=>by
      cases hd:o.dst with
      | none=>rw[hd] at h;exact h
      | some t=>rw[hd] at h;exact hQ c a t u w h) m L a w ?_ (fun i oi G B h7 kc=>k7 i oi G B (by
      rcases Nat.lt_or_ge i n with h|h
      ·by_cases hw:i∈late
       ·exact Or.inl hw
       ·have N:=q i h hw
        have K:=(Array.getElem?_eq_some_iff.1 G).1
        unfold on at N
        rw[Array.getD_eq_getD_getElem?,Array.getElem?_eq_getElem (by rw[y.size];exact K)] at N h7
        exact Bool.noConfusion (N.symm.trans h7)
      ·exact Or.inr h) kc) (mem_ready.2 ⟨h0,o,ho,?_⟩) (Or.inl ⟨wanted_of hg _,fun W _=>k3 a W k9⟩) ⟨#[],by simp,trivial⟩ trivial (anyT m _ _ _ h6))
     ·have:=k p k6
      unfold on at this
      exact this
     ·intro e Z hb
      exact f e Z hb
    have r:∀ j,j<n→on L j=true:=fun j s=>by
     by_cases I:j∈late
     ·cases h:on L j with
      | true=>rfl
      | false=>exact absurd ⟨j,I,h⟩ h5
     ·exact q j s I
    have B:∀ j,on L j=true↔j<n:=fun j=>⟨fun s=>(by
     rcases Nat.lt_or_ge j n with h|h
     ·exact h
     ·rw[k j h] at s;cases s),r j⟩
    obtain ⟨V,D,X⟩:=y.all
    have U:=y.act R oM B D
    have J:∀ l:List Nat,l=[]→∀ x∈l,on L x=false:=fun l T x hx=>by rw[T] at hx;cases hx
    have M:=hp V w (fun j s hk=>X j (r j s) (J _ hk)) (fun b hb=>y.base b (J _ hb)) (fun i j g s Y E C z A e=>by
     obtain ⟨di,z⟩:=Option.isSome_iff_exists.1 z
     obtain ⟨dj,A⟩:=Option.isSome_iff_exists.1 A
     refine hS i j di dj (r i g) (r j s) Y E C z A ?_
     rw[D i di (r i g) z,D j dj (r j s) A,e])
    rw[← U] at M
    exact tail_any4 (fun i O N=>chainL_dep hc O N) ka _ L a w n (Nat.le_refl _) oM y.size B hu M
   ·refine ⟨fun B=>?_,fun i g=>?_⟩
    ·exact absurd (fun j s _=>y.full R B j oM) q
    ·obtain ⟨O,o,ho,f⟩:=mem_ready.1 g
     have K:=(Array.getElem?_eq_some_iff.1 ho).1
     have G:on L i=false:=by
      unfold on
      rw[Array.getD_eq_getD_getElem?] at O ⊢
      cases hh:L[i]? with
      | none=>rfl
      | some b=>rw[hh] at O;exact O
     have A:i<n:=by
      rcases Nat.lt_or_ge i n with h|h
      ·exact h
      ·exfalso
       rcases Nat.lt_or_ge n i with N|N
       ·have:=dep_ready ho f (chainL_dep hc N K)
        rw[k (i-1) oM] at this
        cases this
       ·obtain rfl:i=n:=oM
        refine q fun j s I=>?_
        unfold chainL at hc
        rw[Bool.and_eq_true] at hc
        have r:=List.all_eq_true.1 hc.1 j (List.mem_range.2 s)
        rw[Bool.or_eq_true] at r
        replace r:=r.resolve_left (by simpa using I)
        unfold reachB at r
        rw[Bool.or_eq_true] at r
        rcases r with r|r
        ·exact dep_ready ho f r
        ·obtain ⟨x,hx,z⟩:=List.any_eq_true.1 r
         rw[Bool.and_eq_true] at z
         exact reach_on y 4 x j (by have:=List.mem_range.1 hx;omega) (dep_ready ho f z.1) z.2
     refine wpOp_mono (fun r w' H=>ih _ r w' (by have:=unl_set O;omega) (fun j s=>?_) H.1 H.2) (stepS R hA A (fun j s=>?_) ho G f y hS)
     ·rw[on_set (by rw[y.size];exact K),k j s]
      simp only[Bool.false_or,beq_eq_false_iff_ne]
      omega
     ·rcases Nat.lt_or_ge j n with h|h
      ·exact h
      ·rw[k j h] at s;cases s
 have k:∀ i,on (Array.replicate ops.size false) i=false:=fun i=>by
  unfold on
  rw[Array.getD_eq_getD_getElem?,Array.getElem?_replicate]
  by_cases h:i<ops.size
  ·rw[if_pos h];rfl
  ·rw[if_neg h];rfl
 refine wp_region_any hm (key _ _ a0 _ ?_ (fun j _=>k j) ⟨Array.size_replicate,(fun i o _ h=>by rw[k] at h;cases h),rfl,rfl,fun _ _=>rfl,⟨fun _=>undef,fun i d h=>(by rw[k] at h;cases h),fun i h=>(by rw[k] at h;cases h)⟩,fun b _=>hB b⟩ (fun i j di dj g=>by rw[k] at g;cases g))
 unfold unl
 rw[Array.toList_replicate,List.countP_replicate]
 simp
theorem late1 {G:Gw} {n:Nat} {late:List Nat} {j:Nat} (p m:Nat) (t:Tmp) (c:∀ v w,G.R m v w→∃ u,G.R j u w∧∀ o,ops[j]? = some o→∀ W,(seenT [t] o,(execOp (evo fun _=>v) o).run P W)=(true,.ok (.value u) W))
 (z:(decide (j<n) && decide (n≤p) && waits ops p j && Region.free .any ops (lz ops.size n late) j && !isAl ops j && (match ops[j]? with|some o=>o.guard.isNone && o.after.all (fun e=>!Region.binds .any e || (decide (e.on<n) && !late.contains e.on)) && depB o m|none=>false))=true:=by kernel_rfl) (hd:dstOf ops m=some t:=by kernel_rfl):LateP P G.flow ops n late j:=by
 simp only[Bool.and_eq_true,decide_eq_true_eq,Bool.not_eq_true'] at z
 obtain ⟨⟨⟨⟨⟨H,A⟩,g⟩,C⟩,E⟩,b⟩:=z
 cases ho:ops[j]? with
 | none=>rw[ho] at b;cases b
 | some o =>
  rw[ho] at b
  simp only[Bool.and_eq_true] at b
  obtain ⟨⟨F,B⟩,I⟩:=b
  have D:o.guard=none:=by simpa using F
  refine ⟨H,o,ho,D,E,fun i J f s k q=>Region.free_spec ho C i J f s ?_ q,?_,fun e d l=>?_,m,t,I,hd,rfl,fun v w hv=>?_⟩
  ·have r:=(Array.getElem?_eq_some_iff.1 f).1
   unfold lz
   rw[Array.getD_eq_getD_getElem?,List.getElem?_toArray,List.getElem?_map,List.getElem?_range r,Option.map_some,Option.getD_some]
   rcases k with k|k
   ·rw[List.contains_iff_mem.2 k,Bool.not_true,Bool.and_false]
   ·rw[decide_eq_false oM,Bool.false_and]
  ·unfold waits at g
   cases r:ops[p]? with
   | none=>rw[r] at g;cases g
   | some op =>
    rw[r] at g
    obtain ⟨e,d,l⟩:=Array.any_eq_true'.1 g
    simp only[Bool.and_eq_true,beq_iff_eq] at l
    exact ⟨p,op,A,r,e,d,l.1,l.2⟩
  ·have:=Array.all_eq_true'.1 B e d
   rw[l,Bool.not_true,Bool.false_or,Bool.and_eq_true,decide_eq_true_eq,Bool.not_eq_true'] at this
   exact ⟨this.1,by simpa using this.2⟩
  ·obtain ⟨u,x,r⟩:=c v w hv
   refine ⟨u,x,Below.refl _ _,fun a W d=>?_⟩
   have h:=r o ho W
   rw[Prod.mk.injEq] at h
   rw[exec_ev (a:=a) (fun _=>v) [t] h.1 (fun K y=>by rw[List.mem_singleton.1 y];exact d)]
   exact h.2
theorem Gw.late {id:Nat} (G:Gw) (n:Nat) (l:List Nat) (b:∀ j∈l,LateP P G.flow ops n l j) (g:Als P G.flow ops n) (k:(decide (n<ops.size) && chainL ops n l && Region.noSelect ops)=true) (m:P.follows .mixedOrders=true) (s:chkF ops a0.tmps.size=true) (h:CertsF P Q G.flow ops a0 0 (ops.toList.take n)) (r:G.B w.drew)
 (f:∀ (V:Nat→Value) (w':World),(∀ i,i<n→G.R i (V i) w')→G.B w'→(∀ i j,i<n→j<n→i≠j→isAl ops i=true→isAl ops j=true→(dstOf ops i).isSome=true→(dstOf ops j).isSome=true→V i≠V j)→wpList P ops Q (ops.toList.drop n) (putV V (ops.toList.take n) 0 a0) w') (d:∀ c (a:Act) t v w,Q (.panic c) (a.put (some t) v) w→Q (.panic c) a w:=by exact fun _ _ _ _ _ h=>h):(Code.region id ops true).wp P Q a0 w:=by
 rw[Bool.and_eq_true,Bool.and_eq_true,decide_eq_true_eq] at k
 exact flow_late G.flow n l b d k.2 k.1.1 k.1.2 m (Gw.reg s h) g (fun _=>r) fun V w' p e o=>f V w' (fun i q=>p i q rfl) (e 0 rfl) o
end RG
section
open Go Go.RowKit
section
variable {P:Program} {ops:Array Oper} {rest:List Oper} {op:Oper} {a a':Act} {w w':World} {Q:Exit→Act→World→Prop} {d:Option Tmp} {x v:Value} {t:Tmp} {T:TypeId} {b off:Nat} {cs:List Value}
theorem PW.begin {id:Nat} {l:List Oper} (h:wpList P l.toArray Q l a w):(Code.region id l.toArray false).wp P Q a w:=wp_region_list h
theorem PW.dn (h:Q .normal a w):wpList P ops Q [] a w:=h
theorem PW.va (x:Value) (h:wpList P ops Q rest a' w) (hd:op.dst=d:=by rfl) (b:op.guard=none:=by rfl) (hv:(execOp a.eval op).run P w=.ok (.value x) w:=by kernel_rfl) (c:a.put d x=a':=by (simp only[Act.put,List.setIfInBounds_toArray,List.set_cons_succ,List.set_cons_zero])<;>rfl):wpList P ops Q (op :: rest) a w:=by
 subst c hd
 exact wpList_plain b fun K k=>by
  unfold Oper.wp
  rw[hv]
  exact k _ _ h
theorem PW.mv (h:wpList P ops Q rest a' w) (hd:op.dst=d:=by rfl) (b:op.guard=none:=by rfl) (k:op.op=.move (.tmp t):=by rfl) (hx:a.eval (.tmp t)=x:=by (conv=>lhs;whnf)<;>rfl) (c:a.put d x=a':=by (simp only[Act.put,List.setIfInBounds_toArray,List.set_cons_succ,List.set_cons_zero])<;>rfl):wpList P ops Q (op :: rest) a w:=
 PW.va x h hd b (by unfold execOp;rw[k];dsimp only;rw[hx];rfl) c
theorem PW.ns {I:Sem Value} (hx:I.run P w=.ok x w') (h:wpList P ops Q rest a' w') (hd:op.dst=d:=by rfl) (c:op.guard=none:=by rfl) (k:execOp a.eval op=I >>= fun v=>pure (Next.value v):=by kernel_rfl) (e:a.put d x=a':=by (simp only[Act.put,List.setIfInBounds_toArray,List.set_cons_succ,List.set_cons_zero])<;>rfl):wpList P ops Q (op :: rest) a w:=by
 subst e hd
 exact wpList_plain c fun K b=>by
  unfold Oper.wp
  rw[k,Sem.run_bind,hx]
  exact b _ _ h
theorem PW.ca {f:FuncId} {args:Array Value} {R:Value→World→Prop} (b:Calls P f args w (Ret R)) (h:∀ e w',R e w'→wpList P ops Q rest (a.put d e) w') (hd:op.dst=d:=by rfl) (c:op.guard=none:=by rfl) (hx:(execOp a.eval op).run P w=.ok (.enter f args) w:=by kernel_rfl):wpList P ops Q (op :: rest) a w:=by
 subst hd
 exact wpList_plain c fun K k=>by
  unfold Oper.wp
  rw[hx,Oper.upon_enter]
  refine b.mono ?_
  rintro e w' ⟨v,rfl,hR⟩
  exact k _ _ (h v w' hR)
theorem PW.gi {f:FuncId} {args:Array Value} (k:Calls P f args w (Ret fun e w'=>Below w.heap.size w w'∧e=x)) (h:∀ w',Below w.heap.size w w'→wpList P ops Q rest a' w') (hd:op.dst=d:=by rfl) (b:op.guard=none:=by rfl) (hx:(execOp a.eval op).run P w=.ok (.enter f args) w:=by kernel_rfl) (c:a.put d x=a':=by (simp only[Act.put,List.setIfInBounds_toArray,List.set_cons_succ,List.set_cons_zero])<;>rfl):wpList P ops Q (op :: rest) a w:=
 PW.ca k (fun e w' hR=>by
  obtain ⟨g,rfl⟩:=hR
  subst c
  exact h w' g) hd b hx
theorem PW.al {g:Nat} {b:Obj} (f:Hid (w.heap.size=g)) (i:Hid (w.alloc b=w')) (h:wpList P ops Q rest a' w') (hd:op.dst=d:=by rfl) (k:op.guard=none:=by rfl) (c:(execOp a.eval op).run P w=.ok (.value (.pointer (some ⟨w.heap.size,0,none⟩))) (w.alloc b):=by kernel_rfl) (j:a.put d (.pointer (some ⟨g,0,none⟩))=a':=by (simp only[Act.put,List.setIfInBounds_toArray,List.set_cons_succ,List.set_cons_zero])<;>rfl):wpList P ops Q (op :: rest) a w:=by
 subst j hd
 exact wpList_plain k fun K e=>by
  unfold Oper.wp
  rw[c,f.out,i.out]
  exact e _ _ h
theorem PW.st (d:Hid (w.setCells b off cs=w')) (hv:Hid (.agg cs.toArray=v)) (th:w.there b off cs.length) (c:(P.info? T).map (·.size)=some cs.length) (g:cs.toArray.all (·.oneCell')=true) (h:wpList P ops Q rest a' w') (hd:op.dst=none:=by rfl) (k:op.guard=none:=by rfl) {y:Operand} (ho:op.op=.store T (.tmp t) y:=by rfl) (hx:a.eval (.tmp t)=.pointer (some ⟨b,off,none⟩):=by rfl) (e:a.eval y=v:=by rfl) (f:a.put none undef=a':=by (simp only[Act.put])<;>rfl):wpList P ops Q (op :: rest) a w:=
 wpList_store_mid k T (.tmp t) y ho b off cs.toArray hx (e.trans hv.out.symm) th c g (by rw[show cs.toArray.toList=cs from rfl,d.out,hd,f];exact h)
theorem PW.ro (c:w.rangeAt b off cs) (hv:Hid (.agg cs.toArray=v)) (g:(P.underlying T).map (·.isRow)=some true) (i:(P.info? T).map (·.size)=some cs.length) (h:wpList P ops Q rest a' w) (hd:op.dst=d:=by rfl) (k:op.guard=none:=by rfl) (ho:op.op=.load T (.tmp t):=by rfl) (hx:a.eval (.tmp t)=.pointer (some ⟨b,off,none⟩):=by rfl) (j:a.put d v=a':=by (simp only[Act.put,List.setIfInBounds_toArray,List.set_cons_succ,List.set_cons_zero])<;>rfl):wpList P ops Q (op :: rest) a w:=by
 obtain ⟨f,l,e⟩:=Option.map_eq_some_iff.1 g
 exact wpList_load_mid k T (.tmp t) ho b off hx cs f c l e i (by rw[hv.out,hd,j];exact h)
theorem PW.ce (c:w.cell? ⟨b,off,none⟩=some x) (e:(P.underlying T).map (·.isRow)=some false) (h:wpList P ops Q rest a' w) (hd:op.dst=d:=by rfl) (k:op.guard=none:=by rfl) (ho:op.op=.load T (.tmp t):=by rfl) (hx:a.eval (.tmp t)=.pointer (some ⟨b,off,none⟩):=by rfl) (f:a.put d x=a':=by (simp only[Act.put,List.setIfInBounds_toArray,List.set_cons_succ,List.set_cons_zero])<;>rfl):wpList P ops Q (op :: rest) a w:=
 PW.va x h hd k (by
  unfold execOp
  rw[ho]
  dsimp only
  rw[hx,Sem.run_bind,RG.run_load1 c e]
  rfl) f
end
end
section
open Go.RowKit Go.Sort Go.Deep SPA
variable {P:Nat} [NeZero P] {N:Nat} [NeZero N]
omit [NeZero N] in
theorem SLq.fin {Q:Nat→Prop} {W:World} {v:Value} {n:Nat} {a:Nat→Nat} (b:Nat→Fin N) (h:SLq Q W v n a) (e:∀ i,i<n→a i=(b i).val):SLq Q W v n (fun i=>(b i).val):=h.congr e
omit [NeZero N] in
theorem Ln.fin {Q:Nat→Prop} {W:World} {v:Value} {n:Nat} {a b:Nat→Nat} (c d:Nat→Fin N) (h:Ln Q W v n a b) (e:∀ i,i<n→a i=(c i).val) (e':∀ i,i<n→b i=(d i).val):Ln Q W v n (fun i=>(c i).val) (fun i=>(d i).val):=by
 obtain ⟨x,y,f,k,g⟩:=h.ex
 exact ⟨x,y,f,k.congr e,g.congr e'⟩
theorem bt_val (k:1<N) (v i:Nat):v/2^i%2=(btF N v i).val:=by
 exact (Nat.mod_eq_of_lt (Nat.lt_of_lt_of_le (Nat.mod_lt _ dC) k)).symm
theorem bm_val (k:1<N) (v i:Nat):sMi N (v/2^i%2) 1=(btF N v i-1).val:=by
 rw[mi_val,← bt_val k,show (1:Fin N).val=1 from Nat.mod_eq_of_lt k]
theorem hp_c (C:Fld P) (O:Ord N) (b:∀ r:EC.Pt P,EC.On r→EC.mul N r=none) (q:NT.IsP N) (n:Nat) (f:0<n) (D:n≤64) (a:Fin N) (l m:Nat→Fin N) (Gb X:Bs) (hG:wr (gG P)=Gb) (w:X=wP ((ptMd C b).ad ((ptMd C b).ac a (gPG C)) ((ptMd C b).ad ((ptMd C b).dt l (gPt C ⟨#[108,101,102,116]⟩) n) ((ptMd C b).dt m (gPt C ⟨#[114,105,103,104,116]⟩) n)))) :
 ∃ c lb,(∀ W:World,Calls Tryz.prog 32 #[pvl Gb,nv a.val] W (Ret fun e w'=>Below W.heap.size W w'∧Sm W.heap.size w' e c)) ∧
  (∀ (Q:Nat→Prop) (W:World) (v va d:Value),GRq Q W v n (gGT P) (hGT P) (uGT P)→SLq Q W va n (fun i=>(l i).val)→SLq Q W d n (fun i=>(m i).val)→Calls Tryz.prog 78 #[v,va,d] W (Ret fun e w'=>Below W.heap.size W w'∧Sm W.heap.size w' e lb)) ∧
  (∀ (W:World) (s z:Value),Sm 0 W s c→Sm 0 W z lb→Calls Tryz.prog 31 #[s,z] W (Ret fun e w'=>Below W.heap.size W w'∧Sm W.heap.size w' e (c++lb))) ∧
  (∀ (W:World) (v:Value),Sm 0 W v (c++lb)→Calls Tryz.prog 33 #[v] W (Ret fun e w'=>Below W.heap.size W w'∧e=pvl X)):=by
 have c:=gd_left C q.1 n
 have o:=gd_right C q.1 n
 have j:=gok_of f (by decide:0<1) oM c o (tl_inner C q.1) Nat.one_pos (by show 1≤16;decide)
 have t:Gb.size=33:=by rw[← hG];exact wr_size _
 have t0:Tl N [(a.val,Gb)] ((ptMd C b).ac a (gPG C)):=by rw[← hG];exact Tl.pt C b a (gPG C)
 have t1:=(c.cmb C b l).1.app C b (o.cmb C b m).1
 have B:(cmbT N (fun i=>(l i).val) (gGT P) n++cmbT N (fun i=>(m i).val) (hGT P) n).length=n+n:=by rw[List.length_append,(c.cmb C b l).2,(o.cmb C b m).2,Nat.one_mul]
 have t2:=t0.app C b t1
 refine ⟨_,_,fun W=>?_,fun _ W v va d p g x=>listsG_c O n 1 (gGT P) (hGT P) (uGT P) j _ _ (fun i _=>(l i).isLt) (fun i _=>(m i).isLt) v va d W p g x,fun W s z p g=>sumPlusZ_c 0 s z _ _ (by simp) (by simp) oM t0.ok.sz t1.ok.sz W (Or.inr p) (Or.inr g),fun W v hv=>?_⟩
 ·refine (ptTimes_c Gb t a.val W).mono ?_
  rintro e W' ⟨u,rfl,y,k,rfl,j,hR⟩
  exact ⟨_,rfl,y,Sm.one hR j rfl⟩
 ·rw[w]
  exact t2.point C O b (by simp) (by rw[List.length_append,B];simp;omega) hv
theorem pw_val (k:1<N) (x:Fin N) (i:Nat):pwN N x.val i=(pwF x i).val:=(pwN_val k x i).symm
theorem sh_val (k:NT.IsP N) (b:2<N) (R:Rv N) (i:Nat):sPl N (sTi N R.z.val (pwN N R.y.val i)) (sTi N (sTi N R.z.val R.z.val) (pwN N 2 i))=(R.sh i).val:=by
 show _=(R.z*pwF R.y i+R.z*R.z*pwF (ofF N 2) i).val
 rw[pl_val,ti_val,ti_val,ti_val,← pw_val k.1,← pw_val k.1,show (ofF N 2).val=2 from Nat.mod_eq_of_lt b]
def pLn (Q:Nat→Prop) (n:Nat) (a b:Nat→Nat):RG.S1:=⟨fun v w=>Ln Q w v n a b,fun _ _ _ k h=>h.keep (Kq.of_below k)⟩
omit [NeZero N] in
theorem ftim (O:Ord N) (a b:Fin N) (W:World):Calls Tryz.prog 26 #[nv a.val,nv b.val] W (Ret fun e w'=>Below W.heap.size W w'∧e=nv (a*b).val):=by
 rw[ti_val]
 exact sTim_c O a.val b.val a.isLt b.isLt W
omit [NeZero N] in
theorem fplu (O:Ord N) (a b:Fin N) (W:World):Calls Tryz.prog 25 #[nv a.val,nv b.val] W (Ret fun e w'=>Below W.heap.size W w'∧e=nv (a+b).val):=by
 rw[pl_val]
 exact sPlu_c O a.val b.val a.isLt b.isLt W
theorem val_ch (O:Ord N) (k:NT.IsP N) {y:Fin N} {L:Bs} (h:y=askF N L):chS N L=y.val:=by
 rw[h]
 exact chS_ask k.1 L (redu_lt O _)
def pBeg (b:Nat) (f e:Value) (L:Bs):RG.S1:=⟨fun v w=>∃ r,v=.tuple #[lgV r,f,e]∧b≤r∧r<w.heap.size∧Holds encB w r 0 L,fun _ _ _ k ⟨r,i,d,c,g⟩=>⟨r,i,d,Nat.lt_of_lt_of_le c k.size,Holds.below g k c⟩⟩
def pLog1 (b:Nat) (L:Bs):RG.S1:=⟨fun v w=>∃ r,v=lgV r∧b≤r∧r<w.heap.size∧Holds encB w r 0 L,fun _ _ _ k ⟨r,f,d,c,e⟩=>⟨r,f,d,Nat.lt_of_lt_of_le c k.size,Holds.below e k c⟩⟩
theorem log_ne {W:World} {r k:Nat} {L:Bs} {u:Value} {cs:List Value} (h:Holds encB W r 0 L) (f:0<L.size) (d:Row W k (u :: cs)) (g:∀ b:UInt8,encB b≠u):r≠k:=by
 rintro rfl
 have c:=(h 0 f).1
 have e:=d.2.1 0 u rfl
 rw[e] at c
 exact g _ (Option.some.inj c).symm
theorem hG {α:Sort _} {p:Prop} (x:α) (h:∀ y,Hid (x=y)→p):p:=h x rfl
structure RgA (B0 t:Nat) (p:Rp) (Lb Rb:Nat→Bs) (Ab Bb:Bs) (e:Value) (W:World):Prop where
 ex:∃ a b c d u m s vL vR vA vB,e=.agg #[r33 a,r33 b,r33 c,r33 d,r32 u,r32 m,r32 s,vL,vR,vA,vB]∧RgT (fun _=>True) W p a b c d u m s∧TlL (fun _=>True) B0 t W vL Lb∧TlL (fun _=>True) B0 t W vR Rb∧ElQ (fun _=>True) 32 W vA Ab∧ElQ (fun _=>True) 32 W vB Bb
omit [NeZero N] [NeZero P] in
theorem RgA.set {i t k:Nat} {p:Rp} {q Rb:Nat→Bs} {r v:Bs} {e:Value} {W:World} {us vs:List Value} (h:RgA i t p q Rb r v e W) (H:Row W k (.slice none 0 0 :: vs)) (O:k<i):RgA i t p q Rb r v e (W.setCells k 0 us):=by
 obtain ⟨a,b,c,d,u,m,s,G,J,A,K,z,f,M,hR,C,I⟩:=h.ex
 have kq:Kq (·≠k) W (W.setCells k 0 us):=Kq.set fun g l=>l
 have el:∀ {m:Nat} {x:Value} {b:Bs},0<m→ElQ (fun _=>True) m W x b→ElQ (fun _=>True) m (W.setCells k 0 us) x b:=fun E hx=>((hx.off E H).keep kq).mono2 fun _ _ _=>trivial
 have o:∀ {n:Value} {B:Nat→Bs},TlL (fun _=>True) i t W n B→TlL (fun _=>True) i t (W.setCells k 0 us) n B:=fun hx=>by
  obtain ⟨xs,w,F⟩:=hx.ex
  refine ⟨xs,own_keep w fun g l=>RG.setCells_other k us 0 W g (by have:=(hx.lt l).1;omega),fun j L=>?_⟩
  obtain ⟨x,y,D⟩:=F j L
  exact ⟨x,y,el dC D⟩
 exact ⟨a,b,c,d,u,m,s,G,J,A,K,z,⟨el dC f.a,el dC f.b,el dC f.c,el dC f.d,el dC f.e,el dC f.f,el dC f.g⟩,o M,o hR,el dC C,el dC I⟩
theorem gd_turn (C:Fld P) (k:∀ r:EC.Pt P,EC.On r→EC.mul N r=none) (c:NT.IsP N) (R:Rv N) (n:Nat):Gd N n 1 (trnT N R.y.val (hGT P)) (R.hh (ptMd C k) (gPt C ⟨#[114,105,103,104,116]⟩)):=by
 have g:=gd_right C c.1 n
 refine ⟨fun i b=>?_,fun i b=>by unfold trnT;rw[List.length_map];exact g.len i b⟩
 have h:=(g.tl i b).tm C k (pwF (ivF R.y) i)
 rw[← pw_val c.1] at h
 exact h
theorem provR_c (C:Fld P) (O:Ord N) (k:∀ r:EC.Pt P,EC.On r→EC.mul N r=none) (M:NT.IsP N) (t:Nat) (ht:t≤6) (R:Rv N) (hn:R.n=2^t) (hv:R.v<18446744073709551616) (hN:18446744073709551616≤N) (sd:List UInt8) (sq:Option Addr) (sn sc:Nat) (V A S C1 C2 L3 L6 L8:Bs) (L:RvL C k R V A S C1 C2 L3 L6 L8) (hS:RvS R sd) (q:Md.Ps Bs (Fin N) (OnP P)) (lg:q.s=wentF L8) (n0:q.a=R.a) (o1:q.b=R.b) (nc:q.g=gPt C ⟨#[108,101,102,116]⟩) (md:q.h=R.hh (ptMd C k) (gPt C ⟨#[114,105,103,104,116]⟩)) (u:OnP P) (hu:u=(ptMd C k).ac R.w (uPt C)) (Lb Rb:Nat→Bs) (m7:∀ j,Lb j=wP ((ptMd C k).pLi (chF N) ivF u t q j)) (me:∀ j,Rb j=wP ((ptMd C k).pTi (chF N) ivF u t q j)) (Ab Bb:Bs) (mj:Ab=bx (((ptMd C k).pst (chF N) ivF u t q t).a 0).val) (n8:Bb=bx (((ptMd C k).pst (chF N) ivF u t q t).b 0).val) (pz:Rp) (U:Hid (⟨A,S,C1,C2,R.tau.val,R.mu.val,R.t.val⟩=pz)) (w:World) (hp:SP.PartOk w (.slice sq sn sc) sd) :
 Calls Tryz.prog 42 #[.int .u64 (R.v:Int),nv R.k.val,.int .i64 (R.n:Int),.slice sq sn sc] w (Ret fun e w'=>Below w.heap.size w w'∧∃ f,w.heap.size≤f∧RgA f t pz Lb Rb Ab Bb e w'):=by
 obtain ⟨vr,hr⟩:=hE (nv R.k.val)
 obtain ⟨va,ha⟩:=hE (nv R.al.val)
 obtain ⟨vh,hy⟩:=hE (nv R.rho.val)
 obtain ⟨v1,hq⟩:=hE (nv R.t1.val)
 obtain ⟨v2,hk⟩:=hE (nv R.t2.val)
 obtain ⟨k5,jc⟩:=hE (w.heap.size)
 obtain ⟨w1,lo⟩:=hE (w.alloc (.cells (wn R.k.val).toArray 44))
 obtain ⟨k8,j4⟩:=hE (w1.heap.size)
 obtain ⟨w2,jr⟩:=hE (w1.alloc (.cells z11.toArray 66))
 have K2:=mk1 (((Mp.start w).new jc lo).new j4 jr)
 have B1:Hid ((Instr.box 44 vr).run Tryz.prog w=.ok (.pointer (some ⟨k5,0,none⟩)) w1):=by rw[← hr.out,← lo.out,← jc.out];exact boxS _ w
 have n:R.n≤64:=by rw[hn];exact Nat.le_trans (Nat.pow_le_pow_right dC ht) dC
 have k4:Hid (∀ W,Below w.heap.size w W→SP.PartOk W (.slice sq sn sc) sd):=fun W hb=>hp.below hb
 obtain ⟨g3,w3,ix,j1,ia⟩:=ch_pre O ⟨#[97,108,112,104,97]⟩ dC sd sq sn sc w2 (k4 w2 K2.bl) hS.al
 rw[ha.out] at ia
 rw[hr.out]
 go_enter Tryz.func42,Tryz.ntmps42
 refine wp_seq ?_
 refine PW.begin ?_
 refine PW.ns B1.out ?_
 refine PW.al j4 jr ?_
 refine PW.dn ?_
 refine wp_seq ?_
 refine PW.begin ?_
 refine PW.mv ?_
 refine PW.ns ix.out ?_
 refine PW.gi ia.out fun w4 iz=>?_
 have K4:=mk1 ((K2.grow j1.out).grow iz)
 obtain ⟨g5,w5,lj,l7,i2⟩:=ch_pre O ⟨#[114,104,111]⟩ dC sd sq sn sc w4 (k4 w4 K4.bl) hS.rho
 rw[hy.out] at i2
 clear ia iz j1 ix K2
 refine PW.mv ?_
 refine PW.ns lj.out ?_
 refine PW.gi i2.out fun w6 le=>?_
 have K6:=mk1 ((K4.grow l7.out).grow le)
 clear i2 l7 le lj K4
 refine hG (w6.heap.size) fun k9 jp=>?_
 refine hG (w6.alloc (.cells (RG.z 4).toArray 44)) fun w7 j9=>?_
 refine hG (w7.heap.size) fun m8 em=>?_
 refine hG (w7.alloc (.cells (RG.z 4).toArray 44)) fun w8 l1=>?_
 refine hG (w8.setCells k9 0 (wn R.al.val)) fun w9 jj=>?_
 refine hG (w9.setCells m8 0 (wn R.rho.val)) fun lx f0=>?_
 have K8:=mk1 ((K6.new jp j9).new em l1)
 have K9:=mk1 (K8.put 2 jj)
 have fe:=mk1 (K9.put 3 f0)
 refine PW.al jp j9 ?_
 refine PW.al em l1 ?_
 refine PW.st jj ha (K8.th 2) i40 (wn_one _) ?_
 refine PW.st f0 hy (K9.th 3) i40 (wn_one _) ?_
 clear K6 K8 K9
 refine PW.dn ?_
 obtain ⟨pd,pa,db,ct,kf⟩:=ch_pre O ⟨#[116,97,117,49]⟩ dC sd sq sn sc lx (k4 lx fe.bl) hS.t1
 rw[hq.out] at kf
 refine wp_seq ?_
 refine PW.begin ?_
 refine PW.mv ?_
 refine PW.ns db.out ?_
 refine PW.gi kf.out fun il cn=>?_
 have g9:=mk1 ((fe.grow ct.out).grow cn)
 obtain ⟨oy,os,cv,dh,b2⟩:=ch_pre O ⟨#[116,97,117,50]⟩ dC sd sq sn sc il (k4 il g9.bl) hS.t2
 rw[hk.out] at b2
 clear kf ct cn db fe
 refine PW.mv ?_
 refine PW.ns cv.out ?_
 refine PW.gi b2.out fun j2 ee=>?_
 have j0:=mk1 ((g9.grow dh.out).grow ee)
 clear b2 dh ee cv g9
 refine hG (j2.heap.size) fun oc ew=>?_
 refine hG (j2.alloc (.cells (RG.z 4).toArray 44)) fun iu d0=>?_
 refine hG (iu.heap.size) fun mh dl=>?_
 refine hG (iu.alloc (.cells (RG.z 4).toArray 44)) fun nn cf=>?_
 refine hG (nn.setCells oc 0 (wn R.t1.val)) fun ng e0=>?_
 refine hG (ng.setCells mh 0 (wn R.t2.val)) fun lv f4=>?_
 have ff:=mk1 ((j0.new ew d0).new dl cf)
 have ib:=mk1 (ff.put 4 e0)
 have hs:=mk1 (ib.put 5 f4)
 refine PW.al ew d0 ?_
 refine PW.al dl cf ?_
 refine PW.st e0 hq (ff.th 4) i40 (wn_one _) ?_
 refine PW.st f4 hk (ib.th 5) i40 (wn_one _) ?_
 clear j0 ff ib
 refine PW.dn ?_
 have jq:=mk1 (lin_c O R.v hv R.n n sd sq sn sc lv (k4 lv hs.bl))
 refine wp_seq ?_
 refine PW.begin ?_
 refine PW.mv ?_
 refine PW.mv ?_
 refine PW.mv ?_
 refine PW.ca jq.out ?_
 rintro e lq ⟨c9,xl,yl,rfl,jt,jl⟩
 clear jq
 obtain ⟨oh,np,rfl,fq,gg⟩:=(jt.fin R.l R.s (fun i _=>bt_val M.1 R.v i) (fun i _=>(hS.s i).symm)).ex
 obtain ⟨nl,nq,rfl,gq,fr⟩:=(jl.fin R.m R.q (fun i _=>bm_val M.1 R.v i) (fun i _=>(hS.q i).symm)).ex
 clear jt jl
 have iw:=mk1 ((((hs.gets c9 (pqS oh R.n fun i=>(R.l i).val) fq).has (pqS np R.n fun i=>(R.s i).val) (gg.mono fun g hg=>hs.nk g hg)).has (pqS nl R.n fun i=>(R.m i).val) (gq.mono fun g hg=>hs.nk g hg)).has (pqS nq R.n fun i=>(R.q i).val) (fr.mono fun g hg=>hs.nk g hg))
 obtain ⟨km,b4,kw,T⟩:=(sl_one fq).2
 obtain ⟨kl,kn,kk,B⟩:=(sl_one gg).2
 obtain ⟨b3,k0,ky,e3⟩:=(sl_one gq).2
 obtain ⟨kh,k3,kg,e4⟩:=(sl_one fr).2
 subst T B e3 e4
 clear fq gg gq fr c9 hs
 simp only[Act.put,List.setIfInBounds_toArray,List.set_cons_succ,List.set_cons_zero]
 refine PW.mv ?_
 refine PW.va (.agg #[.slice (some ⟨km,b4,none⟩) R.n kw,.slice (some ⟨kl,kn,none⟩) R.n kk]) ?_
 refine PW.va (.agg #[.slice (some ⟨b3,k0,none⟩) R.n ky,.slice (some ⟨kh,k3,none⟩) R.n kg]) ?_
 refine hG (lq.heap.size) fun c6 f6=>?_
 refine hG (lq.alloc (.cells [.slice none 0 0,.slice none 0 0].toArray 145)) fun jx en=>?_
 refine hG (jx.heap.size) fun bs eu=>?_
 refine hG (jx.alloc (.cells [.slice none 0 0,.slice none 0 0].toArray 145)) fun mz es=>?_
 refine hG (mz.setCells c6 0 [.slice (some ⟨km,b4,none⟩) R.n kw,.slice (some ⟨kl,kn,none⟩) R.n kk]) fun ml f9=>?_
 refine hG (ml.setCells bs 0 [.slice (some ⟨b3,k0,none⟩) R.n ky,.slice (some ⟨kh,k3,none⟩) R.n kg]) fun n6 cj=>?_
 have fj:=mk1 ((iw.new f6 en).new eu es)
 have ge:=mk1 (fj.put 6 f9)
 have io:=mk1 (ge.put 7 cj)
 refine PW.al f6 en ?_
 refine PW.al eu es ?_
 refine PW.st f9 (Hid.mk' rfl) (fj.th 6) iLi kR ?_
 refine PW.st cj (Hid.mk' rfl) (ge.th 7) iLi kR ?_
 clear iw fj ge
 refine PW.dn ?_
 have HG:=mk1 (groundOf_c (P:=P) C R.n oM n6)
 refine wp_seq ?_
 refine PW.begin ?_
 refine PW.mv ?_
 refine PW.ca HG.out ?_
 rintro e m4 ⟨cp,hG⟩
 clear HG
 obtain ⟨q1,q2,q3,rfl,ih,ji,ik⟩:=hG.ex
 obtain ⟨ga,oa,ca,T⟩:∃ g o c,q1=.slice (some ⟨g,o,none⟩) R.n c:=by obtain ⟨g,o,c,h,-⟩:=ih;exact ⟨g,o,c,h⟩
 obtain ⟨gb,ob,cb,B⟩:∃ g o c,q2=.slice (some ⟨g,o,none⟩) R.n c:=by obtain ⟨g,o,c,h,-⟩:=ji;exact ⟨g,o,c,h⟩
 obtain ⟨gc,mc,cc,e3⟩:∃ g m c,q3=.slice (some ⟨g,0,none⟩) m c:=by obtain ⟨g,c,h,-⟩:=ik;exact ⟨g,_,c,h⟩
 subst T B e3
 have jg:=mk1 (io.gets cp (pqG _ R.n (gGT P) (hGT P) (uGT P)) hG)
 clear hG ih ji ik cp io
 simp only[Act.put,List.setIfInBounds_toArray,List.set_cons_succ,List.set_cons_zero]
 have ku:=mk1 (gen_c (P:=P) C m4)
 refine hG (wr (gG P)) fun Gb bf=>?_
 have ft:Gb.size=33:=by rw[← bf.out];exact wr_size _
 refine hG (pvl Gb) fun vG hl=>?_
 rw[bf.out,hl.out] at ku
 refine PW.gi ku.out fun l5 cg=>?_
 have ln:=mk1 (jg.grow cg)
 clear ku jg cg
 refine hG (l5.heap.size) fun n9 de=>?_
 refine hG (l5.alloc (.cells [.slice none 0 0,.slice none 0 0,.slice none 0 0].toArray 150)) fun j6 ep=>?_
 refine hG (j6.heap.size) fun nj cq=>?_
 refine hG (j6.alloc (.cells z33.toArray 51)) fun oe dw=>?_
 refine hG (oe.setCells n9 0 [.slice (some ⟨ga,oa,none⟩) R.n ca,.slice (some ⟨gb,ob,none⟩) R.n cb,.slice (some ⟨gc,0,none⟩) mc cc]) fun ms f3=>?_
 refine hG (ms.setCells nj 0 (bl33 Gb)) fun jb cy=>?_
 have gz:=mk1 ((ln.new de ep).new cq dw)
 have fp:=mk1 (gz.put 8 f3)
 have lG:(bl33 Gb).length=z33.length:=bl33_length ft
 have l6:=mk1 (fp.put 9 cy rfl lG)
 refine PW.al de ep ?_
 refine PW.al cq dw ?_
 refine PW.st f3 (Hid.mk' rfl) (gz.th 8) iGr kR ?_
 refine PW.st cy hl (fp.th 9 rfl lG) (by rw[bl33_length ft];exact iCP) (bl33_one _) ?_
 clear ln gz fp
 refine PW.dn ?_
 refine hG (jb.heap.size) fun l cx=>?_
 refine hG (jb.alloc (.cells rp0.l.toArray 153)) fun ot cz=>?_
 have gv:=mk1 (l6.new cx cz)
 clear l6
 refine wp_seq ?_
 refine PW.begin ?_
 refine PW.al cx cz ?_
 refine PW.dn ?_
 have fb:0<R.n:=by rw[hn];exact Nat.pow_pos dC
 have sA:A.size=33:=by rw[L.eA];exact wr_size _
 have sS:S.size=33:=by rw[L.eS];exact wr_size _
 have iG:(Tryz.prog.info? 51).map (·.size)=some (bl33 Gb).length:=by rw[bl33_length ft];exact iCP
 obtain ⟨la,lb,cT,cL,cP,cX⟩:=hp_c C O k M R.n fb n R.al R.l R.m Gb A bf.out L.eA
 have Z:=mk4 cT cL cP cX
 clear cT cL cP cX
 rw[ha.out,hl.out] at Z
 refine hG (pvl A) fun vA hvA=>?_
 rw[hvA.out] at Z
 refine wp_seq ?_
 refine AW.beg 12 12 (Iv.mp w _ _ true) gv.out.drew ?_
 refine AW.ro 0 (fun W h=>(h.at_ 9).2.1) hl uCP iG ?_
 refine AW.ro 1 (fun W h=>(h.at_ 2).2.1) ha u40 i40 ?_
 refine AW.ro 3 (cs:=[.slice (some ⟨ga,oa,none⟩) R.n ca,.slice (some ⟨gb,ob,none⟩) R.n cb,.slice (some ⟨gc,0,none⟩) mc cc]) (fun W h=>(h.at_ 8).2.1) (Hid.mk' rfl) uGr iGr ?_
 refine AW.va 4 (.pointer (some ⟨c6,0,none⟩)) ?_
 refine AW.ce 5 uSl (fun W h=>(h.at_ 6).2.1 0 _ rfl) ?_
 refine AW.va 6 (.pointer (some ⟨bs,0,none⟩)) ?_
 refine AW.ce 7 uSl (fun W h=>(h.at_ 7).2.1 0 _ rfl) ?_
 refine AW.ca 2 (fun _=>Z.1 _) (fun e w' h=>h.1) ?_
 rintro e om ⟨du,ea⟩
 simp only[Act.put,List.setIfInBounds_toArray,List.set_cons_succ,List.set_cons_zero]
 refine AW.ca 8 (fun h=>Z.2.1 _ _ _ _ _ (h.get 4) (h.get 0) (h.get 2)) (fun e w' h=>h.1) ?_
 rintro B pb ⟨ko,et⟩
 simp only[Act.put,List.setIfInBounds_toArray,List.set_cons_succ,List.set_cons_zero]
 refine AW.ca 9 (fun h=>Z.2.2.1 _ _ _ ((ea.q.keep (Kq.of_below ko)).sm) et.q.sm) (fun e w' h=>h.1) ?_
 rintro e3 oq ⟨er,cu⟩
 simp only[Act.put,List.setIfInBounds_toArray,List.set_cons_succ,List.set_cons_zero]
 refine AW.gi 10 (fun h=>Z.2.2.2 _ _ cu.q.sm) fun mo d7=>?_
 have ic:=mk1 ((((gv.drew.grow du).grow ko).grow er).grow d7)
 clear du ko er d7 ea et cu gv Z
 refine AW.nx 11 (.pointer (some ⟨l,0,none⟩)) ?_
 refine hG (mo.setCells l 0 (bl33 A)) fun ou kb=>?_
 have b7:=mk1 (Rp.seta rp0_ok (ic.at_ 10) sA)
 refine hG ({ rp0 with a:=A }:Rp) fun p1 gp=>?_
 rw[gp.out] at b7
 have fn:=mk1 (ic.upd 10 kb b7.2.1)
 refine AW.fi (us:=bl33 A) hvA (bl33_one A) (by rw[bl33_length sA];exact iCP) (fun _=>⟨b7.1,?_⟩)
 rw[kb.out]
 clear ic kb
 obtain ⟨la,lb,cT,cL,cP,cX⟩:=hp_c C O k M R.n fb n R.rho R.s R.q Gb S bf.out L.eS
 have Z:=mk4 cT cL cP cX
 clear cT cL cP cX
 rw[hy.out,hl.out] at Z
 refine hG (pvl S) fun vS ju=>?_
 rw[ju.out] at Z
 refine wp_seq ?_
 refine AW.beg 12 12 (Iv.mp w _ _ true) fn.out.drew ?_
 refine AW.ro 0 (fun W h=>(h.at_ 9).2.1) hl uCP iG ?_
 refine AW.ro 1 (fun W h=>(h.at_ 3).2.1) hy u40 i40 ?_
 refine AW.ro 3 (cs:=[.slice (some ⟨ga,oa,none⟩) R.n ca,.slice (some ⟨gb,ob,none⟩) R.n cb,.slice (some ⟨gc,0,none⟩) mc cc]) (fun W h=>(h.at_ 8).2.1) (Hid.mk' rfl) uGr iGr ?_
 refine AW.va 4 (.pointer (some ⟨c6,1,none⟩)) ?_
 refine AW.ce 5 uSl (fun W h=>(h.at_ 6).2.1 1 _ rfl) ?_
 refine AW.va 6 (.pointer (some ⟨bs,1,none⟩)) ?_
 refine AW.ce 7 uSl (fun W h=>(h.at_ 7).2.1 1 _ rfl) ?_
 refine AW.ca 2 (fun _=>Z.1 _) (fun e w' h=>h.1) ?_
 rintro e p9 ⟨dq,d9⟩
 simp only[Act.put,List.setIfInBounds_toArray,List.set_cons_succ,List.set_cons_zero]
 refine AW.ca 8 (fun h=>Z.2.1 _ _ _ _ _ (h.get 4) (h.get 1) (h.get 3)) (fun e w' h=>h.1) ?_
 rintro B ol ⟨ki,ci⟩
 simp only[Act.put,List.setIfInBounds_toArray,List.set_cons_succ,List.set_cons_zero]
 refine AW.ca 9 (fun h=>Z.2.2.1 _ _ _ ((d9.q.keep (Kq.of_below ki)).sm) ci.q.sm) (fun e w' h=>h.1) ?_
 rintro e3 ox ⟨eh,dz⟩
 simp only[Act.put,List.setIfInBounds_toArray,List.set_cons_succ,List.set_cons_zero]
 refine AW.gi 10 (fun h=>Z.2.2.2 _ _ dz.q.sm) fun nf dp=>?_
 have fg:=mk1 ((((fn.drew.grow dq).grow ki).grow eh).grow dp)
 clear dq ki eh dp d9 ci dz fn Z
 refine AW.nx 11 (.pointer (some ⟨l,33,none⟩)) ?_
 refine hG (nf.setCells l 33 (bl33 S)) fun k7 k2=>?_
 have hw:=mk1 (Rp.sets b7.2.2 (fg.at_ 10) sS)
 refine hG ({ p1 with s:=S }:Rp) fun p2 i6=>?_
 rw[i6.out] at hw
 have bi:=mk1 (fg.upd 10 k2 hw.2.1)
 refine AW.fi (us:=bl33 S) ju (bl33_one S) (by rw[bl33_length sS];exact iCP) (fun _=>⟨hw.1,?_⟩)
 rw[k2.out]
 clear fg k2
 refine hG (wentF (wentF L3)) fun L5 g8=>?_
 have s5:L5.size=32:=by rw[← g8.out];exact SP.askedL_size _ _
 have sV:V.size=33:=by rw[L.eV];exact wr_size _
 refine hG (Value.agg p2.l.toArray) fun vp l2=>?_
 refine hG (pvl V) fun vV j5=>?_
 refine hG (nv R.v) fun vn im=>?_
 refine hG (nv R.y.val) fun vy Y=>?_
 refine hG (nv R.z.val) fun vz h0=>?_
 have d6:Hid (∀ W,Calls Tryz.prog 79 #[vp,vV,.int .i64 (R.n:Int)] W (Ret fun e w'=>Below W.heap.size W w'∧∃ r,e=.tuple #[lgV r,vy,vz]∧W.heap.size≤r∧Holds encB w' r 0 L5)):=fun W=>by
  have h:=beg_c O p2 hw.2.2 V sV R.n oM W
  rw[show bgL V R.n p2.a p2.s=L3 by rw[← i6.out,← gp.out];exact L.l3.symm,val_ch O M L.y,val_ch O M L.z,g8.out,l2.out,j5.out,Y.out,h0.out] at h
  exact h
 have ef:Hid (∀ W,Calls Tryz.prog 14 #[vn,vr] W (Ret fun e w'=>Below W.heap.size W w'∧e=vV)):=fun W=>by
  have h:=cCommit_c C O (a:=R.v) (b:=R.k.val) oM R.k.isLt W
  have e:(ofF N R.v).val=R.v:=Nat.mod_eq_of_lt oM
  have B:=cmt_cm C k (ofF N R.v) R.k
  rw[e] at B
  rw[B,show wP ((ptMd C k).cm (hPV C) (gPG C) (ofF N R.v) R.k)=V from L.eV.symm,im.out,hr.out,j5.out] at h
  exact h
 have jw:Hid (∀ W,Calls Tryz.prog 15 #[.int .u64 (R.v:Int)] W (Ret fun e w'=>Below W.heap.size W w'∧e=vn)):=fun W=>by
  rw[← im.out]
  exact ofN_c R.v hv W
 refine hG (k7.heap.size) fun b hb=>?_
 have hz:∀ {W},Below k7.heap.size k7 W→b≤W.heap.size:=fun h=>hb.out ▸ h.size
 refine wp_seq ?_
 refine (RG.gwL [RG.pE vp,RG.pE (.int .u64 (R.v:Int)),RG.pE vn,RG.pE vr,RG.pE vV,RG.pE (.int .i64 (R.n:Int)),pBeg b vy vz L5,pBeg b vy vz L5,pLog1 b L5,RG.pE vy,RG.pE vz,RG.pN b [.pointer none],RG.pN b (RG.z 4),RG.pN b (RG.z 4)] (fun W=>Below k7.heap.size k7 W) (fun W W' hb h=>h.trans (hb.mono h.size))).late 14 [9,10] (fun j hj=>by
  rcases List.mem_cons.1 hj with rfl|hj
  ·exact RG.late1 15 7 75 fun v W ⟨r,e,_⟩=>⟨vy,rfl,fun o ho W'=>by
    cases ho
    rw[e]
    kernel_rfl⟩
  ·obtain rfl:=List.mem_singleton.1 hj
   exact RG.late1 16 7 75 fun v W ⟨r,e,_⟩=>⟨vz,rfl,fun o ho W'=>by
    cases ho
    rw[e]
    kernel_rfl⟩) (RG.als_of [11,12,13] ⟨RG.al1 [.pointer none] 159 pN_lt,RG.al1 (RG.z 4) 44 pN_lt,RG.al1 (RG.z 4) 44 pN_lt,trivial⟩) kR kR kR ⟨
  RG.gLo (cs:=p2.l) 17 (fun W f=>((bi.grow f).at_ 10).2.1) uRd (by rw[Rp.len hw.2.2];exact iRd) (hR:=fun _=>l2.out),
  RG.gO 0 (.int .u64 (R.v:Int)),
  RG.gw_c1 1 77 15 (fun x=>#[x]) (fun x W T f=>by
   obtain rfl:x=.int .u64 (R.v:Int):=T
   exact jw W),
  RG.gLo (cs:=wn R.k.val) 5 (fun W f=>((bi.grow f).at_ 0).2.1) u40 i40 (hR:=fun _=>hr.out),
  RG.gw_c2 2 78 3 79 14 (fun x y=>#[x,y]) (fun x u W T B f=>by
   obtain rfl:x=vn:=T
   obtain rfl:u=vr:=B
   exact ef W),
  RG.gO 2 (.int .i64 (R.n:Int)),
  RG.gw_c3 0 76 4 80 5 81 79 (fun x y z=>#[x,y,z]) (fun x u z W T B e3 f=>by
   obtain rfl:x=vp:=T
   obtain rfl:u=vV:=B
   obtain rfl:z=.int .i64 (R.n:Int):=e3
   refine (d6 W).mono ?_
   rintro e W' ⟨I,rfl,F,r,J,p,D⟩
   exact ⟨_,rfl,F,r,J,Nat.le_trans (hz f) p,Holds.lt D (by rw[s5];decide),D⟩),
  RG.gw_m 6 82 id (fun x W h=>h),
  RG.gw_val fun a W hp=>by
   obtain ⟨r,e,F,J,p⟩:=hp.n 7 75 kR kR
   exact ⟨[(75,.tuple #[lgV r,vy,vz])],lgV r,W,⟨e,trivial⟩,kR,Below.refl _ _,r,rfl,F,J,p⟩,
  RG.gw_val fun a W hp=>by
   obtain ⟨r,e,F,J,p⟩:=hp.n 7 75 kR kR
   exact ⟨[(75,.tuple #[lgV r,vy,vz])],vy,W,⟨e,trivial⟩,kR,Below.refl _ _,rfl⟩,
  RG.gw_val fun a W hp=>by
   obtain ⟨r,e,F,J,p⟩:=hp.n 7 75 kR kR
   exact ⟨[(75,.tuple #[lgV r,vy,vz])],vz,W,⟨e,trivial⟩,kR,Below.refl _ _,rfl⟩,
  RG.gw_a [.pointer none] 159 (fun W W' h f=>⟨_,rfl,hz f,h⟩),
  RG.gw_a (RG.z 4) 44 (fun W W' h f=>⟨_,rfl,hz f,h⟩),
  RG.gw_a (RG.z 4) 44 (fun W W' h f=>⟨_,rfl,hz f,h⟩),trivial⟩ ⟨rfl,rfl,rfl,Nat.le_refl _,fun _ _=>rfl⟩ ?_
 intro X n5 hR f hD
 obtain ⟨r,e8,lr,l4,Hr⟩:=hR 8 dC
 have e9:X 9=vy:=hR 9 dC
 have ly:X 10=vz:=hR 10 dC
 obtain ⟨kz,c8,gm,gk⟩:=hR 11 dC
 obtain ⟨ka,bz,i9,gu⟩:=hR 12 dC
 obtain ⟨kv,b6,fh,fs⟩:=hR 13 dC
 have d1:=hD 11 12 dC dC dC kR kR kR kR
 have d2:=hD 11 13 dC dC dC kR kR kR kR
 have d3:=hD 12 13 dC dC dC kR kR kR kR
 rw[c8,bz] at d1
 rw[c8,b6] at d2
 rw[bz,b6] at d3
 have n1:kz≠ka:=fun e=>d1 (by rw[e])
 have n2:kz≠kv:=fun e=>d2 (by rw[e])
 have n3:ka≠kv:=fun e=>d3 (by rw[e])
 have m1:r≠kz:=log_ne Hr (by rw[s5];decide) gk (fun b e=>by cases e)
 have m2:r≠ka:=log_ne Hr (by rw[s5];decide) gu (fun b e=>by cases e)
 have m3:r≠kv:=log_ne Hr (by rw[s5];decide) fs (fun b e=>by cases e)
 rw[← hb.out] at lr gm i9 fh
 have i4:=mk1 (bi.adds f [(kz,[.pointer none]),(ka,RG.z 4),(kv,RG.z 4),(r,bl33 L5)] (by simp;omega) (fun x hx=>by
  simp only[List.mem_cons,List.not_mem_nil,or_false] at hx
  rcases hx with rfl|rfl|rfl|rfl
  ·exact ⟨gm,gk⟩
  ·exact ⟨i9,gu⟩
  ·exact ⟨fh,fs⟩
  ·exact ⟨lr,row_cp Hr l4⟩))
 dsimp only[RG.putV,Nat.reduceAdd,List.take,List.drop]
 simp only[Act.put,List.setIfInBounds_toArray,List.set_cons_succ,List.set_cons_zero]
 rw[e8,e9,ly,c8,bz,b6]
 clear hR hD d1 d2 d3 n1 n2 n3 m1 m2 m3 gm i9 fh lr l4 Hr gk gu fs f e8 e9 ly c8 bz b6 bi d6 ef jw
 refine hG (n5.setCells kz 0 [.pointer (some ⟨r,0,none⟩)]) fun o4 d4=>?_
 refine hG (o4.setCells ka 0 (wn R.y.val)) fun o5 da=>?_
 refine hG (o5.setCells kv 0 (wn R.z.val)) fun mr co=>?_
 have ie:=mk1 (i4.put 11 d4)
 have i1:=mk1 (ie.put 12 da)
 have k6:=mk1 (i1.put 13 co)
 refine PW.st d4 (Hid.mk' rfl) (i4.th 11) iLg kR ?_
 refine PW.st da Y (ie.th 12) i40 (wn_one _) ?_
 refine PW.st co h0 (i1.th 13) i40 (wn_one _) ?_
 clear i4 ie i1 hz hb
 refine PW.dn ?_
 have J:2<N:=oM
 have gt:=mk1 (shift_c O J R.y.val R.z.val R.y.isLt R.z.isLt R.n oM mr)
 rw[Y.out,h0.out] at gt
 refine wp_seq ?_
 refine PW.begin ?_
 refine PW.ro (k6.at_ 12).2.1 Y u40 i40 ?_
 refine PW.ro (k6.at_ 13).2.1 h0 u40 i40 ?_
 refine PW.mv ?_
 refine PW.ca gt.out ?_
 rintro e ll ⟨dy,ls,rs,rfl,ba,br⟩
 clear gt
 replace ba:=ba.fin (fun _=>-R.z) (fun i _=>(ne_val R.z).symm)
 replace br:=br.fin R.sh (fun i _=>sh_val M J R i)
 have D:=mk1 ((k6.gets dy (pqS ls R.n fun _=>(-R.z).val) ba).has (pqS rs R.n fun i=>(R.sh i).val) (br.mono fun g hg=>k6.nk g hg))
 clear ba br dy k6
 simp only[Act.put,List.setIfInBounds_toArray,List.set_cons_succ,List.set_cons_zero]
 refine PW.mv ?_
 refine PW.va ls ?_
 refine PW.va rs ?_
 refine PW.va ls ?_
 refine PW.va rs ?_
 refine PW.dn ?_
 obtain ⟨Q,E⟩:=D.out.q
 refine wp_seq ?_
 refine (RG.gwL [RG.pE (.agg #[.slice (some ⟨km,b4,none⟩) R.n kw,.slice (some ⟨kl,kn,none⟩) R.n kk]),RG.pE ls,pLn Q R.n (fun i=>(R.a0 i).val) (fun i=>(R.s i).val),RG.pE (.agg #[.slice (some ⟨b3,k0,none⟩) R.n ky,.slice (some ⟨kh,k3,none⟩) R.n kg]),RG.pE vy,RG.pE (.int .i64 (R.n:Int)),RG.pS Q R.n (pwN N R.y.val),pLn Q R.n (fun i=>sTi N (R.m i).val (pwN N R.y.val i)) (fun i=>sTi N (R.q i).val (pwN N R.y.val i)),RG.pE rs,pLn Q R.n (fun i=>(R.b0 i).val) (fun i=>(R.b1 i).val)] (fun W=>Below ll.heap.size ll W) (fun W W' hb h=>h.trans (hb.mono h.size))).tail2 10 kR kR kR ⟨
  RG.gLo (cs:=[.slice (some ⟨km,b4,none⟩) R.n kw,.slice (some ⟨kl,kn,none⟩) R.n kk]) 13 (fun W f=>((D.grow f).at_ 6).2.1) uLi iLi,
  RG.gO 21 ls,
  RG.gw_c2 0 93 1 94 81 (fun x y=>#[x,y]) (fun x u W T B f=>by
   obtain rfl:x=.agg #[.slice (some ⟨km,b4,none⟩) R.n kw,.slice (some ⟨kl,kn,none⟩) R.n kk]:=T
   obtain rfl:u=ls:=B
   have K:=D.grow f
   refine (lpl_c O n (fun i _=>(R.l i).isLt) (fun i _=>(-R.z).isLt) (⟨_,_,rfl,K.getq E 0,K.getq E 1⟩:Ln Q W _ R.n _ _) (K.getq E 5)).mono ?_
   rintro e W' ⟨I,rfl,F,J⟩
   exact ⟨_,rfl,F,(J.mono fun g hg=>hg.elim id (K.nkq E g)).fin R.a0 R.s (fun i _=>(pl_val (R.l i) (-R.z)).symm) (fun _ _=>rfl)⟩),
  RG.gLo (cs:=[.slice (some ⟨b3,k0,none⟩) R.n ky,.slice (some ⟨kh,k3,none⟩) R.n kg]) 14 (fun W f=>((D.grow f).at_ 7).2.1) uLi iLi,
  RG.gLo (cs:=wn R.y.val) 19 (fun W f=>((D.grow f).at_ 12).2.1) u40 i40 (hR:=fun _=>Y.out),
  RG.gO 2 (.int .i64 (R.n:Int)),
  RG.gw_c2 4 97 5 98 83 (fun x y=>#[x,y]) (fun x u W T B f=>by
   obtain rfl:x=vy:=T
   obtain rfl:u=.int .i64 (R.n:Int):=B
   rw[← Y.out]
   exact (pow_c O R.y.val R.y.isLt R.n oM W).mono fun e W' ⟨v,F,J,p⟩=>⟨v,F,J,p.mono fun g hg=>(D.grow f).nkq E g hg⟩),
  RG.gw_c2 3 96 6 99 82 (fun x y=>#[x,y]) (fun x u W T B f=>by
   obtain rfl:x=.agg #[.slice (some ⟨b3,k0,none⟩) R.n ky,.slice (some ⟨kh,k3,none⟩) R.n kg]:=T
   have K:=D.grow f
   refine (lti_c O n (fun i _=>(R.m i).isLt) (fun i _=>(R.q i).isLt) (fun i _=>pwN_lt O _ i) (⟨_,_,rfl,K.getq E 2,K.getq E 3⟩:Ln Q W _ R.n _ _) B).mono ?_
   rintro e W' ⟨I,rfl,F,J⟩
   exact ⟨_,rfl,F,J.mono fun g hg=>K.nkq E g hg⟩),
  RG.gO 22 rs,
  RG.gw_c2 7 100 8 101 81 (fun x y=>#[x,y]) (fun x u W T B f=>by
   obtain rfl:u=rs:=B
   have K:=D.grow f
   refine (lpl_c O n (fun i _=>Nat.mod_lt _ O.pos) (fun i _=>(R.sh i).isLt) T (K.getq E 6)).mono ?_
   rintro e W' ⟨I,rfl,F,J⟩
   refine ⟨_,rfl,F,(J.mono fun g hg=>hg.elim id (K.nkq E g)).fin R.b0 R.b1 (fun i _=>?_) (fun i _=>?_)⟩
   ·show _=(R.m i*pwF R.y i+R.sh i).val
    rw[pl_val,ti_val,← pw_val M.1]
    rfl
   ·show _=(R.q i*pwF R.y i).val
    rw[ti_val,← pw_val M.1]),trivial⟩ ⟨rfl,rfl,rfl,Nat.le_refl _,fun _ _=>rfl⟩ ?_
 intro X nz hR f
 obtain ⟨o3,nu,B,G,H⟩:=(hR 2 dC).ex
 obtain ⟨mq,o0,e9,i8,i0⟩:=(hR 9 dC).ex
 have gw:=mk1 (((((D.grow f).hasq E (pqS o3 R.n fun i=>(R.a0 i).val) G).hasq E (pqS nu R.n fun i=>(R.s i).val) H).hasq E (pqS mq R.n fun i=>(R.b0 i).val) i8).hasq E (pqS o0 R.n fun i=>(R.b1 i).val) i0)
 obtain ⟨bo,c5,bh,e3⟩:=(sl_one G).2
 obtain ⟨bm,c7,bq,e4⟩:=(sl_one H).2
 obtain ⟨bl,bc,bd,e5⟩:=(sl_one i8).2
 obtain ⟨bt,bn,b8,e6⟩:=(sl_one i0).2
 subst e3 e4 e5 e6
 dsimp only[RG.putV,Nat.reduceAdd,List.take,List.drop]
 simp only[Act.put,List.setIfInBounds_toArray,List.set_cons_succ,List.set_cons_zero]
 rw[B,e9]
 clear hR f G H i8 i0 B e9 D E
 refine hG (nz.setCells c6 0 [.slice (some ⟨bo,c5,none⟩) R.n bh,.slice (some ⟨bm,c7,none⟩) R.n bq]) fun ny f5=>?_
 refine hG (ny.setCells bs 0 [.slice (some ⟨bl,bc,none⟩) R.n bd,.slice (some ⟨bt,bn,none⟩) R.n b8]) fun ke ey=>?_
 have fz:=mk1 (gw.put 6 f5)
 have K:=mk1 (fz.put 7 ey)
 refine PW.st f5 (Hid.mk' rfl) (gw.th 6) iLi kR ?_
 refine PW.st ey (Hid.mk' rfl) (fz.th 7) iLi kR ?_
 clear gw fz
 refine PW.dn ?_
 refine hG (nv R.c1.val) fun fm h6=>?_
 refine hG (nv R.c2.val) fun g2 h8=>?_
 have jk:Hid (Calls Tryz.prog 84 #[.agg #[.slice (some ⟨bo,c5,none⟩) R.n bh,.slice (some ⟨bm,c7,none⟩) R.n bq],.agg #[.slice (some ⟨bl,bc,none⟩) R.n bd,.slice (some ⟨bt,bn,none⟩) R.n b8]] ke (Ret fun e w'=>Below ke.heap.size ke w'∧e=.tuple #[fm,g2])):=by
  have h:=lpr_c O n (fun i _=>⟨(R.a0 i).isLt,(R.s i).isLt,(R.b0 i).isLt,(R.b1 i).isLt⟩) (⟨_,_,rfl,K.get 7,K.get 8⟩:Ln _ ke _ R.n _ _) (⟨_,_,rfl,K.get 9,K.get 10⟩:Ln _ ke _ R.n _ _)
  rw[prS_val,prS_val,prS_val,← pl_val,show Md.pr R.a0 R.b1 R.n+Md.pr R.s R.b0 R.n=R.c1 from rfl,show Md.pr R.s R.b1 R.n=R.c2 from rfl,h6.out,h8.out] at h
  exact h
 refine wp_seq ?_
 refine PW.begin ?_
 refine PW.ro (cs:=[.slice (some ⟨bo,c5,none⟩) R.n bh,.slice (some ⟨bm,c7,none⟩) R.n bq]) (K.at_ 6).2.1 (Hid.mk' rfl) uLi iLi ?_
 refine PW.ro (cs:=[.slice (some ⟨bl,bc,none⟩) R.n bd,.slice (some ⟨bt,bn,none⟩) R.n b8]) (K.at_ 7).2.1 (Hid.mk' rfl) uLi iLi ?_
 refine PW.gi jk.out fun ig d8=>?_
 have ij:=mk1 (K.grow d8)
 clear jk d8 K
 refine PW.mv ?_
 refine PW.va fm ?_
 refine PW.va g2 ?_
 refine hG (ig.heap.size) fun o7 f8=>?_
 refine hG (ig.alloc (.cells (RG.z 4).toArray 44)) fun lw ec=>?_
 refine hG (lw.heap.size) fun m6 ds=>?_
 refine hG (lw.alloc (.cells (RG.z 4).toArray 44)) fun mb dk=>?_
 refine hG (mb.setCells o7 0 (wn R.c1.val)) fun my cd=>?_
 refine hG (my.setCells m6 0 (wn R.c2.val)) fun oj ej=>?_
 have gr:=mk1 ((ij.new f8 ec).new ds dk)
 have i5:=mk1 (gr.put 15 cd)
 have fa:=mk1 (i5.put 16 ej)
 refine PW.al f8 ec ?_
 refine PW.al ds dk ?_
 refine PW.st cd h6 (gr.th 15) i40 (wn_one _) ?_
 refine PW.st ej h8 (i5.th 16) i40 (wn_one _) ?_
 clear ij gr i5
 refine PW.dn ?_
 have sC:C1.size=33:=by rw[L.e1];exact wr_size _
 have sD:C2.size=33:=by rw[L.e2];exact wr_size _
 refine hG (pvl C1) fun vC ja=>?_
 refine hG (pvl C2) fun vD je=>?_
 have ir:Hid (∀ W,Calls Tryz.prog 14 #[fm,v1] W (Ret fun e w'=>Below W.heap.size W w'∧e=vC)):=fun W=>by
  have h:=cCommit_c C O R.c1.isLt R.t1.isLt W
  rw[cmt_cm C k R.c1 R.t1,show wP ((ptMd C k).cm (hPV C) (gPG C) R.c1 R.t1)=C1 from L.e1.symm,h6.out,hq.out,ja.out] at h
  exact h
 have j8:Hid (∀ W,Calls Tryz.prog 14 #[g2,v2] W (Ret fun e w'=>Below W.heap.size W w'∧e=vD)):=fun W=>by
  have h:=cCommit_c C O R.c2.isLt R.t2.isLt W
  rw[cmt_cm C k R.c2 R.t2,show wP ((ptMd C k).cm (hPV C) (gPG C) R.c2 R.t2)=C2 from L.e2.symm,h8.out,hk.out,je.out] at h
  exact h
 refine wp_seq ?_
 refine AW.beg 9 9 (Iv.mx w _ _ 10 l false) (fa.out.drew.wk 10) ?_
 refine AW.ro 0 (fun W ⟨_,h⟩=>(h.at_ 15).2.1) h6 u40 i40 ?_
 refine AW.ro 1 (fun W ⟨_,h⟩=>(h.at_ 4).2.1) hq u40 i40 ?_
 refine AW.ro 3 (fun W ⟨_,h⟩=>(h.at_ 16).2.1) h8 u40 i40 ?_
 refine AW.ro 4 (fun W ⟨_,h⟩=>(h.at_ 5).2.1) hk u40 i40 ?_
 refine AW.gi 2 (fun _=>ir _) fun ow dd=>?_
 refine AW.va 6 (.pointer (some ⟨l,66,none⟩)) ?_
 refine AW.gi 5 (fun _=>j8 _) fun nh eb=>?_
 have i7:=mk1 ((fa.drew.grow dd).grow eb)
 clear dd eb fa ir j8
 refine hG (nh.setCells l 66 (bl33 C1)) fun n7 d5=>?_
 refine hG (n7.setCells l 99 (bl33 C2)) fun fk dx=>?_
 have k1:=mk1 (Rp.setc hw.2.2 (i7.at_ 10) sC)
 refine hG ({ p2 with c:=C1 }:Rp) fun p3 fl=>?_
 rw[fl.out] at k1
 have bj:=mk1 (i7.upd 10 d5 k1.2.1)
 have h5:=mk1 (Rp.setd k1.2.2 (bj.at_ 10) sD)
 refine hG ({ p3 with d:=C2 }:Rp) fun p4 g0=>?_
 rw[g0.out] at h5
 have hm:=mk1 (bj.upd 10 dx h5.2.1)
 refine AW.ss 7 ja (bl33_one C1) (by rw[bl33_length sC];exact iCP) d5 (fun _=>⟨k1.1,bj.out.wk 10⟩) ?_
 refine AW.nx 8 (.pointer (some ⟨l,99,none⟩)) ?_
 refine AW.ss 9 je (bl33_one C2) (by rw[bl33_length sD];exact iCP) dx (fun _=>⟨h5.1,hm.out.wk 10⟩) ?_
 refine AW.dn fun _=>?_
 clear i7 bj k1
 refine hG (wentF L6) fun L7 g6=>?_
 have s7:L7.size=32:=by rw[← g6.out];exact SP.askedL_size _ _
 refine hG (nv R.x.val) fun vx p=>?_
 refine hG (Value.agg p4.l.toArray) fun vq ii=>?_
 refine hG (lgV r) fun vl h9=>?_
 have jh:Hid (Calls Tryz.prog 85 #[vq,vl] fk (Ret fun e w'=>SP.Only r 0 32 fk w'∧Holds encB w' r 0 L7∧e=vx)):=by
  have h:=mid_c O p4 h5.2.2 r L5 fk (hm.log 14) s5
  rw[← g8.out,show mdL (wentF (wentF L3)) p4.c p4.d=L6 by rw[← g0.out,← fl.out];exact L.l6.symm,val_ch O M L.x,g6.out,ii.out,h9.out,p.out] at h
  exact h
 refine wp_seq ?_
 refine PW.begin ?_
 refine PW.ro (cs:=p4.l) (hm.at_ 10).2.1 ii uRd (by rw[Rp.len h5.2.2];exact iRd) ?_
 refine PW.ro (hm.at_ 11).2.1 h9 uLg iLg ?_
 refine PW.ca jh.out ?_
 rintro e iy ⟨hO,hH,he⟩
 obtain rfl:=he.symm
 have li:=mk1 (hm.say 14 hO hH)
 clear jh hO hH hm
 simp only[Act.put,List.setIfInBounds_toArray,List.set_cons_succ,List.set_cons_zero]
 refine hG (iy.heap.size) fun m9 ek=>?_
 refine hG (iy.alloc (.cells (RG.z 4).toArray 44)) fun n4 df=>?_
 refine hG (n4.setCells m9 0 (wn R.x.val)) fun oz eo=>?_
 have gn:=mk1 (li.new ek df)
 have g1:=mk1 (gn.put 17 eo)
 refine PW.al ek df ?_
 refine PW.st eo p (gn.th 17) i40 (wn_one _) ?_
 clear li gn
 refine PW.dn ?_
 have fx:Hid (∀ (a b c:Nat→Fin N) (v:Value) (Q:Nat→Prop) (W:World),(∀ i,c i=a i+b i*R.x)→Ln Q W v R.n (fun i=>(a i).val) (fun i=>(b i).val)→Calls Tryz.prog 86 #[v,vx] W (Ret fun e w'=>Below W.heap.size W w'∧SLq (W.heap.size≤·) w' e R.n (fun i=>(c i).val))):=fun a b c v Q W hc h=>by
  have h:=lat_c O n (fun i _=>(a i).isLt) (fun i _=>(b i).isLt) R.x.isLt h
  rw[p.out] at h
  refine h.mono ?_
  rintro e w' ⟨I,rfl,F,J⟩
  exact ⟨_,rfl,F,J.fin c fun i _=>by rw[hc,pl_val,ti_val]⟩
 refine wp_seq ?_
 refine AW.beg 7 7 (Iv.mp w _ _ false) g1.out.drew ?_
 refine AW.ro 0 (cs:=[.slice (some ⟨bo,c5,none⟩) R.n bh,.slice (some ⟨bm,c7,none⟩) R.n bq]) (fun W h=>(h.at_ 6).2.1) (Hid.mk' rfl) uLi iLi ?_
 refine AW.ro 1 (fun W h=>(h.at_ 17).2.1) p u40 i40 ?_
 refine AW.ro 3 (cs:=[.slice (some ⟨bl,bc,none⟩) R.n bd,.slice (some ⟨bt,bn,none⟩) R.n b8]) (fun W h=>(h.at_ 7).2.1) (Hid.mk' rfl) uLi iLi ?_
 refine AW.ro 4 (fun W h=>(h.at_ 17).2.1) p u40 i40 ?_
 refine AW.ca 2 (fun h=>fx R.a0 R.s R.a _ _ _ (fun _=>rfl) (⟨_,_,rfl,h.get 7,h.get 8⟩:Ln _ _ _ R.n _ _)) (fun e w' h=>h.1) ?_
 rintro av ov ⟨eg,jf⟩
 simp only[Act.put,List.setIfInBounds_toArray,List.set_cons_succ,List.set_cons_zero]
 refine AW.ca 5 (fun h=>fx R.b0 R.b1 R.b _ _ _ (fun _=>rfl) (⟨_,_,rfl,h.get 9,h.get 10⟩:Ln _ _ _ R.n _ _)) (fun e w' h=>h.1) ?_
 rintro bv bb ⟨ei,l0⟩
 simp only[Act.put,List.setIfInBounds_toArray,List.set_cons_succ,List.set_cons_zero]
 have l9:=mk1 (g1.drew.gets eg (pqS av R.n fun i=>(R.a i).val) jf)
 have bg:=mk1 (l9.gets ei (pqS bv R.n fun i=>(R.b i).val) l0)
 clear fx eg ei jf l0 g1 l9
 refine AW.nx 6 av ?_
 refine AW.nx 7 bv ?_
 refine AW.dn fun _=>?_
 refine hG (nv R.t.val) fun vt lu=>?_
 have jv:Hid (Calls Tryz.prog 87 #[av,bv] bb (Ret fun e w'=>Below bb.heap.size bb w'∧e=vt)):=by
  have h:=cmbS_c O R.n oM (fun i=>(R.a i).val) (fun i=>(R.b i).val) (fun i _=>(R.a i).isLt) (fun i _=>(R.b i).isLt) av bv bb (bg.get 11) (bg.get 12)
  rw[prS_val,show Md.pr R.a R.b R.n=R.t from rfl,lu.out] at h
  exact h
 refine wp_seq ?_
 refine PW.begin ?_
 refine PW.mv ?_
 refine PW.mv ?_
 refine PW.gi jv.out fun mw e7=>?_
 have g7:=mk1 (bg.grow e7)
 clear jv e7 bg
 refine PW.va (.pointer (some ⟨l,140,none⟩)) ?_
 refine hG (mw.setCells l 140 (wn R.t.val)) fun pc f7=>?_
 have b5:=mk1 (Rp.sett h5.2.2 (g7.at_ 10) R.t.val)
 refine hG ({ p4 with t:=R.t.val }:Rp) fun p5 js=>?_
 rw[js.out] at b5
 have fu:=mk1 (g7.upd 10 f7 b5.2.1)
 refine PW.st f7 lu b5.1 i40 (wn_one _) ?_
 clear g7 h5
 refine PW.dn ?_
 refine hG (nv (R.t1*R.x).val) fun u1 nb=>?_
 refine hG (nv (R.t2*R.x).val) fun u2 m5=>?_
 refine hG (nv (R.t2*R.x*R.x).val) fun u3 o6=>?_
 refine hG (nv (R.t1*R.x+R.t2*R.x*R.x).val) fun u4 mg=>?_
 refine hG (nv (R.z*R.z).val) fun u5 ni=>?_
 refine hG (nv (R.z*R.z*R.k).val) fun u6 nm=>?_
 refine hG (nv R.tau.val) fun u7 jd=>?_
 have HT:=mk7 (fun W=>ftim O R.t1 R.x W) (fun W=>ftim O R.t2 R.x W) (fun W=>ftim O (R.t2*R.x) R.x W) (fun W=>fplu O (R.t1*R.x) (R.t2*R.x*R.x) W) (fun W=>ftim O R.z R.z W) (fun W=>ftim O (R.z*R.z) R.k W) (fun W=>fplu O (R.t1*R.x+R.t2*R.x*R.x) (R.z*R.z*R.k) W)
 rw[show R.t1*R.x+R.t2*R.x*R.x+R.z*R.z*R.k=R.tau from rfl,nb.out,m5.out,o6.out,mg.out,ni.out,nm.out,jd.out,hq.out,hk.out,p.out,h0.out,hr.out] at HT
 refine wp_seq ?_
 refine AW.beg 16 16 (Iv.mp w _ _ true) fu.out.drew ?_
 refine AW.ro 0 (fun W h=>(h.at_ 4).2.1) hq u40 i40 ?_
 refine AW.ro 1 (fun W h=>(h.at_ 17).2.1) p u40 i40 ?_
 refine AW.ro 3 (fun W h=>(h.at_ 5).2.1) hk u40 i40 ?_
 refine AW.ro 4 (fun W h=>(h.at_ 17).2.1) p u40 i40 ?_
 refine AW.ro 6 (fun W h=>(h.at_ 17).2.1) p u40 i40 ?_
 refine AW.ro 9 (fun W h=>(h.at_ 13).2.1) h0 u40 i40 ?_
 refine AW.ro 10 (fun W h=>(h.at_ 13).2.1) h0 u40 i40 ?_
 refine AW.ro 12 (fun W h=>(h.at_ 0).2.1) hr u40 i40 ?_
 refine AW.gi 2 (fun _=>HT.1 _) fun x1 G=>?_
 refine AW.gi 5 (fun _=>HT.2.1 _) fun x2 H=>?_
 refine AW.gi 7 (fun _=>HT.2.2.1 _) fun x3 iq=>?_
 refine AW.gi 8 (fun _=>HT.2.2.2.1 _) fun x4 j7=>?_
 refine AW.gi 11 (fun _=>HT.2.2.2.2.1 _) fun x5 jo=>?_
 refine AW.gi 13 (fun _=>HT.2.2.2.2.2.1 _) fun x6 jz=>?_
 refine AW.gi 14 (fun _=>HT.2.2.2.2.2.2 _) fun ma ip=>?_
 have gs:=mk1 (((((((fu.drew.grow G).grow H).grow iq).grow j7).grow jo).grow jz).grow ip)
 clear G H iq j7 jo jz ip fu HT
 refine AW.nx 15 (.pointer (some ⟨l,132,none⟩)) ?_
 refine hG (ma.setCells l 132 (wn R.tau.val)) fun oo kc=>?_
 have kj:=mk1 (Rp.setu b5.2.2 (gs.at_ 10) R.tau.val)
 refine hG ({ p5 with u:=R.tau.val }:Rp) fun p6 lm=>?_
 rw[lm.out] at kj
 have g4:=mk1 (gs.upd 10 kc kj.2.1)
 refine AW.fi (us:=wn R.tau.val) jd (wn_one _) i40 (fun _=>⟨kj.1,?_⟩)
 rw[kc.out]
 clear gs b5 kc
 refine hG (nv (R.rho*R.x).val) fun u8 o2=>?_
 refine hG (nv R.mu.val) fun u9 j3=>?_
 have HT:=mk2 (fun W=>ftim O R.rho R.x W) (fun W=>fplu O R.al (R.rho*R.x) W)
 rw[show R.al+R.rho*R.x=R.mu from rfl,o2.out,j3.out,ha.out,hy.out,p.out] at HT
 refine wp_seq ?_
 refine AW.beg 6 6 (Iv.mp w _ _ true) g4.out.drew ?_
 refine AW.ro 0 (fun W h=>(h.at_ 2).2.1) ha u40 i40 ?_
 refine AW.ro 1 (fun W h=>(h.at_ 3).2.1) hy u40 i40 ?_
 refine AW.ro 2 (fun W h=>(h.at_ 17).2.1) p u40 i40 ?_
 refine AW.gi 3 (fun _=>HT.1 _) fun x1 G=>?_
 refine AW.gi 4 (fun _=>HT.2 _) fun mf H=>?_
 have gh:=mk1 ((g4.drew.grow G).grow H)
 clear G H g4 HT
 refine AW.nx 5 (.pointer (some ⟨l,136,none⟩)) ?_
 refine hG (mf.setCells l 136 (wn R.mu.val)) fun gj kr=>?_
 have kx:=mk1 (Rp.setm kj.2.2 (gh.at_ 10) R.mu.val)
 have ez:Hid (({ p6 with m:=R.mu.val }:Rp)=pz):=by
  rw[← U.out,← lm.out,← js.out,← g0.out,← fl.out,← i6.out,← gp.out]
  rfl
 rw[ez.out] at kx
 have kt:=mk1 (gh.upd 10 kr kx.2.1)
 have c3:pz.Ok:=kx.2.2
 refine AW.fi (us:=wn R.mu.val) j3 (wn_one _) i40 (fun _=>⟨kx.1,?_⟩)
 rw[kr.out]
 clear gh kj kx kr
 refine hG (Value.agg pz.l.toArray) fun o9 h7=>?_
 refine hG (wentF L8) fun L9 c4=>?_
 have s9:L9.size=32:=by rw[← c4.out];exact SP.askedL_size _ _
 refine hG (nv R.w.val) fun vw c0=>?_
 have jy:Hid (Calls Tryz.prog 88 #[o9,vl] gj (Ret fun e w'=>SP.Only r 0 32 gj w'∧Holds encB w' r 0 L9∧e=vw)):=by
  have h:=end_c O pz c3 (by rw[← U.out];exact R.tau.isLt) (by rw[← U.out];exact R.mu.isLt) (by rw[← U.out];exact R.t.isLt) r L7 gj (kt.log 14) s7
  rw[← g6.out,show enL (wentF L6) pz.u pz.m pz.t=L8 by rw[← U.out];exact L.l8.symm,val_ch O M L.w,c4.out,h7.out,h9.out,c0.out] at h
  exact h
 refine wp_seq ?_
 refine PW.begin ?_
 refine PW.ro (cs:=pz.l) (kt.at_ 10).2.1 h7 uRd (by rw[Rp.len c3];exact iRd) ?_
 refine PW.ro (kt.at_ 11).2.1 h9 uLg iLg ?_
 refine PW.ca jy.out ?_
 rintro e l3 ⟨hO,hH,he⟩
 obtain rfl:=he.symm
 have jn:=mk1 (kt.say 14 hO hH)
 clear jy hO hH he kt
 simp only[Act.put,List.setIfInBounds_toArray,List.set_cons_succ,List.set_cons_zero]
 refine hG (l3.heap.size) fun mm dm=>?_
 refine hG (l3.alloc (.cells (RG.z 4).toArray 44)) fun na f1=>?_
 refine hG (na.setCells mm 0 (wn R.w.val)) fun o8 ed=>?_
 have i3:=mk1 (jn.new dm f1)
 have mt:=mk1 (i3.put 18 ed)
 refine PW.al dm f1 ?_
 refine PW.st ed c0 (i3.th 18) i40 (wn_one _) ?_
 clear jn i3
 refine PW.dn ?_
 have Kd:=mk1 mt.out.drew
 have fy:=mk1 (turn_c O R.n fb n (gGT P) (hGT P) (uGT P) (fun i hi=>⟨((gd_right C M.1 R.n).tl i hi).ok,by show 1≤512;decide⟩) (tl_inner C M.1).ok (by show 1≤512;decide) R.y.val R.w.val R.y.isLt R.w.isLt _ o8.drew Kd.nk (Kd.get 4))
 rw[Y.out,c0.out] at fy
 refine wp_seq ?_
 refine AW.beg 10 10 (Iv.mx w _ _ 14 r true) (Kd.out.wk 14) ?_
 refine AW.ro 0 (cs:=pz.l) (fun W ⟨_,h⟩=>(h.at_ 10).2.1) h7 uRd (by rw[Rp.len c3];exact iRd) ?_
 refine AW.ro 1 (fun W ⟨_,h⟩=>(h.at_ 11).2.1) h9 uLg iLg ?_
 refine AW.ro 2 (cs:=[.slice (some ⟨ga,oa,none⟩) R.n ca,.slice (some ⟨gb,ob,none⟩) R.n cb,.slice (some ⟨gc,0,none⟩) mc cc]) (fun W ⟨_,h⟩=>(h.at_ 8).2.1) (Hid.mk' rfl) uGr iGr ?_
 refine AW.ro 3 (fun W ⟨_,h⟩=>(h.at_ 12).2.1) Y u40 i40 ?_
 refine AW.ro 4 (fun W ⟨_,h⟩=>(h.at_ 18).2.1) c0 u40 i40 ?_
 refine AW.mv 6 ?_
 refine AW.mv 7 ?_
 refine AW.ca 5 (fun _=>fy.out) (fun e w' h=>h.1) ?_
 rintro tv b9 ⟨ck,kd⟩
 simp only[Act.put,List.setIfInBounds_toArray,List.set_cons_succ,List.set_cons_zero]
 have I:=mk1 (Kd.grow ck)
 refine hG ((((ptMd C k).pst (chF N) ivF u t q t).s)) fun Lx mn=>?_
 have m0:Hid (Calls Tryz.prog 90 #[vl,tv,av,bv] b9 (Ret (PhR b9 r t Lb Rb Lx Ab Bb))):=by
  obtain ⟨Q,E⟩:=I.out.q
  have F:∀ g,Q g→g≠r:=I.ne E 14
  rw[E.out] at kd
  have h:=provH_c C O k M t ht q u (gGT P) (trnT N R.y.val (hGT P)) ((uGT P).map (tmT N R.w.val)) (by rw[nc];exact gd_left C M.1 _) (by rw[md];exact gd_turn C k M R _) (by rw[hu];exact (tl_inner C M.1).tm C k R.w) (by show 0<1;decide) (by show 1≤16;decide) Lb Rb m7 me r tv av bv b9 (by rw[lg,c4.out];exact I.log 14) (by rw[lg,c4.out];exact s9) (by rw[← hn];exact kd.mono F) (by rw[← hn,n0];exact SLq.mono (I.getq E 11) F) (by rw[← hn,o1];exact SLq.mono (I.getq E 12) F)
  rw[mn.out,← mj,← n8,h9.out] at h
  exact h
 clear fy ck kd Kd
 refine AW.cw 8 (fun _=>m0.out) (fun e w' _ h=>⟨_,I.say 14 h.on h.lg rfl rfl⟩) ?_
 rintro e og be
 obtain ⟨vL,vR,vA,vB,rfl,tL,tR,eA,eB⟩:=be.ex
 have jm:=mk1 (I.say 14 be.on be.lg)
 have l8:=(I.at_ 1).1
 clear m0 be
 simp only[Act.put,List.setIfInBounds_toArray,List.set_cons_succ,List.set_cons_zero]
 have fd:=mk1 (told_c O pz c3 (by rw[← U.out];exact R.tau.isLt) (by rw[← U.out];exact R.mu.isLt) (by rw[← U.out];exact R.t.isLt) vL vR vA vB ⟨tL.one.2,tR.one.2,eA.one.2,eB.one.2⟩ og)
 rw[h7.out] at fd
 refine AW.ca 9 (fun _=>fd.out) (fun e w' h=>h.1) ?_
 rintro e lc ⟨F,ra,rb,rc,bk,re,rf,bp,rfl,hT⟩
 simp only[Act.put,List.setIfInBounds_toArray,List.set_cons_succ,List.set_cons_zero]
 have gy:=mk1 (jm.grow F)
 have bu:vA.oneCell'=true∧vB.oneCell'=true∧vL.oneCell'=true∧vR.oneCell'=true:=⟨eA.one.2,eB.one.2,tL.one.2,tR.one.2⟩
 have RA:Hid (RgA b9.heap.size t pz Lb Rb Ab Bb (.agg #[r33 ra,r33 rb,r33 rc,r33 bk,r32 re,r32 rf,r32 bp,vL,vR,vA,vB]) lc):=⟨_,_,_,_,_,_,_,_,_,_,_,rfl,hT.mono2 fun _ _ _=>trivial,tL.below F,tR.below F,(eA.keep (Kq.of_below F)).mono2 fun _ _ _=>trivial,(eB.keep (Kq.of_below F)).mono2 fun _ _ _=>trivial⟩
 clear hT tL tR eA eB F fd jm
 refine hG (lc.setCells k8 0 [r33 ra,r33 rb,r33 rc,r33 bk,r32 re,r32 rf,r32 bp,vL,vR,vA,vB]) fun oi kp=>?_
 have lh:=mk1 (gy.put 1 kp)
 have RB:=mk1 (RA.set (us:=[r33 ra,r33 rb,r33 rc,r33 bk,r32 re,r32 rf,r32 bp,vL,vR,vA,vB]) (gy.at_ 1) l8)
 rw[kp.out] at RB
 refine AW.fi (us:=[r33 ra,r33 rb,r33 rc,r33 bk,r32 re,r32 rf,r32 bp,vL,vR,vA,vB]) (Hid.mk' rfl) (by simp only[List.all_toArray,List.all_cons,List.all_nil,bu.1,bu.2.1,bu.2.2.1,bu.2.2.2,show ∀ g,(r33 g).oneCell'=true from fun _=>rfl,show ∀ g,(r32 g).oneCell'=true from fun _=>rfl,Bool.and_true]) iAr (fun _=>⟨gy.th 1,?_⟩)
 rw[kp.out]
 have KE:=mk2 lh.bl (And.intro I.bl.size RB.out)
 have K8:=lh.at_ 1
 refine wp_ret ?_
 refine bodyPost_ret (results_cell 8 66 rfl K8 rfl uAr iAr) rfl ?_
 exact ⟨_,rfl,KE.1,_,KE.2.1,KE.2.2⟩
end
section
open Go.RowKit Go.Sort Go.Deep SPA
variable {P:Nat} [NeZero P] {N:Nat} [NeZero N]
def Wd (n t:Nat):Prop:=n=2^t∧3≤t∧t≤6
theorem Wd.hv {n t:Nat} (h:Wd n t) (W:World):Calls Tryz.prog 73 #[.int .i64 n] W (Ret fun e w'=>Below W.heap.size W w'∧e=.tuple #[.int .i64 t,.bool true]):=by
 obtain ⟨rfl,-,k⟩:=h
 rw[← hv_pow t k]
 exact halv_c (2^t) (pow_of t k) W
theorem Wd.eight {n t:Nat} (h:Wd n t):8≤n:=by
 obtain ⟨rfl,k,-⟩:=h
 exact Nat.pow_le_pow_right (n:=2) dC k
theorem isW_c {n t:Nat} (h:Wd n t) (w:World):Calls Tryz.prog 40 #[.int .i64 n] w (Ret fun e w'=>Below w.heap.size w w'∧e=.bool true):=by
 have H:=mk1 (h.hv w)
 have c:(8:Int)≤(n:Int):=by have:=h.eight;omega
 clear h
 go_enter Tryz.func40,Tryz.ntmps40
 go_wp2_with fail
 refine H.mono ?_
 rintro e d ⟨f,rfl,k,rfl⟩
 have b:=mk1 k
 go_wp2
 go_ret
 exact ⟨_,rfl,b.out,rfl⟩
theorem great_c {n t:Nat} (h:Wd n t) (w:World):Calls Tryz.prog 41 #[.int .i64 n] w (Ret fun e w'=>Below w.heap.size w w'∧e=.int .u64 ((2^n-1:Nat):Int)):=by
 obtain ⟨rfl,c,b⟩:=h
 have k:t=3∨t=4∨t=5∨t=6:=oM
 rcases k with rfl|rfl|rfl|rfl
 all_goals
  go_enter Tryz.func41,Tryz.ntmps41
  go_wp2
  go_ret
  exact ⟨_,rfl,Below.refl _ _,rfl⟩
end
section
open Go.RowKit Go.Sort Go.Deep SPA
variable {P:Nat} [NeZero P] {N:Nat}
def opC (k a b:Nat):List Value:=[.int .i64 k,.int .u64 a,.int .u64 b]
theorem isK_c (n:Nat) (b:1≤n) (k:n≤3):Gives 35 #[.int .i64 n] (.bool true):=fun w=>by
 have e3:(n:Int)≤3:=by omega
 go_enter Tryz.func35,Tryz.ntmps35
 go_wp2
 go_ret
 exact ⟨_,rfl,Below.refl _ _,rfl⟩
theorem uOp:(Tryz.prog.underlying 26).map (·.isRow)=some true:=kR
theorem iOp:(Tryz.prog.info? 26).map (·.size)=some 3:=kR
theorem u64r:(Tryz.prog.underlying 24).map (·.isRow)=some false:=kR
theorem boxOp (k a b:Nat) (w:World):(Instr.box 26 (.agg (opC k a b).toArray)).run Tryz.prog w=.ok (.pointer (some ⟨w.heap.size,0,none⟩)) (w.alloc (.cells (opC k a b).toArray 26)):=kR
theorem am1_c (k a b:Nat):Gives 36 #[.agg (opC k a b).toArray] (.int .u64 a):=fun w=>by
 refine hG w.heap.size fun f c=>?_
 refine hG (w.alloc (.cells (opC k a b).toArray 26)) fun g d=>?_
 have e:=mk1 ((Mp.start w).new c d)
 have B:=boxOp k a b w
 rw[c.out,d.out] at B
 go_enter Tryz.func36,Tryz.ntmps36
 refine wp_seq ?_
 refine PW.begin ?_
 refine PW.ns B ?_
 refine PW.va (.int .u64 0) ?_
 refine PW.dn ?_
 refine wp_seq ?_
 refine PW.begin ?_
 refine PW.va (.pointer (some ⟨f,1,none⟩)) ?_
 refine PW.ce ((e.out.at_ 0).2.1 1 _ rfl) u64r ?_
 refine PW.va (.int .u64 a) ?_
 refine PW.dn ?_
 go_wp2
 go_ret
 exact ⟨_,rfl,e.out.bl,rfl⟩
theorem am2_c (k a b:Nat):Gives 38 #[.agg (opC k a b).toArray] (.int .u64 b):=fun w=>by
 refine hG w.heap.size fun f c=>?_
 refine hG (w.alloc (.cells (opC k a b).toArray 26)) fun g d=>?_
 have e:=mk1 ((Mp.start w).new c d)
 have B:=boxOp k a b w
 rw[c.out,d.out] at B
 go_enter Tryz.func38,Tryz.ntmps38
 refine wp_seq ?_
 refine PW.begin ?_
 refine PW.ns B ?_
 refine PW.va (.int .u64 0) ?_
 refine PW.dn ?_
 refine wp_seq ?_
 refine PW.begin ?_
 refine PW.va (.pointer (some ⟨f,2,none⟩)) ?_
 refine PW.ce ((e.out.at_ 0).2.1 2 _ rfl) u64r ?_
 refine PW.va (.int .u64 b) ?_
 refine PW.dn ?_
 go_wp2
 go_ret
 exact ⟨_,rfl,e.out.bl,rfl⟩
def sdW (N:Nat):Nat→Nat
 | 0=>sMi N 0 1
 | _=>1
def sdL:Nat→ByteArray
 | 0=>⟨#[105,110]⟩
 | _=>⟨#[111,117,116]⟩
def sdP:Nat→ByteArray
 | 0=>⟨#[112,114,111,111,102,32,105,110]⟩
 | _=>⟨#[112,114,111,111,102,32,111,117,116]⟩
def sdA:Nat→FuncId
 | 0=>36
 | _=>38
def sdC (N i:Nat):List Value:=[.string (sdL i),.string (sdP i),.func (.func (sdA i)) #[] #[]]++wn (sdW N i)
def sdH (m:Nat):List Value:=[.string (sdL 0),.string (sdP 0),.func (.func (sdA 0)) #[] #[]]++wn m
theorem bslS2 (m:Nat) (w:World):(Instr.buildSlice 57 2 #[(0,.agg (sdH m).toArray),(1,.agg (sdC N 1).toArray)]).run Tryz.prog w=.ok (.slice (some ⟨w.heap.size,0,none⟩) 2 2) (w.alloc (.cells ((sdH m)++sdC N 1).toArray 61)):=kR
theorem sides_c (O:Ord N) (w:World):Calls Tryz.prog 17 #[] w (Ret fun e w'=>Below w.heap.size w w'∧∃ g,e=.slice (some ⟨g,0,none⟩) 2 2∧w.heap.size≤g∧Row w' g (sdC N 0++sdC N 1)):=by
 have j:1<N:=by have:=O.n2;omega
 have H:=mk3 (ofN_c 1 (by omega)) (opp1_c O j) True.intro
 obtain ⟨m,n⟩:=hE (sMi N 0 1)
 have p:sdC N 0=sdH m:=by rw[← n.out];rfl
 rw[p]
 rw[n.out] at H
 go_enter Tryz.func17,Tryz.ntmps17
 refine wp_seq ?_
 refine PW.begin ?_
 refine PW.va (.slice none 0 0) ?_
 refine PW.dn ?_
 refine wp_seq ?_
 refine PW.begin ?_
 refine PW.gi (H.out.1 w) fun q k=>?_
 refine PW.gi (H.out.2.1 q) fun r c=>?_
 refine PW.va (.agg (sdH m).toArray) ?_
 refine PW.gi (H.out.1 r) fun d f=>?_
 refine PW.va (.agg (sdC N 1).toArray) ?_
 have l:=mk1 ((k.trans (c.mono k.size)).trans (f.mono (Nat.le_trans k.size c.size)))
 refine hG d.heap.size fun g i=>?_
 refine hG (d.alloc (.cells ((sdH m)++sdC N 1).toArray 61)) fun s b=>?_
 have B:=bslS2 (N:=N) m d
 rw[i.out,b.out] at B
 have o:=mk1 ((Mp.start d).new i b)
 refine PW.ns B ?_
 refine PW.va (.slice (some ⟨g,0,none⟩) 2 2) ?_
 refine PW.dn ?_
 go_wp2
 go_ret
 exact ⟨_,rfl,l.out.trans (o.out.bl.mono l.out.size),g,rfl,by rw[← i.out];exact l.out.size,o.out.at_ 0⟩
end
section
open Go.RowKit Go.Sort Go.Deep
variable {P:Nat} [NeZero P] {N:Nat}
def kSc (N:Nat) (T:Bs):Nat:=orOne (redu N (SP.strmL T.toList 64))
theorem kSc_lt (O:Ord N) (T:Bs):kSc N T<N:=orOne_lt O (redu_lt O _)
theorem scalarOf_c (O:Ord N) (o:Nat) (T:Bs) (w:World) (t:T.size=32) (z:Holds encB w o 0 T) :
 Calls Tryz.prog 72 #[.slice (some ⟨o,0,none⟩) 32 32] w (Ret fun e w'=>Below w.heap.size w w'∧e=nv (kSc N T)):=by
 obtain ⟨c,b⟩:∃ c,Hid (w.alloc (.cells #[.int .u64 0,.int .u64 0,.int .u64 0,.int .u64 0] 44)=c):=⟨_,rfl⟩
 have g:Hid (Row c w.heap.size [.int .u64 0,.int .u64 0,.int .u64 0,.int .u64 0]∧Below w.heap.size w c∧Holds encB c o 0 T):=by rw[← b.out];exact ⟨row_new w _ _,below1 w _,Holds.below z (below1 w _) (Holds.lt z oM)⟩
 clear z
 have i:=redu_lt O (SP.strmL T.toList 64)
 have j:=orOne_c O i
 have l:=spread_c O o T c t g.2.2
 have A:Hid (kSc N T=orOne (redu N (SP.strmL T.toList 64))):=rfl
 generalize redu N (SP.strmL T.toList 64)=m at j l A i
 rw[A.out]
 generalize orOne m=x at j ⊢
 obtain ⟨C,q⟩:∃ C,Hid (nv m=C):=⟨_,rfl⟩
 rw[q.out] at j l
 go_enter Tryz.func72,Tryz.ntmps72
 go_wp2_with fail
 rw[b.out]
 clear b
 refine l.mono ?_
 rintro e r ⟨v,rfl,s,rfl⟩
 have n:Hid (Row r w.heap.size [.int .u64 0,.int .u64 0,.int .u64 0,.int .u64 0]∧Below w.heap.size w r):=⟨g.1.below s,g.2.1.trans (s.mono g.2.1.size)⟩
 clear s g l
 go_wp2_with fail
 refine (j r).mono ?_
 rintro e y ⟨v,rfl,k,rfl⟩
 have u:Hid (Row y w.heap.size [.int .u64 0,.int .u64 0,.int .u64 0,.int .u64 0]∧Below w.heap.size w y):=⟨n.1.below k,n.2.trans (k.mono n.2.size)⟩
 clear k n j
 obtain ⟨p,d⟩:∃ p,Hid (y.setCells w.heap.size 0 (wn x)=p):=⟨_,rfl⟩
 have B:Hid (Row p w.heap.size (wn x)∧Below w.heap.size w p):=by rw[← d.out];exact ⟨u.1.put rfl,RG.below_setCells (Nat.le_refl _) _ _ _ u.2⟩
 obtain ⟨a,f⟩:∃ a,Hid (nv x=a):=⟨_,rfl⟩
 rw[f.out]
 go_wp2_with (refine wpList_store_mid rfl 44 _ _ rfl w.heap.size 0 (wn x).toArray ?_ ?_ ?_ ?_ ?_ ?_;rfl;exact f.symm;exact u.1.2.2;exact i40;exact wn_one x;rw[show (wn x).toArray.toList=wn x from rfl,d.out])
 refine bodyPost_ret (results_cell 2 44 rfl B.1 rfl u40 i40) rfl ?_
 exact ⟨_,rfl,B.2,rfl⟩
theorem part_conv {w:World} {q:Option Addr} {n c:Nat} {b:Bs} (h:SP.PartOk w (.slice q n c) b.toList):(convert 23 9 (.slice q n c)).run Tryz.prog w=.ok (.string ⟨b⟩) w:=by
 obtain ⟨a,g,l,cap,d,i,e,p,-,k⟩:=h
 cases i
 obtain rfl:=Array.ext' e
 rcases k with k|⟨rfl,f⟩
 ·have m:d=#[]:=Array.eq_empty_of_size_eq_zero k
  subst m
  cases q with
  | none=>exact run_convert_bytes_nil (P:=Tryz.prog) (w:=w) 23 5 slice22 int5 0 c 9 str9
  | some a=>exact run_convert_bytes_back (P:=Tryz.prog) w 23 9 5 a c [] slice22 int5 str9 (fun j o=>by cases o)
 ·exact SP.conv_str Tryz.prog 23 9 5 slice22 int5 str9 w g l d.size c d f rfl
theorem beq3 (a b:Bs):((⟨a⟩:ByteArray).toList == (⟨b⟩:ByteArray).toList)=decide (a=b):=by
 by_cases h:a=b
 ·subst h
  simp
 ·rw[decide_eq_false h]
  have:¬ ((⟨a⟩:ByteArray).toList=(⟨b⟩:ByteArray).toList):=fun e=>by
   rw[ByteArray.toList_eq,ByteArray.toList_eq] at e
   exact h (Array.toList_inj.1 e)
  simpa using this
theorem equal_c (q f:Option Addr) (n c i g:Nat) (b d:Bs) (w:World) (hv:SP.PartOk w (.slice q n c) b.toList) (k:SP.PartOk w (.slice f i g) d.toList):Calls Tryz.prog 12 #[.slice q n c,.slice f i g] w fun e w'=>e=.returned (.bool (decide (b=d)))∧w'=w:=by
 have m:=part_conv hv
 have l:=part_conv k
 have j:=beq3 b d
 clear hv k
 go_enter Tryz.func12,Tryz.ntmps12
 go_wp2
 go_ret
 exact ⟨by first|rfl|simp[j],rfl⟩
theorem leafH_size (b:Bs):(leafH b).size=32:=by unfold leafH;exact SP.tagL_size _ _
theorem nodeH_size (a b:Bs):(nodeH a b).size=32:=by unfold nodeH;exact SP.tagL_size _ _
def ksB (N:Nat) (S:Nat→Nat) (k:Bs) (n:Nat) (l:List UInt8):Bs:=if k.size=32∧n≤16 then bx (kSc N (derH S k n l)) else #[]
theorem KScalar_c (O:Ord N) (G:Option Addr) (D sc:Nat) (k:Bs) (b:ByteArray) (t:b.size≤65536) (q:Option Addr) (n c:Nat) (S:Nat→Nat) (w:World) (W:n≤1048576) (M:SP.PartOk w (.slice G D sc) k.toList) (y:D=k.size) (Q:NumsK w q n S) :
 Calls Tryz.prog 39 #[.slice G D sc,.string b,.slice q n c] w (Ret fun e w'=>Below w.heap.size w w'∧∃ v,e=.tuple #[v,.int .i64 (kdE k n:Int)]∧PartS w' v (ksB N S k n b.data.toList).toList):=by
 have hd:=Derive_c G D sc k b t q n c S w W M y Q
 clear M Q y
 by_cases d:k.size=32∧n≤16
 ·have hE:kdE k n=0:=by unfold kdE;rw[if_pos d.1,if_pos d.2]
  have C:ksB N S k n b.data.toList=bx (kSc N (derH S k n b.data.toList)):=by unfold ksB;rw[if_pos d]
  rw[hE,C]
  have m:=derH_size S k n b.data.toList
  generalize derH S k n b.data.toList=T at hd m ⊢
  have J:=Hid.mk2 d
  have p:=Hid.mk2 (fun r w (h:Holds encB w r 0 T)=>scalarOf_c O r T w m h)
  have l:=Hid.mk2 (sbytes_c O (kSc_lt O T))
  have i:=bx_size (kSc N T)
  generalize kSc N T=x at p l i ⊢
  generalize bx x=B at l i ⊢
  obtain ⟨K,H⟩:∃ K,Hid (nv x=K):=⟨_,rfl⟩
  rw[H.out] at p l
  clear hE C d
  go_enter Tryz.func39,Tryz.ntmps39
  go_wp2_with fail
  refine hd.mono ?_
  rintro e o ⟨v2,rfl,g,f⟩
  obtain ⟨r,rfl,V,U⟩:∃ r,v2=.tuple #[.slice (some ⟨r,0,none⟩) 32 32,.int .i64 0]∧w.heap.size≤r∧Holds encB o r 0 T:=by
   rcases f with ⟨f,-⟩|⟨-,f⟩
   ·exact absurd J.out f
   ·exact f
  have s:Hid (Below w.heap.size w o∧Holds encB o r 0 T):=⟨g,U⟩
  clear g f V U hd
  go_wp2_with fail
  refine (p r o s.2).mono ?_
  rintro e L ⟨X,rfl,a,rfl⟩
  have I:Hid (Below w.heap.size w L):=s.1.trans (a.mono s.1.size)
  have u:=l.out L
  clear a s
  go_wp2_with fail
  refine u.mono ?_
  rintro e R ⟨Y,rfl,z,E,rfl⟩
  have P:Hid (Below w.heap.size w R∧SP.PartOk R (.slice (some ⟨z,0,none⟩) 32 32) B.toList):=by
   refine ⟨I.trans (E.bel.mono I.size),⟨_,z,0,32,B,by rw[i],rfl,by rw[i];exact Nat.le_refl _,by rw[i];decide,Or.inr ⟨rfl,fun j F=>?_⟩⟩⟩
   have A:=E.range j (encB B[j]!) (by unfold cb;rw[List.getElem?_map,getElem!_pos B j F,← Array.getElem_toList F,List.getElem?_eq_getElem (by rw[Array.length_toList];exact F)];rfl)
   exact ⟨A,(E.there j (by rw[cb_length];exact F)).2⟩
  clear E u I
  go_wp2
  go_ret2
  exact ⟨.tuple #[.slice (some ⟨z,0,none⟩) 32 32,.int .i64 0],rfl,P.1,.slice (some ⟨z,0,none⟩) 32 32,rfl,⟨some ⟨z,0,none⟩,32,32,rfl⟩,P.2⟩
 ·have C:ksB N S k n b.data.toList=#[]:=by unfold ksB;rw[if_neg d]
  rw[C]
  have l:¬ (kdE k n:Int)=0:=by
   unfold kdE
   by_cases A:k.size=32
   ·rw[if_pos A,if_neg (fun h=>d ⟨A,h⟩)];decide
   ·rw[if_neg A];decide
  have i:((kdE k n:Int) == 0)=false:=by simpa using l
  have J:=Hid.mk2 d
  clear C d
  generalize kdE k n=m at hd l i ⊢
  go_enter Tryz.func39,Tryz.ntmps39
  go_wp2_with fail
  refine hd.mono ?_
  rintro e o ⟨v2,rfl,g,f⟩
  obtain rfl:v2=.tuple #[.slice none 0 0,.int .i64 m]:=by
   rcases f with ⟨-,f⟩|⟨f,-⟩
   ·exact f
   ·exact absurd f J.out
  have s:Hid (Below w.heap.size w o):=g
  clear g f hd
  go_wp2
  go_ret2
  exact ⟨_,rfl,s.out,_,rfl,⟨_,_,_,rfl⟩,part_nil2 o⟩
end
section
open Go.RowKit Go.Sort Go.Deep SPA
variable {P:Nat} [NeZero P] {N:Nat}
theorem uStr:(Tryz.prog.underlying 9).map (·.isRow)=some false:=kR
theorem part_arg {W:World} {v:Value} {b:Bs} (h:SP.PartOk W v b.toList) (i:b.size=32):Arg W v b:=by
 obtain ⟨a,f,d,cap,g,rfl,e,l,-,c⟩:=h
 obtain rfl:g=b:=Array.toList_inj.1 e
 refine ⟨a,_,cap,rfl,rfl,fun j=>?_⟩
 rcases c with c|⟨rfl,k⟩
 ·omega
 ·exact ⟨f,d,rfl,oM,Holds.lt k oM,k⟩
theorem boxSd (i:Nat) (w:World):(Instr.box 61 (.agg (sdC N i).toArray)).run Tryz.prog w=.ok (.pointer (some ⟨w.heap.size,0,none⟩)) (w.alloc (.cells (sdC N i).toArray 61)):=kR
theorem bslU (n:Nat) (w:World):(Instr.buildSlice 93 1 #[(0,.int .u32 n)]).run Tryz.prog w=.ok (.slice (some ⟨w.heap.size,0,none⟩) 1 1) (w.alloc (.cells [Value.int .u32 n].toArray 38)):=kR
def blN (N:Nat) (k:Bs) (i n:Nat):Nat:=kSc N (derH (fun _=>n) k 1 (sdL i).data.toList)
def psB (k:Bs) (i n:Nat):Bs:=derH (fun _=>n) k 1 (sdP i).data.toList
theorem sdL_le:∀ i,(sdL i).size≤65536
 | 0=>Nat.le_of_ble_eq_true rfl
 | _+1=>Nat.le_of_ble_eq_true rfl
theorem sdP_le:∀ i,(sdP i).size≤65536
 | 0=>Nat.le_of_ble_eq_true rfl
 | _+1=>Nat.le_of_ble_eq_true rfl
theorem numsK1 {W:World} {k n:Nat} (c:n<4294967296) (b:Row W k [.int .u32 n]):NumsK W (some ⟨k,0,none⟩) 1 (fun _=>n):=⟨fun _ _=>c,fun _=>⟨k,0,rfl,b.1,fun j d=>by
 obtain rfl:j=0:=oM
 exact b.2.1 0 _ rfl⟩⟩
theorem psd_c (i n:Nat) (C:n<4294967296) (l:Bs) (g:l.size=32) (m:Option Addr) (sc:Nat) (w:World) (D:SP.PartOk w (.slice m 32 sc) l.toList):Calls Tryz.prog 21 #[.agg (sdC N i).toArray,.slice m 32 sc,.int .u32 n] w (Ret fun e w'=>Below w.heap.size w w'∧∃ r,e=.slice (some ⟨r,0,none⟩) 32 32∧w.heap.size≤r∧Holds encB w' r 0 (psB l i n)):=by
 refine hG w.heap.size fun x d=>?_
 refine hG (w.alloc (.cells (sdC N i).toArray 61)) fun p c=>?_
 have q:=mk1 ((Mp.start w).new d c)
 have B:=boxSd (N:=N) i w
 rw[d.out,c.out] at B
 refine hG p.heap.size fun t k=>?_
 refine hG (p.alloc (.cells [Value.int .u32 n].toArray 38)) fun v b=>?_
 have f:=mk1 (q.out.new k b)
 have u:=bslU n p
 rw[k.out,b.out] at u
 have A:=mk1 (Derive_c m 32 sc l (sdP i) (sdP_le i) (some ⟨t,0,none⟩) 1 1 (fun _=>n) v oM (D.below f.out.bl) g.symm (numsK1 C (f.out.at_ 1)))
 obtain ⟨cs,j⟩:=hE (sdC N i)
 have y:cs[1]? = some (.string (sdP i)):=by rw[← j.out];rfl
 rw[j.out] at B q ⊢
 go_enter Tryz.func21,Tryz.ntmps21
 refine wp_seq ?_
 refine PW.begin ?_
 refine PW.ns B ?_
 refine PW.va (.slice none 0 0) ?_
 refine PW.dn ?_
 refine wp_seq ?_
 refine PW.begin ?_
 refine PW.mv ?_
 refine PW.va (.pointer (some ⟨x,1,none⟩)) ?_
 refine PW.ce ((q.out.at_ 0).2.1 1 _ y) uStr ?_
 refine PW.mv ?_
 refine PW.ns u ?_
 refine PW.ca A.out ?_
 rintro e E ⟨o,⟨h,-⟩|⟨-,r,rfl,z,a⟩⟩
 ·exact absurd ⟨g,oM⟩ h
 have s:=mk3 (f.out.bl.trans (o.mono f.out.bl.size)) (Nat.le_trans f.out.bl.size z) a
 refine PW.mv ?_
 refine PW.va (.slice (some ⟨r,0,none⟩) 32 32) ?_
 refine PW.va (.int .i64 0) ?_
 refine PW.va (.slice (some ⟨r,0,none⟩) 32 32) ?_
 refine PW.va (.int .i64 0) ?_
 refine PW.dn ?_
 go_wp2
 go_ret
 exact ⟨_,rfl,s.out.1,r,rfl,s.out.2.1,s.out.2.2⟩
theorem blN_lt (O:Ord N) (k:Bs) (i n:Nat):blN N k i n<N:=kSc_lt O _
theorem bld_c (O:Ord N) (i n:Nat) (hn:n<4294967296) (b:Bs) (d:b.size=32) (x:Option Addr) (sc:Nat) (w:World) (hs:SP.PartOk w (.slice x 32 sc) b.toList):Calls Tryz.prog 18 #[.agg (sdC N i).toArray,.slice x 32 sc,.int .u32 n] w (Ret fun e w'=>Below w.heap.size w w'∧e=nv (blN N b i n)):=by
 refine hG w.heap.size fun k3 l=>?_
 refine hG (w.alloc (.cells (sdC N i).toArray 61)) fun J j=>?_
 have R:=mk1 ((Mp.start w).new l j)
 have B:=boxSd (N:=N) i w
 rw[l.out,j.out] at B
 refine hG J.heap.size fun M p=>?_
 refine hG (J.alloc (.cells (RG.z 4).toArray 44)) fun A g=>?_
 have D:=mk1 (R.out.new p g)
 refine hG A.heap.size fun a c=>?_
 refine hG (A.alloc (.cells [Value.int .u32 n].toArray 38)) fun X o=>?_
 have u:=mk1 (D.out.new c o)
 have Q:=bslU n A
 rw[c.out,o.out] at Q
 have F:=KScalar_c O x 32 sc b (sdL i) (sdL_le i) (some ⟨a,0,none⟩) 1 1 (fun _=>n) X oM (hs.below u.out.bl) d.symm (numsK1 hn (u.out.at_ 2))
 have Y:kdE b 1=0:=by unfold kdE;rw[if_pos d];rfl
 have e2:ksB N (fun _=>n) b 1 (sdL i).data.toList=bx (blN N b i n):=by unfold ksB;rw[if_pos ⟨d,oM⟩];rfl
 rw[Y,e2] at F
 have L:=blN_lt O b i n
 generalize blN N b i n=m at L F ⊢
 have H:=fun v W (h:Arg W v (bx m))=>sread_c O v (bx m) W h
 rw[rq_bxO O L] at H
 obtain ⟨S,k⟩:=hE (nv m)
 have z:Hid (∀ v W,Arg W v (bx m)→Calls Tryz.prog 11 #[v] W (Ret fun e w'=>Below W.heap.size W w'∧e=.tuple #[S,.bool true])):=by rw[← k.out];exact H
 obtain ⟨cs,q⟩:=hE (sdC N i)
 have h1:cs[0]? = some (.string (sdL i)):=by rw[← q.out];rfl
 rw[q.out] at B R D u ⊢
 have E:=mk1 F
 go_enter Tryz.func18,Tryz.ntmps18
 refine wp_seq ?_
 refine PW.begin ?_
 refine PW.ns B ?_
 refine PW.al p g ?_
 refine PW.dn ?_
 refine wp_seq ?_
 refine PW.begin ?_
 refine PW.mv ?_
 refine PW.va (.pointer (some ⟨k3,0,none⟩)) ?_
 refine PW.ce ((D.out.at_ 0).2.1 0 _ h1) uStr ?_
 refine PW.mv ?_
 refine PW.ns Q ?_
 refine PW.ca E.out ?_
 rintro e w4 ⟨y,v,rfl,⟨K,U,P,rfl⟩,Z⟩
 have K4:=mk1 (u.out.grow y)
 have A4:=part_arg Z (bx_size _)
 refine PW.mv ?_
 refine PW.va (.slice K U P) ?_
 refine PW.va (.int .i64 0) ?_
 refine PW.va (.slice K U P) ?_
 refine PW.va (.int .i64 0) ?_
 refine PW.dn ?_
 refine wp_seq ?_
 refine PW.begin ?_
 refine PW.mv ?_
 refine PW.gi (z.out _ w4 A4) fun T C=>?_
 have K5:=mk1 (K4.out.grow C)
 refine PW.mv ?_
 refine PW.va S ?_
 refine PW.va (.bool true) ?_
 refine hG T.heap.size fun k9 s=>?_
 refine hG (T.alloc (.cells (RG.z 4).toArray 44)) fun w6 f=>?_
 refine hG (w6.setCells k9 0 (wn m)) fun w7 r=>?_
 have I:=mk1 (K5.out.new s f)
 have G:=mk1 (I.out.put 3 r)
 refine PW.al s f ?_
 refine PW.st r k (I.out.th 3) i40 (wn_one m) ?_
 refine PW.va (.bool true) ?_
 refine PW.dn ?_
 refine wp_seq ?_
 refine PW.begin ?_
 refine hG (w7.setCells M 0 (wn m)) fun w8 t=>?_
 have V:=mk1 (G.out.put 1 t)
 refine PW.ro (G.out.at_ 3).2.1 k u40 i40 ?_
 refine PW.st t k (G.out.th 1) i40 (wn_one m) ?_
 refine PW.dn ?_
 refine wp_ret ?_
 refine bodyPost_ret (results_cell 6 44 rfl (show Row w8 M (wn m) from V.out.at_ 1) rfl u40 i40) rfl ?_
 exact ⟨_,rfl,V.out.bl,rfl⟩
end
section
open Go.RowKit Go.Sort Go.Deep SPA
variable {P:Nat} [NeZero P] {N:Nat} [NeZero N]
omit [NeZero N] in
theorem fmin (O:Ord N) (a b:Fin N) (W:World):Calls Tryz.prog 71 #[nv a.val,nv b.val] W (Ret fun e w'=>Below W.heap.size W w'∧e=nv (a-b).val):=by
 rw[mi_val]
 exact sMin_c O a.val b.val a.isLt b.isLt W
def rgD (n:Nat) (y z:Fin N):Fin N:=(z-z*z)*Md.pr (fun _=>1) (pwF y) n-z*z*z*ofF N (2^n-1)
theorem ptm_c (a:Bs) (c:a.size=33) (n:Nat) (w:World):Calls Tryz.prog 32 #[pvl a,nv n] w (Ret fun e w'=>Below w.heap.size w w'∧Sm w.heap.size w' e [(n,a)]):=
 (ptTimes_c a c n w).mono fun _ _ ⟨_,f,k,_,b,d,hR⟩=>⟨_,f,k,by rw[b];exact Sm.one hR d rfl⟩
theorem sumsR_c (C:Fld P) (O:Ord N) (k:∀ r:EC.Pt P,EC.On r→EC.mul N r=none) (hP:NT.IsP N) (hN:18446744073709551616≤N) {n t:Nat} (hw:Wd n t) (p:Rp) (ok:p.Ok) (V:Bs) (Vp P1 P2:OnP P) (hV:V=wP Vp) (h1:p.c=wP P1) (h2:p.d=wP P2) (tau tt x y z:Fin N) (hu:p.u=tau.val) (ht:p.t=tt.val) (w:World) (X Y:Bs) (hX:X=wP ((ptMd C k).cm (hPV C) (gPG C) (tt-rgD n y z) tau)) (hY:Y=wP ((ptMd C k).ad ((ptMd C k).ad ((ptMd C k).ac (z*z) Vp) ((ptMd C k).ac x P1)) ((ptMd C k).ac (x*x) P2))) :
 Calls Tryz.prog 162 #[.agg p.l.toArray,pvl V,.int .i64 n,nv x.val,nv y.val,nv z.val] w (Ret fun e w'=>Below w.heap.size w w'∧e=.bool (decide (X=Y))):=by
 have hq:n≤64:=by rw[hw.1];exact Nat.le_trans (Nat.pow_le_pow_right dC hw.2.2) dC
 have sV:V.size=33:=by rw[hV];exact wr_size _
 obtain ⟨vp,k1⟩:=hE (Value.agg p.l.toArray)
 obtain ⟨vV,l⟩:=hE (pvl V)
 obtain ⟨vx,j⟩:=hE (nv x.val)
 obtain ⟨vy,o⟩:=hE (nv y.val)
 obtain ⟨vz,d⟩:=hE (nv z.val)
 obtain ⟨vq,f⟩:=hE (nv (z*z).val)
 obtain ⟨k6,h4⟩:=hE (w.heap.size)
 obtain ⟨w1,h9⟩:=hE (w.alloc (.cells p.l.toArray 153))
 obtain ⟨k7,hp⟩:=hE (w1.heap.size)
 obtain ⟨U,hi⟩:=hE (w1.alloc (.cells (bl33 V).toArray 51))
 obtain ⟨k9,he⟩:=hE (U.heap.size)
 obtain ⟨R,hm⟩:=hE (U.alloc (.cells (wn x.val).toArray 44))
 obtain ⟨k8,G⟩:=hE (R.heap.size)
 obtain ⟨w4,hj⟩:=hE (R.alloc (.cells (wn y.val).toArray 44))
 obtain ⟨kg,B⟩:=hE (w4.heap.size)
 obtain ⟨w5,h7⟩:=hE (w4.alloc (.cells (wn z.val).toArray 44))
 have K5:=mk1 (((((Mp.start w).new h4 h9).new hp hi).new he hm).new G hj |>.new B h7)
 have B1:Hid ((Instr.box 153 vp).run Tryz.prog w=.ok (.pointer (some ⟨k6,0,none⟩)) w1):=by rw[← k1.out,← h9.out,← h4.out];exact boxR ok w
 have B2:Hid ((Instr.box 51 vV).run Tryz.prog w1=.ok (.pointer (some ⟨k7,0,none⟩)) U):=by rw[← l.out,← hi.out,← hp.out];exact boxCP sV w1
 have B3:Hid ((Instr.box 44 vx).run Tryz.prog U=.ok (.pointer (some ⟨k9,0,none⟩)) R):=by rw[← j.out,← hm.out,← he.out];exact boxS _ U
 have B4:Hid ((Instr.box 44 vy).run Tryz.prog R=.ok (.pointer (some ⟨k8,0,none⟩)) w4):=by rw[← o.out,← hj.out,← G.out];exact boxS _ R
 have B5:Hid ((Instr.box 44 vz).run Tryz.prog w4=.ok (.pointer (some ⟨kg,0,none⟩)) w5):=by rw[← d.out,← h7.out,← B.out];exact boxS _ w4
 rw[k1.out,l.out,j.out,o.out,d.out]
 go_enter Tryz.func162,Tryz.ntmps162
 refine wp_seq ?_
 refine PW.begin ?_
 refine PW.ns B1.out ?_
 refine PW.ns B2.out ?_
 refine PW.ns B3.out ?_
 refine PW.ns B4.out ?_
 refine PW.ns B5.out ?_
 refine PW.va (.bool false) ?_
 refine PW.dn ?_
 have HQ:=mk1 (ftim O z z w5)
 rw[d.out,f.out] at HQ
 refine wp_seq ?_
 refine PW.begin ?_
 refine PW.ro (K5.at_ 4).2.1 d u40 i40 ?_
 refine PW.ro (K5.at_ 4).2.1 d u40 i40 ?_
 refine PW.gi HQ.out fun w6 I=>?_
 have K6:=mk1 (K5.grow I)
 obtain ⟨ke,F⟩:=hE (w6.heap.size)
 obtain ⟨w7,h5⟩:=hE (w6.alloc (.cells (RG.z 4).toArray 44))
 obtain ⟨w8,k0⟩:=hE (w7.setCells ke 0 (wn (z*z).val))
 have K7:=mk1 (K6.new F h5)
 have K8:=mk1 (K7.put 5 k0)
 refine PW.al F h5 ?_
 refine PW.st k0 f (K7.th 5) i40 (wn_one _) ?_
 refine PW.dn ?_
 obtain ⟨v1,hz⟩:=hE (nv 1)
 have HO:=mk1 (ofN_c 1 dC w8)
 rw[hz.out] at HO
 refine wp_seq ?_
 refine PW.begin ?_
 refine PW.gi HO.out fun w9 k4=>?_
 have K9:=mk1 (K8.grow k4)
 obtain ⟨kb,h8⟩:=hE (w9.heap.size)
 obtain ⟨wA,ha⟩:=hE (w9.alloc (.cells (wn 1).toArray 44))
 have km:Hid ((Instr.buildSlice 143 1 #[(0,v1)]).run Tryz.prog w9=.ok (.slice (some ⟨kb,0,none⟩) 1 1) wA):=by rw[← hz.out,← ha.out,← h8.out];exact bslZ 1 w9
 have FA:=new_row h8 ha
 refine PW.ns km.out ?_
 refine PW.mv ?_
 refine PW.ca (repS_c 1 kb n oM wA FA.2) ?_
 rintro ov wB ⟨ko,K⟩
 replace K:=K.fin (fun _=>(1:Fin N)) (fun i _=>(Nat.mod_eq_of_lt hP.1).symm)
 have A:=mk1 ((K9.grow FA.1).gets ko (pqS ov n fun i=>((fun _=>(1:Fin N)) i).val) K)
 refine PW.va ov ?_
 refine PW.dn ?_
 obtain ⟨a1,kn⟩:=hE (nv (z-z*z).val)
 obtain ⟨a2,h6⟩:=hE (nv (Md.pr (fun _=>1) (pwF y) n).val)
 obtain ⟨a3,kh⟩:=hE (nv ((z-z*z)*Md.pr (fun _=>1) (pwF y) n).val)
 obtain ⟨a4,kk⟩:=hE (nv (z*z*z).val)
 obtain ⟨a5,hk⟩:=hE (nv (ofF N (2^n-1)).val)
 obtain ⟨a6,k5⟩:=hE (nv (z*z*z*ofF N (2^n-1)).val)
 obtain ⟨a7,q⟩:=hE (nv (rgD n y z).val)
 have M:=mk5 (fun W=>fmin O z (z*z) W) (fun W=>ftim O (z-z*z) (Md.pr (fun _=>1) (pwF y) n) W) (fun W=>ftim O (z*z) z W) (fun W=>ftim O (z*z*z) (ofF N (2^n-1)) W) (fun W=>fmin O ((z-z*z)*Md.pr (fun _=>1) (pwF y) n) (z*z*z*ofF N (2^n-1)) W)
 rw[show (z-z*z)*Md.pr (fun _=>1) (pwF y) n-z*z*z*ofF N (2^n-1)=rgD n y z from rfl,kn.out,h6.out,kh.out,kk.out,hk.out,k5.out,q.out,d.out,f.out] at M
 have l2:2^n-1<18446744073709551616:=by
  have:=Nat.pow_le_pow_right (n:=2) dC hq
  have:=Nat.pow_pos (n:=n) (show 0<2 by decide)
  omega
 obtain ⟨gi,hy⟩:=hE (2^n-1)
 have kl:Hid (∀ W,Calls Tryz.prog 15 #[.int .u64 gi] W (Ret fun e w'=>Below W.heap.size W w'∧e=a5)):=fun W=>by
  rw[← hk.out,← hy.out,show (ofF N (2^n-1)).val=2^n-1 from Nat.mod_eq_of_lt oM]
  exact ofN_c _ l2 W
 have kp:Hid (∀ W,Calls Tryz.prog 41 #[.int .i64 n] W (Ret fun e w'=>Below W.heap.size W w'∧e=.int .u64 gi)):=fun W=>by
  rw[← hy.out]
  exact great_c hw W
 obtain ⟨Q,hQ⟩:=A.out.q
 refine wp_seq ?_
 refine (RG.gwL [RG.pE vz,RG.pE vq,RG.pE a1,RG.pE ov,RG.pE vy,RG.pE (.int .i64 n),RG.pS Q n (fun i=>(pwF y i).val),RG.pE a2,RG.pE a3,RG.pE vq,RG.pE vz,RG.pE a4,RG.pE (.int .i64 n),RG.pE (.int .u64 gi),RG.pE a5,RG.pE a6,RG.pE a7,RG.pN wB.heap.size (RG.z 4)] (fun W=>Below wB.heap.size wB W) (fun W W' hb h=>h.trans (hb.mono h.size))).tail2 18 kR kR kR ⟨
  RG.gLo (cs:=wn z.val) 11 (fun W c=>((A.grow c).at_ 4).2.1) u40 i40 (hR:=fun _=>d.out),
  RG.gLo (cs:=wn (z*z).val) 13 (fun W c=>((A.grow c).at_ 5).2.1) u40 i40 (hR:=fun _=>f.out),
  RG.gC2 0 24 1 25 M.1,
  RG.gO 14 ov,
  RG.gLo (cs:=wn y.val) 10 (fun W c=>((A.grow c).at_ 3).2.1) u40 i40 (hR:=fun _=>o.out),
  RG.gO 2 (.int .i64 n),
  RG.gw_c2 4 28 5 29 83 (fun x y=>#[x,y]) (fun a u W m D c=>by
   obtain rfl:a=vy:=m
   obtain rfl:u=.int .i64 n:=D
   rw[← o.out]
   exact (pow_c O y.val y.isLt n oM W).mono fun e W' ⟨v,h1,h2,H⟩=>⟨v,h1,h2,(H.mono fun g E=>(A.grow c).nkq hQ g E).fin (pwF y) fun i _=>pw_val hP.1 y i⟩),
  RG.gw_c2 3 27 6 30 87 (fun x y=>#[x,y]) (fun a u W m D c=>by
   obtain rfl:a=ov:=m
   have h:=cmbS_c O n oM (fun i=>((fun _=>(1:Fin N)) i).val) (fun i=>(pwF y i).val) (fun i _=>(1:Fin N).isLt) (fun i _=>(pwF y i).isLt) a u W ((A.grow c).getq hQ 0) D
   rw[prS_val,h6.out] at h
   exact h),
  RG.gC2 2 26 7 31 M.2.1,
  RG.gLo (cs:=wn (z*z).val) 13 (fun W c=>((A.grow c).at_ 5).2.1) u40 i40 (hR:=fun _=>f.out),
  RG.gLo (cs:=wn z.val) 11 (fun W c=>((A.grow c).at_ 4).2.1) u40 i40 (hR:=fun _=>d.out),
  RG.gC2 9 33 10 34 M.2.2.1,
  RG.gO 2 (.int .i64 n),
  RG.gw_c1 12 36 41 (fun x=>#[x]) (fun a W m c=>by
   obtain rfl:a=.int .i64 n:=m
   exact kp W),
  RG.gw_c1 13 37 15 (fun x=>#[x]) (fun a W m c=>by
   obtain rfl:a=.int .u64 gi:=m
   exact kl W),
  RG.gC2 11 35 14 38 M.2.2.2.1,
  RG.gC2 8 32 15 39 M.2.2.2.2,
  RG.gw_a (RG.z 4) 44 (fun W W' h c=>⟨_,rfl,c.size,h⟩),trivial⟩ ⟨rfl,rfl,rfl,Nat.le_refl _,fun _ _=>rfl⟩ ?_
 intro Z wC hR c
 have ki:=hR 16 dC
 obtain ⟨kf,kc,ka,kd⟩:=hR 17 dC
 dsimp only[RG.putV,Nat.reduceAdd,List.take,List.drop]
 simp only[Act.put,List.setIfInBounds_toArray,List.set_cons_succ,List.set_cons_zero]
 rw[ki,kc]
 have KC:=mk1 (A.add c kd ka)
 obtain ⟨wD,hs⟩:=hE (wC.setCells kf 0 (wn (rgD n y z).val))
 have KD:=mk1 (KC.put 6 hs)
 refine PW.st hs q (KC.th 6) i40 (wn_one _) ?_
 refine PW.dn ?_
 have tV:Tl N [((z*z).val,V)] ((ptMd C k).ac (z*z) Vp):=by rw[hV];exact Tl.pt C k (z*z) Vp
 have t1:Tl N [(x.val,p.c)] ((ptMd C k).ac x P1):=by rw[h1];exact Tl.pt C k x P1
 have t2:Tl N [((x*x).val,p.d)] ((ptMd C k).ac (x*x) P2):=by rw[h2];exact Tl.pt C k (x*x) P2
 have t3:=tV.app C k t1
 have t4:=t3.app C k t2
 obtain ⟨vc,hl⟩:=hE (pvl p.c)
 obtain ⟨vd,T⟩:=hE (pvl p.d)
 obtain ⟨kt,hc⟩:=hE (nv (x*x).val)
 obtain ⟨vY,hn⟩:=hE (pvl Y)
 have D:=mk7 (fun W=>ptm_c V sV (z*z).val W) (fun W=>ptm_c p.c ok.c x.val W) (fun W=>ptm_c p.d ok.d (x*x).val W) (fun W=>ftim O x x W)
  (fun (W:World) (s u:Value) (a:Sm 0 W s [((z*z).val,V)]) (b:Sm 0 W u [(x.val,p.c)])=>sumPlusZ_c 0 s u _ _ (by simp) (by simp) (by simp) tV.ok.sz t1.ok.sz W (Or.inr a) (Or.inr b))
  (fun (W:World) (s u:Value) (a:Sm 0 W s ([((z*z).val,V)]++[(x.val,p.c)])) (b:Sm 0 W u [((x*x).val,p.d)])=>sumPlusZ_c 0 s u _ _ (by simp) (by simp) (by simp) t3.ok.sz t2.ok.sz W (Or.inr a) (Or.inr b))
  (fun (W:World) (s:Value) (a:Sm 0 W s ([((z*z).val,V)]++[(x.val,p.c)]++[((x*x).val,p.d)]))=>(by rw[hY];exact t4.point C O k (by simp) (by simp) a:Calls Tryz.prog 33 #[s] W (Ret fun e w'=>Below W.heap.size W w'∧e=pvl Y)))
 rw[l.out,hl.out,T.out,j.out,f.out,hc.out,hn.out] at D
 have ip:∀ {b:Bs},b.size=33→(Tryz.prog.info? 51).map (·.size)=some (bl33 b).length:=fun h=>by rw[bl33_length h];exact iCP
 refine wp_seq ?_
 refine AW.beg 15 15 (Iv.mp w _ _ false) KD.out.drew ?_
 refine AW.ro 0 (fun W h=>(h.at_ 1).2.1) l uCP (ip sV) ?_
 refine AW.ro 1 (fun W h=>(h.at_ 5).2.1) f u40 i40 ?_
 refine AW.va 3 (.pointer (some ⟨k6,66,none⟩)) ?_
 refine AW.ro 4 (fun W h=>(Rp.at7 ok (h.at_ 0).2.1).2.2.1) hl uCP (ip ok.c) ?_
 refine AW.ro 5 (fun W h=>(h.at_ 2).2.1) j u40 i40 ?_
 refine AW.va 8 (.pointer (some ⟨k6,99,none⟩)) ?_
 refine AW.ro 9 (fun W h=>(Rp.at7 ok (h.at_ 0).2.1).2.2.2.1) T uCP (ip ok.d) ?_
 refine AW.ro 10 (fun W h=>(h.at_ 2).2.1) j u40 i40 ?_
 refine AW.ro 11 (fun W h=>(h.at_ 2).2.1) j u40 i40 ?_
 refine AW.ca 2 (fun _=>D.1 _) (fun e w' h=>h.1) ?_
 rintro s1 x1 ⟨J,q1⟩
 refine AW.ca 6 (fun _=>D.2.1 _) (fun e w' h=>h.1) ?_
 rintro s2 x2 ⟨m,q2⟩
 refine AW.ca 7 (fun _=>D.2.2.2.2.1 _ _ _ (q1.q.keep (Kq.of_below m)).sm q2.q.sm) (fun e w' h=>h.1) ?_
 rintro s3 x3 ⟨L,q3⟩
 refine AW.gi 12 (fun _=>D.2.2.2.1 _) fun x4 hr=>?_
 refine AW.ca 13 (fun _=>D.2.2.1 _) (fun e w' h=>h.1) ?_
 rintro s5 x5 ⟨h0,q5⟩
 refine AW.ca 14 (fun _=>D.2.2.2.2.2.1 _ _ _ ((q3.q.keep (Kq.of_below hr)).keep (Kq.of_below h0)).sm q5.q.sm) (fun e w' h=>h.1) ?_
 rintro s6 x6 ⟨I,q6⟩
 have KE:=mk1 (((((KD.drew.grow J).grow m).grow L).grow hr).grow h0 |>.gets I (pqM s6 _) q6.q)
 refine AW.nx 15 s6 ?_
 refine AW.dn fun _=>?_
 obtain ⟨ku,H⟩:=hE (nv tt.val)
 obtain ⟨kr,E⟩:=hE (nv tau.val)
 obtain ⟨vm,k2⟩:=hE (nv (tt-rgD n y z).val)
 obtain ⟨vX,S⟩:=hE (pvl X)
 have HM:=mk2 (fun W=>fmin O tt (rgD n y z) W) (fun W=>cCommit_c (P:=P) C O (tt-rgD n y z).isLt tau.isLt W)
 rw[cmt_cm C k (tt-rgD n y z) tau,show wP ((ptMd C k).cm (hPV C) (gPG C) (tt-rgD n y z) tau)=X from hX.symm,H.out,E.out,k2.out,S.out,q.out] at HM
 have sX:X.size=33:=by rw[hX];exact wr_size _
 have sY:Y.size=33:=by rw[hY];exact wr_size _
 have k3:Hid (∀ W:World,(eqGuard .eql 51 (.tmp 62) (.tmp 64) vX vY >>= fun _=>binOp .eql 51 vX vY).run Tryz.prog W=.ok (.bool (decide (X=Y))) W):=fun W=>by
  rw[← S.out,← hn.out,Sem.run_bind,show (eqGuard .eql 51 (.tmp 62) (.tmp 64) (pvl X) (pvl Y)).run Tryz.prog W=.ok () W by kernel_rfl]
  exact eqPtY sX sY W
 refine wp_seq ?_
 refine AW.beg 10 10 (Iv.mp w _ _ false) KE.out.drew ?_
 refine AW.va 0 (.pointer (some ⟨k6,140,none⟩)) ?_
 refine AW.ro 1 (cs:=wn tt.val) (fun W h=>by rw[← ht];exact (Rp.at7 ok (h.at_ 0).2.1).2.2.2.2.2.2) H u40 i40 ?_
 refine AW.ro 2 (fun W h=>(h.at_ 6).2.1) q u40 i40 ?_
 refine AW.va 4 (.pointer (some ⟨k6,132,none⟩)) ?_
 refine AW.ro 5 (cs:=wn tau.val) (fun W h=>by rw[← hu];exact (Rp.at7 ok (h.at_ 0).2.1).2.2.2.2.1) E u40 i40 ?_
 refine AW.mv 7 ?_
 refine AW.gi 3 (fun _=>HM.1 _) fun x1 J=>?_
 refine AW.gi 6 (fun _=>HM.2 _) fun x2 m=>?_
 refine AW.gi 8 (fun h=>D.2.2.2.2.2.2 _ _ (SmQ.sm (h.get 1))) fun x3 L=>?_
 have KF:=mk1 (((KE.drew.grow J).grow m).grow L)
 refine AW.ns 9 (k3 x3) (Below.refl _ _) ?_
 refine AW.nx 10 (.bool (decide (X=Y))) ?_
 refine AW.dn fun _=>?_
 obtain ⟨bb,kj⟩:=hE (decide (X=Y))
 rw[kj.out]
 go_wp2
 go_ret
 exact ⟨_,rfl,KF.bl,rfl⟩
end
section
open Go.RowKit Go.Sort Go.Deep SPA
variable {P:Nat} [NeZero P] {N:Nat} [NeZero N]
def rgS (y z:Fin N) (i:Nat):Fin N:=z*pwF y i+z*z*pwF (ofF N 2) i
theorem rgS_val (k:NT.IsP N) (b:2<N) (y z:Fin N) (i:Nat):sPl N (sTi N z.val (pwN N y.val i)) (sTi N (sTi N z.val z.val) (pwN N 2 i))=(rgS y z i).val:=by
 show _=(z*pwF y i+z*z*pwF (ofF N 2) i).val
 rw[pl_val,ti_val,ti_val,ti_val,← pw_val k.1,← pw_val k.1,show (ofF N 2).val=2 from Nat.mod_eq_of_lt b]
theorem hid_c (C:Fld P) (O:Ord N) (k:∀ r:EC.Pt P,EC.On r→EC.mul N r=none) (hP:NT.IsP N) (hN:18446744073709551616≤N) {n:Nat} (hk:0<n) (hy:n≤64) (p:Rp) (ok:p.Ok) (PA PS:OnP P) (hA:p.a=wP PA) (hS:p.s=wP PS) (mu tt x y z:Fin N) (hm:p.m=mu.val) (ht:p.t=tt.val) (G H:Nat→List (Nat × Bs)) (U:List (Nat × Bs)) (g h:Nat→OnP P) (u:OnP P) (hG:Gd N n 1 G g) (hH:Gd N n 1 H h) (hU:Tl N U u) (hp:U.length=1) :
 ∃ l,Tl N l ((ptMd C k).ad ((ptMd C k).ad ((ptMd C k).ad ((ptMd C k).ad PA ((ptMd C k).ac x PS)) ((ptMd C k).ac (-1) ((ptMd C k).ac mu (gPG C)))) ((ptMd C k).ad ((ptMd C k).dt (fun _=>-z) g n) ((ptMd C k).dt (rgS y z) h n))) ((ptMd C k).ac tt u))∧(0<l.length∧l.length≤150) ∧
  ∀ (Q:Nat→Prop) (Y:Value) (w:World),GRq Q w Y n G H U→Calls Tryz.prog 164 #[.agg p.l.toArray,Y,.int .i64 n,nv x.val,nv y.val,nv z.val] w (Ret fun e w'=>Below w.heap.size w w'∧Sm w.heap.size w' e l):=by
 obtain ⟨Gb,L⟩:=hE (wr (gG P))
 have sG:Gb.size=33:=by rw[← L.out];exact wr_size _
 have tA:Tl N [(1,p.a)] PA:=by rw[hA];exact Tl.one C hP.1 PA
 have tS:Tl N [(x.val,p.s)] ((ptMd C k).ac x PS):=by rw[hS];exact Tl.pt C k x PS
 have tG:Tl N [(mu.val,Gb)] ((ptMd C k).ac mu (gPG C)):=by rw[← L.out];exact Tl.pt C k mu (gPG C)
 have t1:=tA.app C k tS
 have tM:=tG.tm C k (-1)
 rw[mone hP.1] at tM
 have t2:=t1.app C k tM
 have tL:=(hG.cmb C k (fun _=>-z)).1.app C k (hH.cmb C k (rgS y z)).1
 have lL:(cmbT N (fun _=>(-z).val) G n++cmbT N (fun i=>(rgS y z i).val) H n).length=n+n:=by rw[List.length_append,(hG.cmb C k (fun _=>-z)).2,(hH.cmb C k (rgS y z)).2,Nat.one_mul]
 have tU:=hU.tm C k tt
 have lU:(U.map (tmT N tt.val)).length=1:=by rw[List.length_map,hp]
 have t3:=t2.app C k tL
 have t4:=t3.app C k tU
 have hq:=gok_of hk (by decide:0<1) oM hG hH hU oM oM
 refine ⟨_,t4,⟨by simp,by simp only[List.length_append,List.length_map,lL,lU,List.length_cons,List.length_nil] at *;omega⟩,fun Q Y w h0=>?_⟩
 obtain ⟨lb,I⟩:=hE (cmbT N (fun _=>(-z).val) G n++cmbT N (fun i=>(rgS y z i).val) H n)
 obtain ⟨lu,F⟩:=hE (U.map (tmT N tt.val))
 obtain ⟨K,B⟩:=hE ([(1,p.a)]++[(x.val,p.s)]++[(mu.val,Gb)].map (tmT N (sMi N 0 1)))
 rw[B.out,I.out,F.out]
 have n2:K.length=3:=by rw[← B.out];rfl
 rw[I.out] at tL lL
 rw[F.out] at tU lU
 rw[B.out] at t2
 have hn:=t2.app C k tL
 have h2:2<N:=oM
 obtain ⟨vp,hi⟩:=hE (Value.agg p.l.toArray)
 obtain ⟨vx,m⟩:=hE (nv x.val)
 obtain ⟨vy,t⟩:=hE (nv y.val)
 obtain ⟨vz,q⟩:=hE (nv z.val)
 obtain ⟨vm,T⟩:=hE (nv mu.val)
 obtain ⟨vt,h6⟩:=hE (nv tt.val)
 obtain ⟨vG,hs⟩:=hE (pvl Gb)
 obtain ⟨va,hc⟩:=hE (pvl p.a)
 obtain ⟨vs,Z⟩:=hE (pvl p.s)
 have A:=mk8 (fun W=>onceS_c p.a ok.a W) (fun W=>ptm_c p.s ok.s x.val W) (fun W=>ptm_c Gb sG mu.val W) (fun W=>gen_c (P:=P) C W)
  (fun (W:World) (s u:Value) (a:Sm 0 W s [(1,p.a)]) (b:Sm 0 W u [(x.val,p.s)])=>sumPlusZ_c 0 s u _ _ (by simp) (by simp) (by simp) tA.ok.sz tS.ok.sz W (Or.inr a) (Or.inr b))
  (fun (W:World) (s u:Value) (a:Sm 0 W s ([(1,p.a)]++[(x.val,p.s)])) (b:Sm 0 W u [(mu.val,Gb)])=>sumMinus_c O 0 s u _ _ (by simp) (by simp) (by simp) t1.ok.sz tG.ok.sz tG.ok.lt W (Nat.zero_le _) a b)
  (fun (W:World) (s u:Value) (a:Sm 0 W s K) (b:Sm 0 W u lb)=>sumPlusZ_c 0 s u K lb (by rw[List.length_append];omega) oM oM t2.ok.sz tL.ok.sz W (Or.inr a) (Or.inr b))
  (fun (W:World) (s u:Value) (a:Sm 0 W s (K++lb)) (b:Sm 0 W u lu)=>sumPlusZ_c 0 s u (K++lb) lu (by simp only[List.length_append];omega) (by rw[List.length_append];omega) oM hn.ok.sz tU.ok.sz W (Or.inr a) (Or.inr b))
 rw[B.out,L.out,hs.out,hc.out,Z.out,m.out,T.out] at A
 have hw:Hid (∀ (Q:Nat→Prop) (W:World) (v a b:Value),GRq Q W v n G H U→SLq Q W a n (fun _=>(-z).val)→SLq Q W b n (fun i=>(rgS y z i).val)→Calls Tryz.prog 78 #[v,a,b] W (Ret fun e w'=>Below W.heap.size W w'∧Sm W.heap.size w' e lb)):=fun Q W v a b g1 g2 g3=>by
  rw[← I.out]
  exact listsG_c O n 1 G H U hq _ _ (fun i _=>(-z).isLt) (fun i _=>(rgS y z i).isLt) v a b W g1 g2 g3
 have hu:Hid (∀ (W:World) (v:Value),Sm 0 W v U→Calls Tryz.prog 149 #[v,vt] W (Ret fun e w'=>Below W.heap.size W w'∧Sm W.heap.size w' e lu)):=fun W v a=>by
  rw[← F.out,← h6.out]
  exact sumTimes_c O tt.isLt 0 v U oM hU.ok.szm hU.ok.lt W a
 have he:=mk1 (fun W=>shift_c O h2 y.val z.val y.isLt z.isLt n oM W)
 rw[t.out,q.out] at he
 obtain ⟨q1,q2,q3,rfl,-,-,-⟩:=h0.ex
 obtain ⟨k6,h1⟩:=hE (w.heap.size)
 obtain ⟨w1,h5⟩:=hE (w.alloc (.cells p.l.toArray 153))
 obtain ⟨k7,hb⟩:=hE (w1.heap.size)
 obtain ⟨X,h8⟩:=hE (w1.alloc (.cells [q1,q2,q3].toArray 150))
 obtain ⟨k9,h7⟩:=hE (X.heap.size)
 obtain ⟨V,ha⟩:=hE (X.alloc (.cells (wn x.val).toArray 44))
 obtain ⟨hl,E⟩:=hE (V.heap.size)
 obtain ⟨w4,h9⟩:=hE (V.alloc (.cells (wn y.val).toArray 44))
 obtain ⟨hr,D⟩:=hE (w4.heap.size)
 obtain ⟨w5,h4⟩:=hE (w4.alloc (.cells (wn z.val).toArray 44))
 have K0:=(Mp.start w).has (pqG (.agg #[q1,q2,q3]) n G H U) (h0.mono2 fun g _ _ e=>by cases e)
 have K5:=mk1 ((((K0.new h1 h5).new hb h8).new h7 ha).new E h9 |>.new D h4)
 obtain ⟨Y,j⟩:=hE (Value.agg #[q1,q2,q3])
 have B1:Hid ((Instr.box 153 vp).run Tryz.prog w=.ok (.pointer (some ⟨k6,0,none⟩)) w1):=by rw[← hi.out,← h5.out,← h1.out];exact boxR ok w
 have B2:Hid ((Instr.box 150 Y).run Tryz.prog w1=.ok (.pointer (some ⟨k7,0,none⟩)) X):=by rw[← j.out,← h8.out,← hb.out];exact boxG _ _ _ w1
 have B3:Hid ((Instr.box 44 vx).run Tryz.prog X=.ok (.pointer (some ⟨k9,0,none⟩)) V):=by rw[← m.out,← ha.out,← h7.out];exact boxS _ X
 have B4:Hid ((Instr.box 44 vy).run Tryz.prog V=.ok (.pointer (some ⟨hl,0,none⟩)) w4):=by rw[← t.out,← h9.out,← E.out];exact boxS _ V
 have B5:Hid ((Instr.box 44 vz).run Tryz.prog w4=.ok (.pointer (some ⟨hr,0,none⟩)) w5):=by rw[← q.out,← h4.out,← D.out];exact boxS _ w4
 rw[hi.out,j.out,m.out,t.out,q.out]
 rw[j.out] at K5
 have ip:∀ {b:Bs},b.size=33→(Tryz.prog.info? 51).map (·.size)=some (bl33 b).length:=fun h=>by rw[bl33_length h];exact iCP
 go_enter Tryz.func164,Tryz.ntmps164
 refine wp_seq ?_
 refine PW.begin ?_
 refine PW.ns B1.out ?_
 refine PW.ns B2.out ?_
 refine PW.ns B3.out ?_
 refine PW.ns B4.out ?_
 refine PW.ns B5.out ?_
 refine PW.va (.slice none 0 0) ?_
 refine PW.dn ?_
 refine wp_seq ?_
 refine AW.beg 13 13 (Iv.mp w _ _ false) K5.out.drew ?_
 refine AW.va 0 (.pointer (some ⟨k6,0,none⟩)) ?_
 refine AW.ro 1 (fun W h=>(Rp.at7 ok (h.at_ 0).2.1).1) hc uCP (ip ok.a) ?_
 refine AW.va 3 (.pointer (some ⟨k6,33,none⟩)) ?_
 refine AW.ro 4 (fun W h=>(Rp.at7 ok (h.at_ 0).2.1).2.1) Z uCP (ip ok.s) ?_
 refine AW.ro 5 (fun W h=>(h.at_ 2).2.1) m u40 i40 ?_
 refine AW.va 9 (.pointer (some ⟨k6,136,none⟩)) ?_
 refine AW.ro 10 (cs:=wn mu.val) (fun W h=>by rw[← hm];exact (Rp.at7 ok (h.at_ 0).2.1).2.2.2.2.2.1) T u40 i40 ?_
 refine AW.ca 2 (fun _=>A.1 _) (fun e w' h=>h.1) ?_
 rintro s1 x1 ⟨J,e1⟩
 refine AW.ca 6 (fun _=>A.2.1 _) (fun e w' h=>h.1) ?_
 rintro s2 x2 ⟨f,e2⟩
 refine AW.ca 7 (fun _=>A.2.2.2.2.1 _ _ _ (e1.q.keep (Kq.of_below f)).sm e2.q.sm) (fun e w' h=>h.1) ?_
 rintro s3 x3 ⟨S,e3⟩
 refine AW.gi 8 (fun _=>A.2.2.2.1 _) fun x4 d=>?_
 refine AW.ca 11 (fun _=>A.2.2.1 _) (fun e w' h=>h.1) ?_
 rintro s5 x5 ⟨o,e5⟩
 refine AW.ca 12 (fun _=>A.2.2.2.2.2.1 _ _ _ ((e3.q.keep (Kq.of_below d)).keep (Kq.of_below o)).sm e5.q.sm) (fun e w' h=>h.1) ?_
 rintro s6 x6 ⟨hj,e6⟩
 have KE:=mk1 (((((K5.drew.grow J).grow f).grow S).grow d).grow o |>.gets hj (pqM s6 K) e6.q)
 refine AW.nx 13 s6 ?_
 refine AW.dn fun _=>?_
 refine wp_seq ?_
 refine AW.beg 16 16 (Iv.mp w _ _ false) KE.out.drew ?_
 refine AW.mv 0 ?_
 refine AW.ro 1 (fun W h=>(h.at_ 1).2.1) j uGr iGr ?_
 refine AW.ro 2 (fun W h=>(h.at_ 3).2.1) t u40 i40 ?_
 refine AW.ro 3 (fun W h=>(h.at_ 4).2.1) q u40 i40 ?_
 refine AW.mv 4 ?_
 refine AW.va 10 (.pointer (some ⟨k7,2,none⟩)) ?_
 refine AW.ce 11 uSum (fun W h=>(h.at_ 1).2.1 2 _ rfl) ?_
 refine AW.va 12 (.pointer (some ⟨k6,140,none⟩)) ?_
 refine AW.ro 13 (cs:=wn tt.val) (fun W h=>by rw[← ht];exact (Rp.at7 ok (h.at_ 0).2.1).2.2.2.2.2.2) h6 u40 i40 ?_
 refine AW.ca 5 (fun _=>he _) (fun e w' h=>h.1) ?_
 rintro e y1 ⟨J,ls,rs,rfl,R,M⟩
 replace R:=R.fin (fun _=>-z) (fun i _=>(ne_val z).symm)
 replace M:=M.fin (rgS y z) (fun i _=>rgS_val hP h2 y z i)
 have KF:=mk1 ((KE.drew.gets J (pqS ls n fun _=>(-z).val) R).has (pqS rs n fun i=>(rgS y z i).val) (M.mono fun g hg=>KE.drew.nk g hg))
 refine AW.va 6 ls ?_
 refine AW.va 7 rs ?_
 refine AW.ca 8 (fun _=>hw _ _ _ _ _ (KF.get 0) (KF.get 2) (KF.get 3)) (fun e w' h=>h.1) ?_
 rintro s2 y2 ⟨f,e2⟩
 refine AW.ca 9 (fun _=>A.2.2.2.2.2.2.1 _ _ _ (SmQ.sm ((KF.grow f).get 1)) e2.q.sm) (fun e w' h=>h.1) ?_
 rintro s3 y3 ⟨S,e3⟩
 have KG:=mk1 ((KF.grow f).grow S)
 refine AW.ca 14 (fun _=>hu _ _ (by
  have hh:=KG.get 0
  rw[← j.out] at hh
  obtain ⟨a,b,c,e,-,-,h3⟩:=hh.ex
  cases e
  exact h3.sm)) (fun e w' h=>h.1) ?_
 rintro s4 y4 ⟨d,e4⟩
 refine AW.ca 15 (fun _=>A.2.2.2.2.2.2.2 _ _ _ (e3.q.keep (Kq.of_below d)).sm e4.q.sm) (fun e w' h=>h.1) ?_
 rintro s5 y5 ⟨o,e5⟩
 have KH:=mk1 ((KG.grow d).grow o)
 have E5:Hid (Sm w.heap.size y5 s5 (K++(lb++lu))):=by
  rw[← List.append_assoc]
  exact e5.q.mono fun g hg=>Nat.le_trans (KG.grow d).bl.size hg
 refine AW.nx 16 s5 ?_
 refine AW.dn fun _=>?_
 go_wp2
 go_ret
 exact ⟨_,rfl,KH.bl,E5.out⟩
end
namespace RG
open Go Go.RowKit
variable {P:Program} {ops:Array Oper} {Q:Exit→Act→World→Prop} {w:World} {a0:Act} {G:Gw} {S:World→World→Prop} {B1:World→Prop} {m k:Nat} {o:Oper}
def Gw.lk (G:Gw) (m:Nat) (S:World→World→Prop) (k:World→Prop):Flow:=⟨G.R,fun b=>if b=0 then G.B else k,fun i w w'=>(i=m∧S w w')∨Below w.heap.size w w',fun _=>[],fun b=>if b=0 then [] else [m]⟩
theorem lk_c (h:CertF P Q G.flow ops a0 k o):CertF P Q (G.lk m S B1) ops a0 k o:=fun a w K f c d e=>h a w K f c (fun b _=>d 0 rfl) fun v w' hE hR=>e v w' (Or.inr hE) hR
theorem lk_f (h:∀ (a:Act) (w:World),PreG G ops a0 m o a w→B1 w→∃ (k:List (Tmp × Value)) (f:FuncId) (args:Array Value),AllE a k∧(seenT (k.map (·.1)) o,(execOp (evo (evl k)) o).run P w)=(true,.ok (.enter f args) w)∧Calls P f args w (Ret fun e w'=>S w w'∧G.R m e w')) (q:okK ops m [m]=true:=by kernel_rfl):CertF P Q (G.lk m S B1) ops a0 m o:=by
 intro a w K r i c g
 obtain ⟨k,f,args,n,b,s⟩:=h a w ⟨fun j d t hd=>r j d t rfl hd,i,c 0 rfl⟩ (c 1 q)
 simp only[Prod.mk.injEq] at b
 unfold Oper.wp
 rw[exec_ev (evl k) (k.map (·.1)) b.1 n.ev,b.2,Oper.upon_enter]
 refine s.mono ?_
 rintro e w' ⟨v,rfl,p,l⟩
 exact g _ _ (Or.inl ⟨rfl,p⟩) l
theorem Gw.tailL {id:Nat} (G:Gw) (m:Nat) (S:World→World→Prop) (f:World→Prop) (n:Nat) (q:∀ j v w w',j≠m→S w w'→G.R j v w→G.R j v w') (g:∀ w w',S w w'→G.B w→G.B w') (l:∀ w w',Below w.heap.size w w'→f w→f w') (s:(decide (n<ops.size) && chain2 ops n)=true) (y:P.follows .mixedOrders=true) (a:chkF ops a0.tmps.size=true) (h:CertsF P Q (G.lk m S f) ops a0 0 (ops.toList.take n)) (k:G.B w.drew) (p:f w.drew)
 (x:∀ (V:Nat→Value) (w':World),(∀ i,i<n→G.R i (V i) w')→G.B w'→wpList P ops Q (ops.toList.drop n) (putV V (ops.toList.take n) 0 a0) w'):(Code.region id ops true).wp P Q a0 w:=by
 rw[Bool.and_eq_true,decide_eq_true_eq] at s
 refine flow_tail2 (G.lk m S f) n s.1 s.2 y ⟨a,certs_but h,fun i j _ _ r _ _ v w w' hE hR=>?_,fun i b _ c w w' hE k=>?_⟩ (fun b=>?_) fun V w' z u=>x V w' (fun i d=>z i d rfl) (u 0 rfl)
 ·rcases hE with ⟨d,o⟩|hE
  ·exact q j v w w' (fun e=>r (d.trans e.symm)) o hR
  ·exact G.sR j v w w' hE hR
 ·unfold Gw.lk at c k ⊢
  dsimp only at c k ⊢
  by_cases t:b=0
  ·rw[if_pos t] at k ⊢
   rcases hE with ⟨-,o⟩|hE
   ·exact g w w' o k
   ·exact G.sB w w' hE k
  ·rw[if_neg t] at k c ⊢
   rcases hE with ⟨d,-⟩|hE
   ·rw[d] at c;simp at c
   ·exact l w w' hE k
 ·unfold Gw.lk
  dsimp only
  split
  ·exact k
  ·exact p
end RG
section
open Go.RowKit Go.Sort Go.Deep SPA
def pX (b:Nat) (cs:List Value):RG.S1:=⟨fun v w=>∃ k,v=.pointer (some ⟨k,0,none⟩)∧b≤k∧Row w k cs∧∀ i x,w.cell? ⟨k,i,none⟩=some x→x∈cs,fun _ w w' c ⟨k,g,e,d,f⟩=>⟨k,g,e,d.below c,fun i x hx=>f i x (by rw[← World.cell?_of_block (a:=⟨k,i,none⟩) (c.block k d.1)];exact hx)⟩⟩
theorem pX_only {b r:Nat} {cs:List Value} {v:Value} {W W':World} (c:SP.Only r 0 32 W W') (l:r<b) (h:(pX b cs).p v W):(pX b cs).p v W':=by
 obtain ⟨k,g,f,d,j⟩:=h
 have e:=c.block k d.1 oM
 exact ⟨k,g,f,row_same d c.size e,fun i x hx=>j i x (by rw[← World.cell?_of_block (a:=⟨k,i,none⟩) e];exact hx)⟩
theorem gw_aX {P:Program} {c:Array Oper} {Q:Exit→Act→World→Prop} {a0:Act} {G:RG.Gw} {k:Nat} {o:Oper} (b:Nat) (cs:List Value) (T:TypeId) (e:∀ W,G.B W→b≤W.heap.size) (hR:∀ v W,(pX b cs).p v W→G.R k v W) (f:∀ W,(RG.seenT [] o,(execOp (RG.evo (RG.evl [])) o).run P W)=(true,.ok (.value (.pointer (some ⟨W.heap.size,0,none⟩))) (W.alloc (.cells cs.toArray T))):=by intro _;kernel_rfl):RG.CertF P Q G.flow c a0 k o:=
 RG.gw_val fun a W d=>⟨[],_,_,trivial,f W,below1 W _,hR _ _ ⟨_,rfl,e W d.b,row_new W cs T,fun i x hx=>by
  rw[World.cell?_alloc_at _ _ _ _ rfl,List.getElem?_toArray] at hx
  exact List.mem_of_getElem? hx⟩⟩
section
variable {Q:Nat→Prop} {W:World} {v:Value} {k n:Nat} {T G H:Nat→List (Nat × Bs)} {l U:List (Nat × Bs)}
theorem SmQ.offX (h:SmQ Q W v l) (f:0<l.length) (hx:∀ i x,W.cell? ⟨k,i,none⟩=some x→x=.slice none 0 0):SmQ (fun g=>Q g∧g≠k) W v l:=by
 obtain ⟨g,c,n,e,j,m,d⟩:=h
 refine ⟨g,c,n,e,⟨j,?_⟩,m,d⟩
 rintro rfl
 match l,f with
 | (a,b) :: t,_=>cases hx _ _ (d 0 _ rfl)
theorem GLq.offX (h:GLq Q W v n T) (t:0<n) (s:∀ j,j<n→0<(T j).length) (hx:∀ i x,W.cell? ⟨k,i,none⟩=some x→x=.slice none 0 0):GLq (fun g=>Q g∧g≠k) W v n T:=by
 obtain ⟨g,o,c,r,l,q,m,d⟩:=h
 refine ⟨g,o,c,r,l,⟨q,?_⟩,m,fun j f=>?_⟩
 ·rintro rfl
  obtain ⟨x,b,p,u,e,-⟩:=d 0 t
  have:=hx _ _ b
  rw[e] at this
  cases this
 ·obtain ⟨x,b,p⟩:=d j f
  exact ⟨x,b,p.offX (s j f) hx⟩
theorem GRq.offX (h:GRq Q W v n G H U) (b:0<n) (hG:∀ j,j<n→0<(G j).length) (o:∀ j,j<n→0<(H j).length) (f:0<U.length) (hx:∀ i x,W.cell? ⟨k,i,none⟩=some x→x=.slice none 0 0):GRq (fun g=>Q g∧g≠k) W v n G H U:=by
 obtain ⟨l,d,p,q,c,m,e⟩:=h.ex
 exact ⟨l,d,p,q,c.offX b hG hx,m.offX b o hx,e.offX f hx⟩
end
theorem Mp.sayAdd {w W W':World} {rs d:List (Nat × List Value)} {S:List Pq} {k r:Nat} {c:List Value} {L l:Bs} (h:Mp w W rs S) (i:Nat) (o:SP.Only r 0 32 W W') (B:Holds encB W' r 0 l) (u:Row W' k c) (t:W.heap.size≤k) (j:rs[i]? = some (r,bl33 L):=by rfl) (e:rs.set i (r,bl33 l)++[(k,c)]=d:=by (simp only[List.set_cons_succ,List.set_cons_zero,List.cons_append,List.nil_append])<;>rfl):Mp w W' d S∧∀ g,Nk rs g→g≠k→Nk d g:=by
 subst e
 have n:∀ g,Nk (rs.set i (r,bl33 l)++[(k,c)]) g↔Nk rs g∧g≠k:=fun g=>by
  unfold Nk
  rw[List.map_append,Mp.keys j,List.mem_append]
  simp
 refine ⟨?_,fun g f p=>(n g).2 ⟨f,p⟩⟩
 have f:=h.say i o B j rfl
 have v:=h.lt (Mp.key j)
 refine ⟨f.bl,fun x hx=>?_,?_,fun s z=>?_⟩
 ·rcases List.mem_append.1 hx with hx|hx
  ·exact f.rw x hx
  ·rw[List.mem_singleton.1 hx];exact ⟨Nat.le_trans h.bl.size t,u⟩
 ·rw[List.map_append,List.nodup_append]
  refine ⟨f.nd,by simp,fun a q b m e=>?_⟩
  rw[Mp.keys j] at q
  have p:=(h.lt q).2
  simp at m
  omega
 ·refine s.kp _ W _ ⟨o.size,fun g m q=>o.block g q fun e=>((n g).1 m).1 (by rw[e];exact Mp.key j)⟩ (s.mo _ _ _ (fun g m y=>(n g).2 ⟨y,oM⟩) (h.ob s z))
variable {P:Nat} [NeZero P] {N:Nat} [NeZero N]
theorem gd_trn (C:Fld P) (k:∀ r:EC.Pt P,EC.On r→EC.mul N r=none) (c:NT.IsP N) (y:Fin N) (n:Nat):Gd N n 1 (trnT N y.val (hGT P)) (fun i=>(ptMd C k).ac (pwF (ivF y) i) (gPt C ⟨#[114,105,103,104,116]⟩ i)):=by
 have g:=gd_right C c.1 n
 refine ⟨fun i b=>?_,fun i b=>by unfold trnT;rw[List.length_map];exact g.len i b⟩
 have h:=(g.tl i b).tm C k (pwF (ivF y) i)
 rw[← pw_val c.1] at h
 exact h
end
end Go.Proofs.YtlofhpkoaljmeaaGreat
