import Derived.Lib.LazyBuf
import Derived.ChangeOld
import Derived.Below
import Derived.WalkKit
import Derived.ProofKit
import Derived.OpenShut
import Derived.ShutString
import Derived.Test.YtnfpdihkjkimiaaGreatsh7
set_option linter.unusedVariables false
set_option linter.constructorNameAsVariable false
set_option linter.unusedSimpArgs false
set_option maxRecDepth 1000000
set_option maxHeartbeats 4000000
namespace Go.Proofs.YtnfpdihkjkimiaaGreat
section
open Go.RowKit Go.Sort Go.Deep SPA
variable {P:Nat} [NeZero P] {N:Nat} [NeZero N]
def QR (r k g:Nat):Prop:=g≠r∧(g<k∨k+3≤g)
structure Lk (w W:World) (r k kl kr t a b n:Nat) (v sv:Value) (Lb Rb:Nat→Bs) (L:Bs) (G H:Nat→List (Nat × Bs)) (U l:List (Nat × Bs)):Prop where
 on:SP.Only r 0 32 w W
 rk:r<k
 wk:w.heap.size=k
 r0:Row W k (inL kl kr t a b)
 r1:Row W (k+1) [.pointer (some ⟨r,0,none⟩)]
 r2:∃ e:Array Value,v=.agg e∧e.size=3∧e.all (·.oneCell')=true∧Row W (k+2) e.toList
 pl:PtL (QR r k) W kl t Lb
 pr:PtL (QR r k) W kr t Rb
 gr:GRq (QR r k) W v n G H U
 sm:SmQ (QR r k) W sv l
 lg:Holds encB W r 0 L
 ls:L.size=32
section
variable {w W W':World} {r k kl kr t a b n:Nat} {v sv:Value} {Lb Rb:Nat→Bs} {L:Bs} {G H:Nat→List (Nat × Bs)} {U l:List (Nat × Bs)}
theorem Lk.any {L':Bs} (h:Lk w W r k kl kr t a b n v sv Lb Rb L G H U l) (hO:SP.Only r 0 32 w W') (kq:Kq (QR r k) W W') (hk:∀ g,k≤g→g<k+3→W'.heap[g]? = W.heap[g]?) (hL:Holds encB W' r 0 L') (hls:L'.size=32):Lk w W' r k kl kr t a b n v sv Lb Rb L' G H U l:=by
 obtain ⟨e,e1,e2,e3,e4⟩:=h.r2
 exact ⟨hO,h.rk,h.wk,row_same h.r0 kq.size (hk k (by omega) (by omega)),row_same h.r1 kq.size (hk _ (by omega) (by omega)),⟨e,e1,e2,e3,row_same e4 kq.size (hk _ (by omega) (by omega))⟩,h.pl.keep kq,h.pr.keep kq,h.gr.keep kq,h.sm.keep kq,hL,hls⟩
theorem Lk.big (h:Lk w W r k kl kr t a b n v sv Lb Rb L G H U l):k+3≤W.heap.size:=by
 obtain ⟨e,-,-,-,e4⟩:=h.r2
 exact e4.1
theorem Lk.grow (h:Lk w W r k kl kr t a b n v sv Lb Rb L G H U l) (hb:Below W.heap.size W W'):Lk w W' r k kl kr t a b n v sv Lb Rb L G H U l:=by
 have hr:=Holds.lt h.lg (by rw[h.ls];decide)
 exact h.any (h.on.trans (SP.Only.of_below hb rfl hr)) (Kq.of_below hb) (fun g h1 h2=>hb.block g (by have:=h.big;omega)) (Holds.below h.lg hb hr) h.ls
theorem Lk.drew (h:Lk w W r k kl kr t a b n v sv Lb Rb L G H U l):Lk w W.drew r k kl kr t a b n v sv Lb Rb L G H U l:=h.grow ⟨rfl,rfl,rfl,Nat.le_refl _,fun _ _=>rfl⟩
theorem Lk.say {L':Bs} (h:Lk w W r k kl kr t a b n v sv Lb Rb L G H U l) (hO:SP.Only r 0 32 W W') (hL:Holds encB W' r 0 L') (hl:L'.size=32):Lk w W' r k kl kr t a b n v sv Lb Rb L' G H U l:=by
 have hrk:=h.rk
 exact h.any (h.on.trans hO) (Kq.of_only hO fun g hg=>hg.1) (fun g h1 h2=>hO.block g (by have:=h.big;omega) (by omega)) hL hl
theorem Lk.qn (h:Lk w W r k kl kr t a b n v sv Lb Rb L G H U l):∀ g,W.heap.size≤g→QR r k g:=fun g hg=>⟨by have:=h.rk;have:=h.big;omega,Or.inr (by have:=h.big;omega)⟩
theorem Lk.hide {sv':Value} {l':List (Nat × Bs)} (h:Lk w W r k kl kr t a b n v sv Lb Rb L G H U l) (hs:SmQ (QR r k) W sv' l'):Lk w W r k kl kr t a b n v sv' Lb Rb L G H U l':=⟨h.on,h.rk,h.wk,h.r0,h.r1,h.r2,h.pl,h.pr,h.gr,hs,h.lg,h.ls⟩
theorem Lk.next {n':Nat} {e:Array Value} {G' H':Nat→List (Nat × Bs)} (h:Lk w W r k kl kr t a b n v sv Lb Rb L G H U l) (hg:GRq (QR r k) W (.agg e) n' G' H' U) (h3:e.size=3) (he:e.all (·.oneCell')=true):Lk w (W.setCells (k+2) 0 e.toList) r k kl kr t a b n' (.agg e) sv Lb Rb L G' H' U l:=by
 have hne:∀ g,g≠k+2→(W.setCells (k+2) 0 e.toList).heap[g]? = W.heap[g]?:=fun g h2=>RG.setCells_other (k+2) _ 0 W g h2
 have hsz:W.heap.size≤(W.setCells (k+2) 0 e.toList).heap.size:=by rw[RG.setCells_size];exact Nat.le_refl _
 have kq:Kq (QR r k) W (W.setCells (k+2) 0 e.toList):=⟨hsz,fun g q _=>hne g (by have:=q.2;omega)⟩
 have hrk:=h.rk
 obtain ⟨e0,-,z0,-,r2⟩:=h.r2
 exact ⟨set_only h.on h.wk h.rk (by omega),h.rk,h.wk,row_same h.r0 hsz (hne k (by omega)),row_same h.r1 hsz (hne _ (by omega)),⟨e,rfl,h3,he,r2.put (by rw[Array.length_toList,Array.length_toList,h3,z0])⟩,h.pl.keep kq,h.pr.keep kq,hg.keep kq,h.sm.keep kq,holds_eq h.lg (hne r (by omega)),h.ls⟩
end
theorem boxIn (kl kr t a b:Nat) (w:World):(Instr.box 76 (.agg (inL kl kr t a b).toArray)).run Tryz.prog w=.ok (.pointer (some ⟨w.heap.size,0,none⟩)) (w.alloc (.cells (inL kl kr t a b).toArray 76)):=by kernel_rfl
theorem uPL:(Tryz.prog.underlying 74).map (·.isRow)=some false:=by kernel_rfl
theorem smq_one {Q:Nat→Prop} {W:World} {g n:Nat} {p:Bs} (hr:Row W g (wn n++bl33 p)) (hQ:Q g):SmQ Q W (.slice (some ⟨g,0,none⟩) 1 1) [(n,p)]:=by
 have e:cellsT [(n,p)]=wn n++bl33 p:=by unfold cellsT;simp
 refine ⟨g,1,rfl,Nat.le_refl _,hQ,hr.1,?_⟩
 rw[e]
 exact hr.2.1
theorem ix_run {Pg:Program} {o:Oper} {ev:Operand→Value} {I:Sem Value} {v:Value} {w:World} (h:I.run Pg w=.ok v w) (he:execOp ev o=I >>= fun v=>pure (Next.value v):=by kernel_rfl):(execOp ev o).run Pg w=.ok (.value v) w:=by
 rw[he,Sem.run_bind,h]
 rfl
theorem Lk.rd {w W W':World} {r k kl kr t a b n:Nat} {v sv:Value} {Lb Rb:Nat→Bs} {L:Bs} {G H:Nat→List (Nat × Bs)} {U l:List (Nat × Bs)} (h:Lk w W r k kl kr t a b n v sv Lb Rb L G H U l) (hO:SP.Only r 0 32 W W') {i:Nat} (hi:i<t) :
 W'.rangeAt (k+1) 0 [.pointer (some ⟨r,0,none⟩)]∧W'.cell? ⟨k,0,none⟩=some (.slice (some ⟨kl,0,none⟩) t t)∧W'.cell? ⟨k,1,none⟩=some (.slice (some ⟨kr,0,none⟩) t t)∧W'.rangeAt kl (0+33*i) (bl33 (Lb i))∧W'.rangeAt kr (0+33*i) (bl33 (Rb i)):=by
 have hrk:=h.rk
 have kq:Kq (QR r k) W W':=Kq.of_only hO fun g hg=>hg.1
 rw[Nat.zero_add]
 exact ⟨(h.r1.only hO (by omega)).2.1,(h.r0.only hO (by omega)).2.1 0 _ rfl,(h.r0.only hO (by omega)).2.1 1 _ rfl,((h.pl.keep kq) i hi).2.2,((h.pr.keep kq) i hi).2.2⟩
theorem mone (h:1<N):(-1:Fin N).val=sMi N 0 1:=by
 have h1:(1:Fin N).val=1:=by
  show 1%N=1
  exact Nat.mod_eq_of_lt h
 have h2:(-1:Fin N).val=(N-(1:Fin N).val)%N:=Fin.val_neg' _
 rw[h2,h1]
 unfold sMi
 rw[Nat.zero_add]
omit [NeZero N] in
theorem wr_zero (C:Fld P) {X:EC.Pt P} (hX:EC.On X):wr X=o33↔X=none:=by
 rw[← wr_none (P:=P)]
 refine ⟨fun h=>?_,fun h=>by rw[h]⟩
 obtain ⟨p,h1,h2⟩:=rd_wr C hX
 obtain ⟨q,h3,h4⟩:=rd_wr C (EC.none_on (P:=P))
 rw[h,h3] at h1
 injection h1 with h1
 rw[← h2,← h4,h1]
theorem fin_c (C:Fld P) (O:Ord N) (hord:∀ r:EC.Pt P,EC.On r→EC.mul N r=none) (hP:NT.IsP N) {Q:Nat→Prop} {c:Nat} {G H:Nat→List (Nat × Bs)} {U l:List (Nat × Bs)} {g h:Nat→OnP P} {u p:OnP P} (hc:0<c) (hcm:c≤64) (hG:Gd N 1 c G g) (hH:Gd N 1 c H h) (hU:Tl N U u) (h0:0<U.length) (h9:U.length≤16) (hl:Tl N l p) (hll:l.length≤13) (a b:Fin N) :
 ∃ l' l'' Y,Y.size=33∧(Y=o33↔p=(ptMd C hord).ad ((ptMd C hord).ad ((ptMd C hord).ac a (g 0)) ((ptMd C hord).ac b (h 0))) ((ptMd C hord).ac (a*b) u))∧(∀ (W:World) (v va vb:Value),GRq Q W v 1 G H U→SLq Q W va 1 (fun _=>a.val)→SLq Q W vb 1 (fun _=>b.val)→Calls Tryz.prog 18 #[v,va,vb] W (Ret fun e w'=>Below W.heap.size W w'∧Sm W.heap.size w' e l')) ∧
  (∀ (W:World) (s sv:Value),Sm 0 W s l'→Sm 0 W sv l→Calls Tryz.prog 63 #[s,sv] W (Ret fun e w'=>Below W.heap.size W w'∧Sm W.heap.size w' e l'')) ∧
  (∀ (W:World) (v:Value),Sm 0 W v l''→Calls Tryz.prog 19 #[v] W (Ret fun e w'=>Below W.heap.size W w'∧e=pvl Y)):=by
 have hk:=gok_of (by decide:0<1) hc (by omega) hG hH hU h0 h9
 obtain ⟨hT,hl'⟩:=hid_tl C hord hG hH hU (d:=U.length) rfl (fun _=>a) (fun _=>b)
 rw[← prS_val] at hT hl'
 have hT2:=hT.app C hord (hl.tm C hord (-1))
 rw[mone hP.1] at hT2
 have hz:=(ptMd C hord).sub_zo ((ptMd C hord).hd (fun _=>a) (fun _=>b) g h u 1) p
 rw[(ptMd C hord).hd_one (fun _=>a) (fun _=>b) g h u] at hz hT2
 refine ⟨_,_,_,wr_size _,(wr_zero C (Subtype.property _)).trans ((Subtype.ext_iff (a2:=(ptMd C hord).zo)).symm.trans hz),fun W v va vb h1 h2 h3=>hideG_c O 1 c G H U hk _ _ (fun i _=>a.isLt) (fun i _=>b.isLt) v va vb W h1 h2 h3,fun W s sv h1 h2=>sumMinus_c O 0 s sv _ l (by rw[hl'];omega) (by rw[hl'];omega) (by omega) hT.ok.sz hl.ok.sz hl.ok.lt W (Nat.zero_le _) h1 h2,fun W v hv=>?_⟩
 exact hT2.point C O hord (by rw[List.length_append,hl'];omega) (by rw[List.length_append,List.length_map,hl'];omega) hv
theorem eqPtY {a b:Bs} (ha:a.size=33) (hb:b.size=33) (w:World):(binOp .eql 61 (pvl a) (pvl b)).run Tryz.prog w=.ok (.bool (decide (a=b))) w:=by
 have h2:(binOp .eql 61 (pvl a) (pvl b)).run Tryz.prog w=(Op.equal 61 (pvl a) (pvl b) >>= fun b=>pure (Value.bool b)).run Tryz.prog w:=rfl
 rw[h2,Sem.run_bind,show (Op.equal 61 (pvl a) (pvl b)).run Tryz.prog w=.ok (decide (a=b)) w from eqCP ha hb w]
 rfl
theorem bslS (n:Nat) (w:World):(Instr.buildSlice 46 1 #[(0,nv n)]).run Tryz.prog w=.ok (.slice (some ⟨w.heap.size,0,none⟩) 1 1) (w.alloc (.cells (wn n).toArray 52)):=by kernel_rfl
theorem slq1 {Q:Nat→Prop} {W:World} {g n:Nat} (hr:Row W g (wn n)) (hQ:Q g):SLq Q W (.slice (some ⟨g,0,none⟩) 1 1) 1 (fun _=>n):=⟨g,0,1,rfl,Nat.le_refl _,hQ,hr.1,fun j hj=>by
 have:j=0:=by omega
 subst this
 exact hr.2.1⟩
theorem right_c (C:Fld P) (O:Ord N) (hord:∀ r:EC.Pt P,EC.On r→EC.mul N r=none) (hP:NT.IsP N) (t:Nat) (ht:t≤6) (Lp Tp:Nat→OnP P) (v0:Md.Vs Bs (OnP P)) (u:OnP P) (G0 H0:Nat→List (Nat × Bs)) (U l0:List (Nat × Bs)) (hG0:Gd N (2^t) 1 G0 v0.g) (hH0:Gd N (2^t) 1 H0 v0.h) (hU:Tl N U u) (hU0:0<U.length) (hU9:U.length≤16) (hl0:Tl N l0 v0.p) (hl1:l0.length=1)
 (Lb Rb:Nat→Bs) (hLb:∀ j,Lb j=wP (Lp j)) (hRb:∀ j,Rb j=wP (Tp j)) (r kl kr:Nat) (a b:Fin N) (vg sv:Value) (w:World) (hL:Holds encB w r 0 v0.s) (hls:v0.s.size=32) (hpl:PtL (·≠r) w kl t Lb) (hpr:PtL (·≠r) w kr t Rb) (hv:GRq (·≠r) w vg (2^t) G0 H0 U) (hs:SmQ (·≠r) w sv l0) (Bd:Bool) (hBd:Bd=true↔(ptMd C hord).vend u a b ((ptMd C hord).vst (chF N) ivF t Lp Tp v0 t)) :
 Calls Tryz.prog 25 #[.agg (inL kl kr t a.val b.val).toArray,lgV r,vg,sv] w (Ret fun e w'=>SP.Only r 0 32 w w'∧e=.bool Bd):=by
 have hr:=Holds.lt hL (by rw[hls];decide)
 obtain ⟨k,hk⟩:∃ k,Hid (w.heap.size=k):=⟨_,rfl⟩
 obtain ⟨e0,he0,hes,hea⟩:=hv.ar
 subst he0
 obtain ⟨w1,hw1⟩:∃ w1,Hid (w.alloc (.cells (inL kl kr t a.val b.val).toArray 76)=w1):=⟨_,rfl⟩
 obtain ⟨w2,hw2⟩:∃ w2,Hid (w1.alloc (.cells #[.pointer (some ⟨r,0,none⟩)] 70)=w2):=⟨_,rfl⟩
 obtain ⟨w3,hw3⟩:∃ w3,Hid (w2.alloc (.cells e0 58)=w3):=⟨_,rfl⟩
 have z1:w1.heap.size=k+1:=by rw[← hw1.out,World.size_alloc,hk.out]
 have z2:w2.heap.size=k+2:=by rw[← hw2.out,World.size_alloc,z1]
 have hrk:r<k:=by rw[← hk.out];exact hr
 have K3:Hid (Lk w w3 r k kl kr t a.val b.val (2^t) (.agg e0) sv Lb Rb v0.s G0 H0 U l0):=by
  have b1:Below w.heap.size w w1:=by rw[← hw1.out];exact below1 _ _
  have b2:Below w1.heap.size w1 w2:=by rw[← hw2.out];exact below1 _ _
  have b3:Below w2.heap.size w2 w3:=by rw[← hw3.out];exact below1 _ _
  have r1:Row w1 k (inL kl kr t a.val b.val):=by rw[← hw1.out,← hk.out];exact row_new w _ _
  have r2:Row w2 (k+1) [.pointer (some ⟨r,0,none⟩)]:=by rw[← hw2.out,← z1];exact row_new w1 _ _
  have r3:Row w3 (k+2) e0.toList:=by rw[← hw3.out,← z2];exact row_new w2 e0.toList 58
  have bb:Below w.heap.size w w3:=(b1.trans (b2.mono b1.size)).trans (b3.mono (Nat.le_trans b1.size b2.size))
  have qq:∀ g,g<w.heap.size→g≠r→QR r k g:=fun g hg hgr=>⟨hgr,Or.inl (by rw[← hk.out];exact hg)⟩
  have kq:∀ {Q:Nat→Prop},Kq Q w w3:=Kq.of_below bb
  have hs':SmQ (QR r k) w sv l0:=by
   obtain ⟨g,c,h1,h2,h3,h4,h5⟩:=hs
   exact ⟨g,c,h1,h2,qq g h4 h3,h4,h5⟩
  exact ⟨SP.Only.of_below bb rfl hr,hrk,hk.out,(r1.below b2).below b3,r2.below b3,⟨e0,rfl,hes,hea,r3⟩,(hpl.mono2 qq).keep kq,(hpr.mono2 qq).keep kq,(hv.mono2 qq).keep kq,hs'.keep kq,Holds.below hL bb hr,hls⟩
 obtain ⟨vI,hvI⟩:∃ v,Hid (Value.agg (inL kl kr t a.val b.val).toArray=v):=⟨_,rfl⟩
 obtain ⟨vl,hvl⟩:∃ v,Hid (lgV r=v):=⟨_,rfl⟩
 obtain ⟨vG,hvG⟩:∃ v,Hid (Value.agg e0=v):=⟨_,rfl⟩
 have B1:Hid ((Instr.box 76 vI).run Tryz.prog w=.ok (.pointer (some ⟨k,0,none⟩)) w1):=by rw[← hvI.out,← hw1.out,← hk.out];exact boxIn kl kr t a.val b.val w
 have B2:Hid ((Instr.box 70 vl).run Tryz.prog w1=.ok (.pointer (some ⟨k+1,0,none⟩)) w2):=by rw[← hvl.out,← hw2.out,← z1];exact boxL r w1
 have B3:Hid ((Instr.box 58 vG).run Tryz.prog w2=.ok (.pointer (some ⟨k+2,0,none⟩)) w3):=by
  obtain ⟨a1,a2,a3,ea⟩:∃ a b c,e0=#[a,b,c]:=by
   obtain ⟨x1,x2,x3,e,-⟩:=hv.ex
   injection e with e
   exact ⟨x1,x2,x3,e⟩
  rw[← hvG.out,← hw3.out,← z2,ea]
  exact boxG a1 a2 a3 w2
 have K4:Hid (∃ v G H l,Gd N (2^(t-0)) (2^0) G ((ptMd C hord).vst (chF N) ivF t Lp Tp v0 0).g∧Gd N (2^(t-0)) (2^0) H ((ptMd C hord).vst (chF N) ivF t Lp Tp v0 0).h∧Tl N l ((ptMd C hord).vst (chF N) ivF t Lp Tp v0 0).p∧l.length=1+2*0∧Lk w w3 r k kl kr t a.val b.val (2^(t-0)) v sv Lb Rb ((ptMd C hord).vst (chF N) ivF t Lp Tp v0 0).s G H U l):=⟨_,G0,H0,l0,hG0,hH0,hl0,hl1,K3.out⟩
 have HLR:Hid ((∀ j,Lb j=wP (Lp j))∧∀ j,Rb j=wP (Tp j)):=⟨hLb,hRb⟩
 have HF:Hid (Fld P∧Ord N∧NT.IsP N∧Tl N U u∧0<U.length∧U.length≤16∧t≤6):=⟨C,O,hP,hU,hU0,hU9,ht⟩
 have HEnd:=Hid.mk' hBd
 have c0:w3.cell? ⟨k,0,none⟩=some (.slice (some ⟨kl,0,none⟩) t t):=K3.out.r0.2.1 0 _ rfl
 rw[hvI.out,hvl.out,hvG.out]
 clear z1 z2 hw1 hw2 hw3 hk hL hls hv hs hpl hpr hG0 hH0 hU hU0 hU9 hes hea hr O hP hvG hvI hl0 hl1 hLb hRb hBd K3
 go_enter Tryz.func25,Tryz.ntmps25
 go_wp2_with (first|(refine wpList_box (u:=vI) (v:=.pointer (some ⟨k,0,none⟩)) (w':=w1) rfl 76 (.tmp 0) rfl ?_ ?_ ?_;rfl;exact B1.out)|(refine wpList_box (u:=vl) (v:=.pointer (some ⟨k+1,0,none⟩)) (w':=w2) rfl 70 (.tmp 1) rfl ?_ ?_ ?_;rfl;exact B2.out)|(refine wpList_box (u:=vG) (v:=.pointer (some ⟨k+2,0,none⟩)) (w':=w3) rfl 58 (.tmp 2) rfl ?_ ?_ ?_;rfl;exact B3.out)|fail)
 clear B1 B2 B3 c0
 go_loopg [3,16] t (fun m s3 s16 W=>∃ i:Nat,i+m=t∧s16=.int .i64 i∧Hid (∃ v G H l,Gd N (2^(t-i)) (2^i) G ((ptMd C hord).vst (chF N) ivF t Lp Tp v0 i).g∧Gd N (2^(t-i)) (2^i) H ((ptMd C hord).vst (chF N) ivF t Lp Tp v0 i).h∧Tl N l ((ptMd C hord).vst (chF N) ivF t Lp Tp v0 i).p∧l.length=1+2*i∧Lk w W r k kl kr t a.val b.val (2^(t-i)) v s3 Lb Rb ((ptMd C hord).vst (chF N) ivF t Lp Tp v0 i).s G H U l))
 case atStart=>exact ⟨0,by omega,rfl,K4⟩
 case round =>
  clear K4
  obtain ⟨i,hik,rfl,KM⟩:=hrel
  by_cases hi:i<t
  ·have hi':(i:Int)<(t:Int):=by omega
   have hi5:(i:Int)≤600:=by omega
   obtain ⟨v,G,H,l,hG,hH,hl,hll,hR⟩:=KM.out
   clear KM
   have HI:=Hid.mk' hi
   obtain ⟨m,hm⟩:∃ m,m=2^(t-(i+1)):=⟨_,rfl⟩
   have hn2:2^(t-i)=m+m:=by rw[hm,show t-i=t-(i+1)+1 by omega,Nat.pow_succ];omega
   have hm0:0<m:=by rw[hm];exact Nat.pow_pos (by decide)
   obtain ⟨c,hc⟩:∃ c,c=2^i:=⟨_,rfl⟩
   have hc0:0<c:=by rw[hc];exact Nat.pow_pos (by decide)
   have hcm:c*(m+m)≤64:=by
    rw[← hn2,hc,← Nat.pow_add,show i+(t-i)=t by omega]
    exact Nat.le_trans (Nat.pow_le_pow_right (by decide) HF.out.2.2.2.2.2.2) (by decide)
   have HE:Hid (2^(t-(i+1))=m∧2^(i+1)=c+c):=⟨hm.symm,by rw[Nat.pow_succ,hc];omega⟩
   rw[hn2,← hc] at hG hH
   rw[hn2] at hR
   have hst:=fun (s:Bs) (x:Fin N)=>vst_step C hord HF.out.2.2.1 t Lp Tp v0 i m hm s x
   obtain ⟨sx,cx,hsc,cCh⟩:=chHalf HF.out.2.1 HF.out.2.2.1 r ((ptMd C hord).vst (chF N) ivF t Lp Tp v0 i).s (Lp i) (Tp i) (Lb i) (Rb i) (HLR.out.1 i) (HLR.out.2 i)
   have hst2:=hst sx cx hsc.out.1
   have HS:=Hid.mk' hst2
   have hsX:(Lb i).size=33:=by rw[HLR.out.1 i];exact wr_size _
   have hsY:(Rb i).size=33:=by rw[HLR.out.2 i];exact wr_size _
   have HXY:=Hid.mk' (And.intro hsX hsY)
   clear hst hst2 hsX hsY hn2 hm hc
   generalize hVi:(ptMd C hord).vst (chF N) ivF t Lp Tp v0 i=Vi at hG hH hl hR hsc cCh HS
   have HG:=Hid.mk' (And.intro hG (And.intro hH (And.intro hl (And.intro hll (And.intro hm0 (And.intro hc0 hcm))))))
   clear hG hH hl hll hm0 hc0 hcm hVi
   have HR:=Hid.mk' hR
   clear hR
   go_wp2_with fail
   have R0:=HR.out.drew
   have rdA:=fun (W:World) (hO:SP.Only r 0 32 wr.drew W)=>R0.rd hO HI.out
   have O0:SP.Only r 0 32 wr.drew wr.drew:=SP.Only.of_below (Below.refl _ _) rfl (Holds.lt R0.lg (by rw[R0.ls];decide))
   obtain ⟨dL,hdL1,hdL2⟩:=Option.map_eq_some_iff.1 uLg
   obtain ⟨dP,hdP1,hdP2⟩:=Option.map_eq_some_iff.1 uCP
   have iXX:(Tryz.prog.info? 61).map (·.size)=some (bl33 (Lb i)).length:=by rw[bl33_length HXY.out.1];exact iCP
   have iYY:(Tryz.prog.info? 61).map (·.size)=some (bl33 (Rb i)).length:=by rw[bl33_length HXY.out.2];exact iCP
   refine anyS.begin (fun _ W=>SP.Only r 0 32 wr.drew W) (by kernel_rfl) ?_
   have bS:∀ (p:Nat),Bef (fun _ W=>SP.Only r 0 32 wr.drew W) p wr.drew:=fun p=>⟨#[],by simp,O0⟩
   refine anyS.row (i:=0) (d:=some 19) (cs:=[.pointer (some ⟨r,0,none⟩)]) rfl 13 (fun _ _ h=>h) 70 5 (k+1) 0 dL rfl hdL1 hdL2 iLg (fun W ⟨l,e,h⟩=>(rdA W h).1) (bS 13) O0 ?_
   simp only[Act.put,List.setIfInBounds_toArray,List.set_cons_succ,List.set_cons_zero]
   refine anyS.val (i:=1) (d:=some 20) (x:=.pointer (some ⟨k,0,none⟩)) rfl 13 (fun _ _ h=>h) (bS 13) O0 ?_
   simp only[Act.put,List.setIfInBounds_toArray,List.set_cons_succ,List.set_cons_zero]
   refine anyS.cel (i:=2) (d:=some 21) (x:=.slice (some ⟨kl,0,none⟩) t t) rfl 13 (fun _ _ h=>h) 74 20 k 0 rfl uPL (fun W ⟨l,e,h⟩=>(rdA W h).2.1) (bS 13) O0 ?_
   simp only[Act.put,List.setIfInBounds_toArray,List.set_cons_succ,List.set_cons_zero]
   refine anyS.val (i:=3) (d:=some 22) (x:=.int .i64 i) rfl 13 (fun _ _ h=>h) (bS 13) O0 ?_
   simp only[Act.put,List.setIfInBounds_toArray,List.set_cons_succ,List.set_cons_zero]
   refine anyS.val (i:=4) (d:=some 23) (x:=.pointer (some ⟨kl,0+33*i,none⟩)) rfl 13 (fun _ _ h=>h) (bS 13) O0 ?_ (fun W=>ix_run (I:=Instr.indexAt 74 (.slice (some ⟨kl,0,none⟩) t t) (.int .i64 i)) (atP kl 0 t t i HI.out W))
   simp only[Act.put,List.setIfInBounds_toArray,List.set_cons_succ,List.set_cons_zero]
   refine anyS.row (i:=5) (d:=some 24) (cs:=bl33 (Lb i)) rfl 13 (fun _ _ h=>h) 61 23 kl (0+33*i) dP rfl hdP1 hdP2 iXX (fun W ⟨l,e,h⟩=>(rdA W h).2.2.2.1) (bS 13) O0 ?_
   simp only[Act.put,List.setIfInBounds_toArray,List.set_cons_succ,List.set_cons_zero]
   refine anyS.val (i:=6) (d:=some 25) (x:=.pointer (some ⟨k,1,none⟩)) rfl 13 (fun _ _ h=>h) (bS 13) O0 ?_
   simp only[Act.put,List.setIfInBounds_toArray,List.set_cons_succ,List.set_cons_zero]
   refine anyS.cel (i:=7) (d:=some 26) (x:=.slice (some ⟨kr,0,none⟩) t t) rfl 13 (fun _ _ h=>h) 74 25 k 1 rfl uPL (fun W ⟨l,e,h⟩=>(rdA W h).2.2.1) (bS 13) O0 ?_
   simp only[Act.put,List.setIfInBounds_toArray,List.set_cons_succ,List.set_cons_zero]
   refine anyS.val (i:=8) (d:=some 27) (x:=.int .i64 i) rfl 13 (fun _ _ h=>h) (bS 13) O0 ?_
   simp only[Act.put,List.setIfInBounds_toArray,List.set_cons_succ,List.set_cons_zero]
   refine anyS.val (i:=9) (d:=some 28) (x:=.pointer (some ⟨kr,0+33*i,none⟩)) rfl 13 (fun _ _ h=>h) (bS 13) O0 ?_ (fun W=>ix_run (I:=Instr.indexAt 74 (.slice (some ⟨kr,0,none⟩) t t) (.int .i64 i)) (atP kr 0 t t i HI.out W))
   simp only[Act.put,List.setIfInBounds_toArray,List.set_cons_succ,List.set_cons_zero]
   refine anyS.row (i:=10) (d:=some 29) (cs:=bl33 (Rb i)) rfl 13 (fun _ _ h=>h) 61 28 kr (0+33*i) dP rfl hdP1 hdP2 iYY (fun W ⟨l,e,h⟩=>(rdA W h).2.2.2.2) (bS 13) O0 ?_
   simp only[Act.put,List.setIfInBounds_toArray,List.set_cons_succ,List.set_cons_zero]
   clear bS
   have hrW:r<wr.drew.heap.size:=Holds.lt R0.lg (by rw[R0.ls];decide)
   have bA:=below1 wr.drew (.cells #[.int .u64 0,.int .u64 0,.int .u64 0,.int .u64 0] 52)
   have oA:SP.Only r 0 32 wr.drew (wr.drew.alloc (.cells #[.int .u64 0,.int .u64 0,.int .u64 0,.int .u64 0] 52)):=SP.Only.of_below bA rfl hrW
   refine anyS.calal (i:=11) (j:=12) (di:=30) (dj:=10) (obj:=.cells #[.int .u64 0,.int .u64 0,.int .u64 0,.int .u64 0] 52) (F:=fun v b W'=>v=nv cx.val∧SP.Only r 0 32 wr.drew W'∧Holds encB W' r 0 sx∧wr.drew.heap.size≤b∧Row W' b [.int .u64 0,.int .u64 0,.int .u64 0,.int .u64 0]) rfl rfl (cCh.out wr.drew R0.lg R0.ls) (cCh.out _ (Holds.below R0.lg bA hrW) R0.ls) oA ?_ ?_ (by intro _ _;kernel_rfl) ?_
   ·rintro v W' ⟨hO,hH,rfl⟩
    have bb:=below1 W' (.cells #[.int .u64 0,.int .u64 0,.int .u64 0,.int .u64 0] 52)
    have hr':r<W'.heap.size:=Nat.lt_of_lt_of_le hrW hO.size
    exact ⟨hO,hO.trans (SP.Only.of_below bb rfl hr'),rfl,hO.trans (SP.Only.of_below bb rfl hr'),Holds.below hH bb hr',hO.size,row_new W' _ _⟩
   ·rintro v W' ⟨hO,hH,rfl⟩
    exact ⟨oA.trans hO,rfl,oA.trans hO,hH,Nat.le_refl _,(row_new wr.drew [.int .u64 0,.int .u64 0,.int .u64 0,.int .u64 0] 52).only hO (Nat.ne_of_gt hrW)⟩
   ·rintro xv b10 W4 ⟨rfl,hO4,hH4,hb4,hr4⟩
    simp only[Act.put,List.setIfInBounds_toArray,List.set_cons_succ,List.set_cons_zero]
    have hO5:SP.Only r 0 32 wr.drew (W4.setCells b10 0 (wn cx.val)):=only_setCells hO4 hrW hb4 0
    refine anyS.sta (i:=13) (d:=none) rfl 52 (.tmp 10) (.tmp 30) rfl b10 0 (wn cx.val).toArray (wn_one _) hr4.2.2 nSc hO5 ?_
    simp only[Act.put,List.setIfInBounds_toArray,List.set_cons_succ,List.set_cons_zero]
    refine anyS.fin (by kernel_rfl) ?_ _
    intro W5 hW5
    have hW5':W5=W4.setCells b10 0 (wn cx.val):=hW5
    have R5:Lk w W5 r k kl kr t a.val b.val (m+m) v u3 Lb Rb sx G H U l:=by rw[hW5'];exact R0.say hO5 (holds_set hH4 (by omega)) hsc.out.2
    have r5:Row W5 b10 (wn cx.val):=by rw[hW5'];exact hr4.put rfl
    obtain ⟨x,hxe⟩:∃ x,Hid (cx.val=x):=⟨_,rfl⟩
    obtain ⟨xq,hxqe⟩:∃ x,Hid ((cx*cx).val=x):=⟨_,rfl⟩
    obtain ⟨xi,hxie⟩:∃ x,Hid ((ivF (cx*cx)).val=x):=⟨_,rfl⟩
    have hTm:Hid (∀ W:World,Calls Tryz.prog 61 #[nv x,nv x] W (Ret fun e w'=>Below W.heap.size W w'∧e=nv xq)):=by
     rw[← hxe.out,← hxqe.out]
     exact fun W=>sTim_c HF.out.2.1 cx.val cx.val cx.isLt cx.isLt W
    have hIn:Hid (∀ W:World,Calls Tryz.prog 54 #[nv xq] W (Ret fun e w'=>Below W.heap.size W w'∧e=nv xi)):=by
     rw[← hxqe.out,← hxie.out]
     exact fun W=>sInv2_c HF.out.2.1 (cx*cx).val (cx*cx).isLt W
    rw[hxe.out] at r5
    rw[hxe.out]
    have K5:=Hid.mk' (And.intro R5 r5)
    clear R5 r5 hW5' hW5 hO5 hO4 hH4 hb4 hr4 R0 rdA O0 oA bA hrW HR cCh
    obtain ⟨vx,hvx⟩:∃ v,Hid (nv x=v):=⟨_,rfl⟩
    have hTm':Hid (∀ W:World,Calls Tryz.prog 61 #[vx,vx] W (Ret fun e w'=>Below W.heap.size W w'∧e=nv xq)):=by rw[← hvx.out];exact hTm.out
    obtain ⟨dS,hdS1,hdS2⟩:=Option.map_eq_some_iff.1 rSc
    have HDS:Hid (Tryz.prog.underlying 52=some dS∧dS.isRow=true):=⟨hdS1,hdS2⟩
    rw[hvx.out]
    clear hTm hdS1 hdS2
    go_wp2_with (first|(refine wpList_load_mid rfl 52 (.tmp 10) rfl b10 0 ?_ (wn x) dS ?_ ?_ ?_ ?_ ?_;rfl;exact K5.out.2.2.1;exact HDS.out.1;exact HDS.out.2;exact nSc;rw[show Value.agg (wn x).toArray=vx from hvx.out])|fail)
    refine (hTm'.out W5).mono ?_
    rintro e W6 ⟨uu,rfl,hb6,rfl⟩
    obtain ⟨b11,hb11⟩:∃ b,Hid (W6.heap.size=b):=⟨_,rfl⟩
    obtain ⟨W7,hW7⟩:∃ W,Hid (W6.alloc (.cells #[.int .u64 0,.int .u64 0,.int .u64 0,.int .u64 0] 52)=W):=⟨_,rfl⟩
    obtain ⟨W8,hW8⟩:∃ W,Hid (W7.setCells b11 0 (wn xq)=W):=⟨_,rfl⟩
    have F7:Hid (Row W7 b11 [.int .u64 0,.int .u64 0,.int .u64 0,.int .u64 0]∧Below W6.heap.size W6 W7):=by rw[← hW7.out,← hb11.out];exact ⟨row_new W6 _ _,below1 _ _⟩
    have b58:Below W5.heap.size W5 W8:=by
     have:Below W6.heap.size W6 W8:=by rw[← hW8.out];exact RG.below_setCells (by rw[hb11.out];exact Nat.le_refl _) _ _ _ F7.out.2
     exact hb6.trans (this.mono hb6.size)
    have K8:Hid (Lk w W8 r k kl kr t a.val b.val (m+m) v u3 Lb Rb sx G H U l∧Row W8 b10 (wn x)∧Row W8 b11 (wn xq)):=⟨K5.out.1.grow b58,K5.out.2.below b58,by rw[← hW8.out];exact F7.out.1.put rfl⟩
    obtain ⟨vq,hvq⟩:∃ v,Hid (nv xq=v):=⟨_,rfl⟩
    rw[hvq.out]
    clear b58 hb6 K5 hTm'
    go_wp2_with (first|(refine wpList_al (v:=.pointer (some ⟨b11,0,none⟩)) (w':=W7) rfl 52 11 rfl rfl ?_ ?_;(rw[← hW7.out,← hb11.out];kernel_rfl))|(refine wpList_store_mid rfl 52 (.tmp 11) _ rfl b11 0 (wn xq).toArray ?_ ?_ ?_ ?_ ?_ ?_;rfl;exact hvq.out.symm;exact F7.out.1.2.2;exact nSc;exact wn_one xq;rw[show (wn xq).toArray.toList=wn xq from rfl,hW8.out])|fail)
    clear F7 hW7 hW8 hb11
    simp only[Act.put,List.setIfInBounds_toArray,List.set_cons_succ,List.set_cons_zero]
    have qn8:∀ (W:World),Below W8.heap.size W8 W→∀ g,W.heap.size≤g→QR r k g:=fun W hB g hg=>K8.out.1.qn g (Nat.le_trans hB.size hg)
    have o8:∀ (W:World),Below W8.heap.size W8 W→SP.Only r 0 32 W8 W:=fun W hB=>SP.Only.of_below hB rfl (Holds.lt K8.out.1.lg (by rw[K8.out.1.ls];decide))
    have rd8:=Hid.mk' (fun (W:World) (hB:Below W8.heap.size W8 W)=>K8.out.1.rd (o8 W hB) HI.out)
    have HQ8:=Hid.mk' qn8
    have tk:TOk N l:=HG.out.2.2.1.ok
    have tk1:TOk N [(xq,Lb i)]:=by rw[← hxqe.out,HLR.out.1 i];exact (Tl.pt C hord (cx*cx) (Lp i)).ok
    have tk2:TOk N [(xi,Rb i)]:=by rw[← hxie.out,HLR.out.2 i];exact (Tl.pt C hord (ivF (cx*cx)) (Tp i)).ok
    have hl13:l.length≤13:=by have:=HG.out.2.2.2.1;have:=HF.out.2.2.2.2.2.2;have:=HI.out;omega
    have hl0:0<l.length:=by have:=HG.out.2.2.2.1;omega
    have cTa:=Hid.mk' (fun W=>ptTimes_c (Lb i) HXY.out.1 xq W)
    have cTb:=Hid.mk' (fun W=>ptTimes_c (Rb i) HXY.out.2 xi W)
    have cPa:=Hid.mk' (fun (s1 s2:Value) (W:World) (h1:Sm 0 W s1 l) (h2:Sm 0 W s2 [(xq,Lb i)])=>sumPlus_c 0 s1 s2 l [(xq,Lb i)] hl0 (by omega) (by simp) tk.sz tk1.sz W h1 h2)
    have cPb:=Hid.mk' (fun (s1 s2:Value) (W:World) (h1:Sm 0 W s1 (l++[(xq,Lb i)])) (h2:Sm 0 W s2 [(xi,Rb i)])=>sumPlus_c 0 s1 s2 (l++[(xq,Lb i)]) [(xi,Rb i)] (by simp) (by simp;omega) (by simp) (tk.app tk1).sz tk2.sz W h1 h2)
    clear qn8 o8 tk tk1 tk2 hl13 hl0
    rw[← hvq.out]
    refine (RG.gwL [RG.pE u3,RG.pE (.pointer (some ⟨k,0,none⟩)),RG.pE (.slice (some ⟨kl,0,none⟩) t t),RG.pE (.int .i64 i),RG.pE (.pointer (some ⟨kl,0+33*i,none⟩)),RG.pE (pvl (Lb i)),RG.pE (nv xq),RG.pM (QR r k) [(xq,Lb i)],RG.pM (QR r k) (l++[(xq,Lb i)]),RG.pE (.pointer (some ⟨k,1,none⟩)),RG.pE (.slice (some ⟨kr,0,none⟩) t t),RG.pE (.int .i64 i),RG.pE (.pointer (some ⟨kr,0+33*i,none⟩)),RG.pE (pvl (Rb i)),RG.pE (nv xq),RG.pE (nv xi),RG.pM (QR r k) [(xi,Rb i)],RG.pM (QR r k) (l++[(xq,Lb i)]++[(xi,Rb i)])] (fun W=>Below W8.heap.size W8 W) (fun W W' hb h=>h.trans (hb.mono h.size))).tail2 18 (by kernel_rfl) (by kernel_rfl) (by kernel_rfl) ⟨
     RG.gw_o 3 u3 u3 (by kernel_rfl) (fun _=>rfl),
     RG.gw_o 4 (.pointer (some ⟨k,0,none⟩)) (.pointer (some ⟨k,0,none⟩)) (by kernel_rfl) (fun _=>rfl),
     RG.gw_l1 74 1 35 k 0 (.slice (some ⟨kl,0,none⟩) t t) uPL (fun x W h=>h) (fun W hB=>(rd8.out W hB).2.1) (fun _=>rfl),
     RG.gw_o 9 (.int .i64 i) (.int .i64 i) (by kernel_rfl) (fun _=>rfl),
     RG.gw_x 2 36 3 37 (.slice (some ⟨kl,0,none⟩) t t) (.int .i64 i) (.pointer (some ⟨kl,0+33*i,none⟩)) (Instr.indexAt 74 (.slice (some ⟨kl,0,none⟩) t t) (.int .i64 i)) (atP kl 0 t t i HI.out) (fun x W h=>h) (fun x W h=>h) (fun _=>rfl),
     RG.gw_lr 61 4 38 kl (0+33*i) (bl33 (Lb i)) uCP iXX (fun x W h=>h) (fun W hB=>(rd8.out W hB).2.2.2.1) (fun _=>rfl),
     RG.gw_lo 52 11 b11 0 (wn xq) rSc nSc (by kernel_rfl) (fun W hB=>RG.range_below K8.out.2.2.2.1 hB K8.out.2.2.1) (fun _=>rfl),
     RG.gw_c2 5 39 6 40 62 (fun x y=>#[x,y]) (fun z y W hx hy hB=>by
      obtain rfl:z=pvl (Lb i):=hx
      obtain rfl:y=nv xq:=hy
      refine (cTa.out W).mono ?_
      rintro e W' ⟨uu,rfl,hb,g,rfl,hg,hrow⟩
      exact ⟨_,rfl,hb,smq_one hrow (HQ8.out W hB g hg)⟩),
     RG.gw_c2 0 34 7 41 46 (fun x y=>#[x,y]) (fun z y W hx hy hB=>by
      obtain rfl:z=u3:=hx
      have hy:SmQ (QR r k) W y [(xq,Lb i)]:=hy
      refine (cPa.out z y W ((K8.out.1.grow hB).sm.sm) hy.sm).mono ?_
      rintro e W' ⟨uu,rfl,hb,hs⟩
      exact ⟨_,rfl,hb,hs.q.mono fun g hg=>HQ8.out W hB g hg⟩),
     RG.gw_o 4 (.pointer (some ⟨k,0,none⟩)) (.pointer (some ⟨k,1,none⟩)) (by kernel_rfl) (fun _=>rfl),
     RG.gw_l1 74 9 43 k 1 (.slice (some ⟨kr,0,none⟩) t t) uPL (fun x W h=>h) (fun W hB=>(rd8.out W hB).2.2.1) (fun _=>rfl),
     RG.gw_o 9 (.int .i64 i) (.int .i64 i) (by kernel_rfl) (fun _=>rfl),
     RG.gw_x 10 44 11 45 (.slice (some ⟨kr,0,none⟩) t t) (.int .i64 i) (.pointer (some ⟨kr,0+33*i,none⟩)) (Instr.indexAt 74 (.slice (some ⟨kr,0,none⟩) t t) (.int .i64 i)) (atP kr 0 t t i HI.out) (fun x W h=>h) (fun x W h=>h) (fun _=>rfl),
     RG.gw_lr 61 12 46 kr (0+33*i) (bl33 (Rb i)) uCP iYY (fun x W h=>h) (fun W hB=>(rd8.out W hB).2.2.2.2) (fun _=>rfl),
     RG.gw_lo 52 11 b11 0 (wn xq) rSc nSc (by kernel_rfl) (fun W hB=>RG.range_below K8.out.2.2.2.1 hB K8.out.2.2.1) (fun _=>rfl),
     RG.gw_c1 14 48 54 (fun x=>#[x]) (fun z W hx hB=>by
      obtain rfl:z=nv xq:=hx
      exact hIn.out W),
     RG.gw_c2 13 47 15 49 62 (fun x y=>#[x,y]) (fun z y W hx hy hB=>by
      obtain rfl:z=pvl (Rb i):=hx
      obtain rfl:y=nv xi:=hy
      refine (cTb.out W).mono ?_
      rintro e W' ⟨uu,rfl,hb,g,rfl,hg,hrow⟩
      exact ⟨_,rfl,hb,smq_one hrow (HQ8.out W hB g hg)⟩),
     RG.gw_c2 8 42 16 50 46 (fun x y=>#[x,y]) (fun z y W hx hy hB=>by
      have hx:SmQ (QR r k) W z (l++[(xq,Lb i)]):=hx
      have hy:SmQ (QR r k) W y [(xi,Rb i)]:=hy
      refine (cPb.out z y W hx.sm hy.sm).mono ?_
      rintro e W' ⟨uu,rfl,hb,hs⟩
      exact ⟨_,rfl,hb,hs.q.mono fun g hg=>HQ8.out W hB g hg⟩),trivial⟩ (Below.refl _ _).drew ?_
    intro V W9 hR9 hB9
    have hV17:SmQ (QR r k) W9 (V 17) (l++[(xq,Lb i)]++[(xi,Rb i)]):=hR9 17 (by decide)
    have K9:Hid (Lk w W9 r k kl kr t a.val b.val (m+m) v (V 17) Lb Rb sx G H U (l++[(xq,Lb i)]++[(xi,Rb i)])∧Row W9 b10 (wn x)):=⟨(K8.out.1.grow hB9).hide hV17,K8.out.2.1.below hB9⟩
    dsimp only[RG.putV,Nat.reduceAdd,List.take,List.drop]
    simp only[Act.put,List.setIfInBounds_toArray,List.set_cons_succ,List.set_cons_zero]
    generalize V 17=s17 at K9 ⊢
    clear hV17 hR9 hB9 K8 rd8 HQ8 cTa cTb cPa cPb
    generalize V 0=y0
    generalize V 1=y1
    generalize V 2=y2
    generalize V 3=y3
    generalize V 4=y4
    generalize V 5=y5
    generalize V 6=y6
    generalize V 7=y7
    generalize V 8=y8
    generalize V 9=y9
    generalize V 10=ya
    generalize V 11=yb
    generalize V 12=yc
    generalize V 13=yd
    generalize V 14=ye
    generalize V 15=yf
    generalize V 16=yg
    clear V
    obtain ⟨ev,hev,hevs,heva,hevr⟩:=K9.out.1.r2
    have hgk:GOk N (m+m) c G H U:=gok_of (by have:=HG.out.2.2.2.2.1;omega) HG.out.2.2.2.2.2.1 HG.out.2.2.2.2.2.2 HG.out.1 HG.out.2.1 HF.out.2.2.2.1 HF.out.2.2.2.2.1 HF.out.2.2.2.2.2.1
    obtain ⟨xo,hxoe⟩:∃ x,Hid ((ivF cx).val=x):=⟨_,rfl⟩
    have hxN:x<N:=by rw[← hxe.out];exact cx.isLt
    have hsI:sIn N x=xo:=by rw[← hxe.out,← hxoe.out];rfl
    have cFo:=foldG_c HF.out.2.1 m c HG.out.2.2.2.2.1 G H U hgk x hxN v W9 K9.out.1.qn K9.out.1.gr
    rw[hsI] at cFo
    obtain ⟨yv,hyv⟩:∃ y,Hid (v=y):=⟨_,rfl⟩
    have HEV:Hid (Value.agg ev.toList.toArray=yv∧Row W9 (k+2) ev.toList∧(Tryz.prog.info? 58).map (·.size)=some ev.toList.length∧ev.size=3):=⟨hev.symm.trans hyv.out,hevr,by rw[Array.length_toList,hevs];exact iGr,hevs⟩
    rw[hyv.out,hvx.out] at cFo
    have HCF:=Hid.mk' cFo
    obtain ⟨dG,hdG1,hdG2⟩:=Option.map_eq_some_iff.1 uGr
    have HDG:Hid (Tryz.prog.underlying 58=some dG∧dG.isRow=true):=⟨hdG1,hdG2⟩
    clear hev hevs heva hevr hgk hxN hsI cFo hdG1 hdG2
    go_wp2_with (first|(refine wpList_load_mid rfl 58 (.tmp 6) rfl (k+2) 0 ?_ ev.toList dG ?_ ?_ ?_ ?_ ?_;rfl;exact HEV.out.2.1.2.1;exact HDG.out.1;exact HDG.out.2;exact HEV.out.2.2.1;rw[HEV.out.1])|(refine wpList_load_mid rfl 52 (.tmp 10) rfl b10 0 ?_ (wn x) dS ?_ ?_ ?_ ?_ ?_;rfl;exact K9.out.2.2.1;exact HDS.out.1;exact HDS.out.2;exact nSc;rw[show Value.agg (wn x).toArray=vx from hvx.out])|fail)
    refine HCF.out.mono ?_
    rintro e Wa ⟨vf,rfl,hba,hga⟩
    obtain ⟨ef,hef,hefs,hefa⟩:=hga.ar
    subst hef
    have La:=(K9.out.1.grow hba).next hga hefs hefa
    obtain ⟨Wb,hWb⟩:∃ W,Hid (Wa.setCells (k+2) 0 ef.toList=W):=⟨_,rfl⟩
    rw[hWb.out] at La
    have HTo:Hid (Wa.there (k+2) 0 ef.size∧(Tryz.prog.info? 58).map (·.size)=some ef.size∧ef.all (·.oneCell')=true):=by
     refine ⟨?_,by rw[hefs];exact iGr,hefa⟩
     rw[hefs]
     have:=(HEV.out.2.1.below hba).2.2
     rw[Array.length_toList,HEV.out.2.2.2] at this
     exact this
    have KEND:Hid (∃ v G H l,Gd N (2^(t-(i+1))) (2^(i+1)) G ((ptMd C hord).vst (chF N) ivF t Lp Tp v0 (i+1)).g∧Gd N (2^(t-(i+1))) (2^(i+1)) H ((ptMd C hord).vst (chF N) ivF t Lp Tp v0 (i+1)).h∧Tl N l ((ptMd C hord).vst (chF N) ivF t Lp Tp v0 (i+1)).p∧l.length=1+2*(i+1)∧Lk w Wb r k kl kr t a.val b.val (2^(t-(i+1))) v s17 Lb Rb ((ptMd C hord).vst (chF N) ivF t Lp Tp v0 (i+1)).s G H U l):=by
     show ∃ v G H l,_
     rw[HS.out,HE.out.1,HE.out.2]
     have g1:=HG.out.1.fold C hord (ivF cx) cx
     have g2:=HG.out.2.1.fold C hord cx (ivF cx)
     rw[hxe.out,hxoe.out] at g1 g2
     have tl:=(HG.out.2.2.1.app C hord (Tl.pt C hord (cx*cx) (Lp i))).app C hord (Tl.pt C hord (ivF (cx*cx)) (Tp i))
     rw[hxqe.out,hxie.out] at tl
     have tl':Tl N (l++[(xq,Lb i)]++[(xi,Rb i)]) ((ptMd C hord).ad ((ptMd C hord).ad Vi.p ((ptMd C hord).ac (cx*cx) (Lp i))) ((ptMd C hord).ac (ivF (cx*cx)) (Tp i))):=by rw[HLR.out.1 i,HLR.out.2 i];exact tl
     exact ⟨_,_,_,_,g1,g2,tl',by have:=HG.out.2.2.2.1;simp;omega,La⟩
    obtain ⟨vo,hvo⟩:∃ v,Hid (Value.agg ef=v):=⟨_,rfl⟩
    rw[hvo.out]
    clear hba hga hefs hefa La HCF HEV K9
    go_wp2_with (first|(refine wpList_store_mid rfl 58 (.tmp 6) _ rfl (k+2) 0 ef ?_ ?_ ?_ ?_ ?_ ?_;rfl;exact hvo.out.symm;exact HTo.out.1;exact HTo.out.2.1;exact HTo.out.2.2;rw[hWb.out])|fail)
    go_roundg (gk-1)
    case measure=>have:=HI.out;omega
    case rel=>exact ⟨i+1,by have:=HI.out;omega,rfl,KEND⟩
  ·have hi':¬ (i:Int)<(t:Int):=by omega
   have hit:i=t:=by omega
   obtain ⟨v,G,H,l,hG,hH,hl,hll,hR⟩:=KM.out
   clear KM
   subst hit
   rw[Nat.sub_self,Nat.pow_zero] at hG hH hR
   have hc0:0<2^i:=Nat.pow_pos (by decide)
   have hc64:2^i≤64:=Nat.le_trans (Nat.pow_le_pow_right (by decide) HF.out.2.2.2.2.2.2) (by decide)
   obtain ⟨l1,l2,Y,hYs,hYe,cH,cM,cP⟩:=fin_c (Q:=QR r k) C HF.out.2.1 hord HF.out.2.2.1 hc0 hc64 hG hH HF.out.2.2.2.1 HF.out.2.2.2.2.1 HF.out.2.2.2.2.2.1 hl (by have:=HF.out.2.2.2.2.2.2;omega) a b
   have hYB:decide (Y=o33)=Bd:=by
    have h2:=hYe.trans HEnd.out.symm
    cases Bd with
    | true=>exact decide_eq_true (h2.2 rfl)
    | false=>exact decide_eq_false fun h=>Bool.false_ne_true (h2.1 h)
   obtain ⟨ev,hev,hevs,heva,hevr⟩:=hR.r2
   obtain ⟨g1,hg1⟩:∃ g,Hid (wr.heap.size=g):=⟨_,rfl⟩
   obtain ⟨W1,hW1⟩:∃ W,Hid (wr.alloc (.cells (wn a.val).toArray 52)=W):=⟨_,rfl⟩
   obtain ⟨g2,hg2⟩:∃ g,Hid (W1.heap.size=g):=⟨_,rfl⟩
   obtain ⟨W2,hW2⟩:∃ W,Hid (W1.alloc (.cells (wn b.val).toArray 52)=W):=⟨_,rfl⟩
   have b1:Below wr.heap.size wr W1:=by rw[← hW1.out];exact below1 _ _
   have b2:Below W1.heap.size W1 W2:=by rw[← hW2.out];exact below1 _ _
   have r1:Row W1 g1 (wn a.val):=by rw[← hW1.out,← hg1.out];exact row_new wr _ _
   have r2:Row W2 g2 (wn b.val):=by rw[← hW2.out,← hg2.out];exact row_new W1 _ _
   have L1:=hR.grow b1
   have L2:=L1.grow b2
   have q1:QR r k g1:=by rw[← hg1.out];exact hR.qn _ (Nat.le_refl _)
   have q2:QR r k g2:=by rw[← hg2.out];exact L1.qn _ (Nat.le_refl _)
   have cH2:=cH W2 v _ _ L2.gr (slq1 (r1.below b2) q1) (slq1 r2 q2)
   obtain ⟨yv,hyv⟩:∃ y,Hid (v=y):=⟨_,rfl⟩
   obtain ⟨va,hva⟩:∃ y,Hid (nv a.val=y):=⟨_,rfl⟩
   obtain ⟨vb,hvb⟩:∃ y,Hid (nv b.val=y):=⟨_,rfl⟩
   rw[hyv.out] at cH2
   have ra:∀ {W:World},Row W k (inL kl kr i a.val b.val)→W.rangeAt k 2 (wn a.val)∧W.rangeAt k 6 (wn b.val):=fun hW=>⟨fun j z hz=>by
    have:=hW.2.1 (2+j) z (by
     have hj:j<4:=(List.getElem?_eq_some_iff.1 hz).1
     match j,hj with
     | 0,_=>exact hz
     | 1,_=>exact hz
     | 2,_=>exact hz
     | 3,_=>exact hz
     | j+4,h=>omega)
    rw[Nat.zero_add] at this
    exact this,fun j z hz=>by
    have:=hW.2.1 (6+j) z (by
     have hj:j<4:=(List.getElem?_eq_some_iff.1 hz).1
     match j,hj with
     | 0,_=>exact hz
     | 1,_=>exact hz
     | 2,_=>exact hz
     | 3,_=>exact hz
     | j+4,h=>omega)
    rw[Nat.zero_add] at this
    exact this⟩
   have S1:Hid ((Instr.buildSlice 46 1 #[(0,va)]).run Tryz.prog wr=.ok (.slice (some ⟨g1,0,none⟩) 1 1) W1):=by rw[← hva.out,← hg1.out,← hW1.out];exact bslS a.val wr
   have S2:Hid ((Instr.buildSlice 46 1 #[(0,vb)]).run Tryz.prog W1=.ok (.slice (some ⟨g2,0,none⟩) 1 1) W2):=by rw[← hvb.out,← hg2.out,← hW2.out];exact bslS b.val W1
   have HRA:Hid (wr.rangeAt k 2 (wn a.val)∧W1.rangeAt k 6 (wn b.val)∧wr.rangeAt (k+2) 0 ev.toList):=⟨(ra hR.r0).1,(ra L1.r0).2,hevr.2.1⟩
   have HEV:Hid (Value.agg ev.toList.toArray=yv∧(Tryz.prog.info? 58).map (·.size)=some ev.toList.length):=⟨hev.symm.trans hyv.out,by rw[Array.length_toList,hevs];exact iGr⟩
   obtain ⟨dG,hdG1,hdG2⟩:=Option.map_eq_some_iff.1 uGr
   obtain ⟨dS,hdS1,hdS2⟩:=Option.map_eq_some_iff.1 rSc
   have HD:Hid ((Tryz.prog.underlying 58=some dG∧dG.isRow=true)∧Tryz.prog.underlying 52=some dS∧dS.isRow=true):=⟨⟨hdG1,hdG2⟩,hdS1,hdS2⟩
   have HCH:=Hid.mk' cH2
   have HCM:=Hid.mk' (And.intro cM cP)
   have KL2:=Hid.mk' L2
   obtain ⟨vz,hvz⟩:∃ y,Hid (Value.agg z33.toArray=y):=⟨_,rfl⟩
   obtain ⟨vy,hvy⟩:∃ y,Hid (pvl Y=y):=⟨_,rfl⟩
   rw[hvy.out] at HCM
   have HZ:Hid (∀ W,(binOp .eql 61 vy vz).run Tryz.prog W=.ok (.bool Bd) W∧(Instr.build 61 #[]).run Tryz.prog W=.ok vz W∧(eqGuard .eql 61 (.tmp 67) (.tmp 68) vy vz).run Tryz.prog W=.ok () W):=by
    rw[← hvz.out,← hvy.out,← hYB]
    exact fun W=>⟨by rw[o33_pvl];exact eqPtY hYs rfl W,bldCP W,by unfold pvl;kernel_rfl⟩
   clear hG hH hl hll hR cH cM cP hev hevs heva hevr b1 b2 r1 r2 L1 L2 q1 q2 cH2 ra hdG1 hdG2 hdS1 hdS2 hg1 hg2 hW1 hW2 hc0 hc64 hYs hYe hYB
   go_wp2_with (first|(refine wpList_load_mid rfl 58 (.tmp 6) rfl (k+2) 0 ?_ ev.toList dG ?_ ?_ ?_ ?_ ?_;rfl;exact HRA.out.2.2;exact HD.out.1.1;exact HD.out.1.2;exact HEV.out.2;rw[HEV.out.1])|(refine wpList_load_mid rfl 52 (.tmp 57) rfl k 2 ?_ (wn a.val) dS ?_ ?_ ?_ ?_ ?_;rfl;exact HRA.out.1;exact HD.out.2.1;exact HD.out.2.2;exact nSc;rw[show Value.agg (wn a.val).toArray=va from hva.out])|(refine wpList_load_mid rfl 52 (.tmp 60) rfl k 6 ?_ (wn b.val) dS ?_ ?_ ?_ ?_ ?_;rfl;exact HRA.out.2.1;exact HD.out.2.1;exact HD.out.2.2;exact nSc;rw[show Value.agg (wn b.val).toArray=vb from hvb.out])|(refine wpList_bsl (v:=.slice (some ⟨g1,0,none⟩) 1 1) (w':=W1) rfl 46 1 _ rfl #[(0,va)] ?_ ?_ ?_;kernel_rfl;exact S1.out)|(refine wpList_bsl (v:=.slice (some ⟨g2,0,none⟩) 1 1) (w':=W2) rfl 46 1 _ rfl #[(0,vb)] ?_ ?_ ?_;kernel_rfl;exact S2.out)|fail)
   refine HCH.out.mono ?_
   rintro e W3 ⟨s1,rfl,hb3,hs3⟩
   have L3:=KL2.out.grow hb3
   have KL3:=Hid.mk' (And.intro L3 (show Sm 0 W3 s1 l1 from by
    obtain ⟨g,c,x1,x2,-,x4⟩:=hs3
    exact ⟨g,c,x1,x2,Nat.zero_le _,x4⟩))
   clear hb3 hs3 L3 KL2 S1 S2 HRA HEV HD HCH
   go_wp2_with fail
   refine (HCM.out.1 W3 s1 u3 KL3.out.2 KL3.out.1.sm.sm).mono ?_
   rintro e W4 ⟨s2,rfl,hb4,hs4⟩
   have L4:=KL3.out.1.grow hb4
   have KL4:=Hid.mk' (And.intro L4 (show Sm 0 W4 s2 l2 from by
    obtain ⟨g,c,x1,x2,-,x4⟩:=hs4
    exact ⟨g,c,x1,x2,Nat.zero_le _,x4⟩))
   clear hb4 hs4 L4 KL3
   go_wp2_with fail
   refine (HCM.out.2 W4 s2 KL4.out.2).mono ?_
   rintro e W5 ⟨uu,rfl,hb5,huu⟩
   have huu':=huu.symm
   subst huu'
   have L5:=Hid.mk' (KL4.out.1.grow hb5).on
   clear hb5 KL4 HCM
   go_wp2_with (first|(refine wpList_bld (v:=vz) (w':=W5) rfl 61 _ rfl #[] ?_ ?_ ?_;kernel_rfl;exact (HZ.out W5).2.1)|(refine wpList_op (v:=.bool Bd) (w':=W5) rfl (.binOp .eql 61 (.tmp 67) (.tmp 68) 61) rfl ?_ ?_;exact ix_run (I:=eqGuard .eql 61 (.tmp 67) (.tmp 68) vy vz >>= fun _=>binOp .eql 61 vy vz) (by rw[Sem.run_bind,(HZ.out W5).2.2];exact (HZ.out W5).1))|fail)
   go_ret
   exact ⟨_,rfl,L5.out,rfl⟩
end
section
open Go.RowKit Go.Sort Go.Deep SPA
variable {P:Nat} [NeZero P] {N:Nat} [NeZero N]
theorem inZ_one:inZ.toArray.all (·.oneCell')=true:=by kernel_rfl
omit [NeZero N] in
theorem verI_n (C:Fld P) {base t n' T:Nat} {ok:Bool} (hne:¬ (t:Int)=(T:Int)) (hH:∀ W,Calls Tryz.prog 14 #[.int .i64 n'] W (Ret fun e w'=>Below W.heap.size W w'∧e=.tuple #[.int .i64 T,.bool ok])) (label:ByteArray) {X A B:Bs} {Lb Rb:Nat→Bs} {vp vL vR vA vB:Value} (w:World) (hp:ElQ (fun _=>True) 33 w vp X) (hL:TlL (fun _=>True) base t w vL Lb) (hR:TlL (fun _=>True) base t w vR Rb) (hA:ElQ (fun _=>True) 32 w vA A) (hB:ElQ (fun _=>True) 32 w vB B) (p:Fin P × Fin P) (hX:rd P X=some p) :
 Calls Tryz.prog 7 #[.string label,.int .i64 n',vp,.agg #[vL,vR,vA,vB]] w (Ret fun e w'=>Below w.heap.size w w'∧e=.bool false):=by
 have sX:=rd_33 hX
 obtain ⟨k,hk⟩:∃ k,Hid (w.heap.size=k):=⟨_,rfl⟩
 obtain ⟨w1,hw1⟩:∃ w1,Hid (w.alloc (.cells #[vL,vR,vA,vB] 26)=w1):=⟨_,rfl⟩
 obtain ⟨vI,hvI⟩:∃ v,Hid (Value.agg #[vL,vR,vA,vB]=v):=⟨_,rfl⟩
 have B1:Hid ((Instr.box 26 vI).run Tryz.prog w=.ok (.pointer (some ⟨k,0,none⟩)) w1):=by rw[← hvI.out,← hw1.out,← hk.out];exact boxI hL hR hA hB w
 have K1:Hid (Below w.heap.size w w1∧Row w1 k [vL,vR,vA,vB]):=⟨by rw[← hw1.out];exact below1 _ _,by rw[← hw1.out,← hk.out];exact row_new w _ _⟩
 have cR:=Hid.mk' (fun (W:World) (hW:Below w.heap.size w W)=>cRead_y C vp X p W (hp.arg.below hW) hX)
 have cN:Hid (∀ (W:World),Below w.heap.size w W→Calls Tryz.prog 24 #[vI,.int .i64 T] W (Ret fun e w'=>Below W.heap.size W w'∧e=.tuple #[.agg inZ.toArray,.bool false])):=by
  rw[← hvI.out]
  exact fun W hW=>readI_n hne W (hL.below hW) (hR.below hW) (hA.keep (Kq.of_below hW)) (hB.keep (Kq.of_below hW))
 have cH:=Hid.mk' hH
 obtain ⟨dI,hdI1,hdI2⟩:=Option.map_eq_some_iff.1 uInn
 have HDI:Hid (Tryz.prog.underlying 26=some dI∧dI.isRow=true):=⟨hdI1,hdI2⟩
 rw[hvI.out]
 clear hH hp hL hR hA hB hX hne hw1 hk hdI1 hdI2
 go_enter Tryz.func7,Tryz.ntmps7
 go_wp2_with (first|(refine wpList_box (u:=vI) (v:=.pointer (some ⟨k,0,none⟩)) (w':=w1) rfl 26 (.tmp 3) rfl ?_ ?_ ?_;rfl;exact B1.out)|fail)
 refine (cH.out w1).mono ?_
 rintro e w2 ⟨uu,rfl,hb2,rfl⟩
 have K2:Hid (Below w.heap.size w w2∧Row w2 k [vL,vR,vA,vB]):=⟨K1.out.1.trans (hb2.mono K1.out.1.size),K1.out.2.below hb2⟩
 clear hb2 K1 B1
 go_wp2_with fail
 refine (cR.out w2 K2.out.1).mono ?_
 rintro e w3 ⟨uu,rfl,hb3,rfl⟩
 obtain ⟨k11,hk11⟩:∃ g,Hid (w3.heap.size=g):=⟨_,rfl⟩
 obtain ⟨w4,hw4⟩:∃ W,Hid (w3.alloc (.cells z33.toArray 61)=W):=⟨_,rfl⟩
 obtain ⟨w5,hw5⟩:∃ W,Hid (w4.setCells k11 0 (bl33 X)=W):=⟨_,rfl⟩
 have F4:Hid (Row w4 k11 z33∧Below w3.heap.size w3 w4):=by rw[← hw4.out,← hk11.out];exact ⟨row_new w3 _ _,below1 _ _⟩
 have b25:Below w2.heap.size w2 w5:=by
  have:Below w3.heap.size w3 w5:=by rw[← hw5.out];exact RG.below_setCells (by rw[hk11.out];exact Nat.le_refl _) _ _ _ F4.out.2
  exact hb3.trans (this.mono hb3.size)
 have K5:Hid (Below w.heap.size w w5∧Row w5 k [vL,vR,vA,vB]):=⟨K2.out.1.trans (b25.mono K2.out.1.size),K2.out.2.below b25⟩
 have HX3:Hid (w4.there k11 0 (bl33 X).toArray.size∧(Tryz.prog.info? 61).map (·.size)=some (bl33 X).toArray.size):=by
  rw[List.size_toArray,bl33_length sX]
  exact ⟨F4.out.1.2.2,iCP⟩
 obtain ⟨pX,hpX⟩:∃ v,Hid (pvl X=v):=⟨_,rfl⟩
 rw[hpX.out]
 clear hb3 b25 K2
 go_wp2_with (first|(refine wpList_al (v:=.pointer (some ⟨k11,0,none⟩)) (w':=w4) rfl 61 11 rfl rfl ?_ ?_;(rw[← hw4.out,← hk11.out];kernel_rfl))|(refine wpList_store_mid rfl 61 (.tmp 11) _ rfl k11 0 (bl33 X).toArray ?_ ?_ ?_ ?_ ?_ ?_;rfl;exact hpX.out.symm;exact HX3.out.1;exact HX3.out.2;exact bl33_one X;rw[show (bl33 X).toArray.toList=bl33 X from rfl,hw5.out])|(refine wpList_load_mid rfl 26 (.tmp 7) rfl k 0 ?_ [vL,vR,vA,vB] dI ?_ ?_ ?_ ?_ ?_;rfl;exact K5.out.2.2.1;exact HDI.out.1;exact HDI.out.2;exact iInn;rw[show Value.agg [vL,vR,vA,vB].toArray=vI from hvI.out])|fail)
 refine (cN.out w5 K5.out.1).mono ?_
 rintro e w6 ⟨uu,rfl,hb6,rfl⟩
 obtain ⟨k13,hk13⟩:∃ g,Hid (w6.heap.size=g):=⟨_,rfl⟩
 obtain ⟨w7,hw7⟩:∃ W,Hid (w6.alloc (.cells inZ.toArray 76)=W):=⟨_,rfl⟩
 obtain ⟨w8,hw8⟩:∃ W,Hid (w7.setCells k13 0 inZ=W):=⟨_,rfl⟩
 have F7:Hid (Row w7 k13 inZ∧Below w6.heap.size w6 w7):=by rw[← hw7.out,← hk13.out];exact ⟨row_new w6 _ _,below1 _ _⟩
 have K8:Hid (Below w.heap.size w w8):=by
  have b68:Below w6.heap.size w6 w8:=by rw[← hw8.out];exact RG.below_setCells (by rw[hk13.out];exact Nat.le_refl _) _ _ _ F7.out.2
  have b58:=hb6.trans (b68.mono hb6.size)
  exact K5.out.1.trans (b58.mono K5.out.1.size)
 obtain ⟨vZ,hvZ⟩:∃ v,Hid (Value.agg inZ.toArray=v):=⟨_,rfl⟩
 rw[hvZ.out]
 clear hb6 K5 cN HX3 F4 hw4 hw5
 rcases ok with _|_
 all_goals
  go_wp2_with (first|(refine wpList_al (v:=.pointer (some ⟨k13,0,none⟩)) (w':=w7) rfl 76 13 rfl rfl ?_ ?_;(rw[← hw7.out,← hk13.out];kernel_rfl))|(refine wpList_store_mid rfl 76 (.tmp 13) _ rfl k13 0 inZ.toArray ?_ ?_ ?_ ?_ ?_ ?_;rfl;exact hvZ.out.symm;exact F7.out.1.2.2;exact iIr;exact inZ_one;rw[show inZ.toArray.toList=inZ from rfl,hw8.out])|fail)
  go_ret
  exact ⟨_,rfl,K8.out,rfl⟩
end
section
open Go.RowKit Go.Sort Go.Deep SPA
variable {P:Nat} [NeZero P] {N:Nat} [NeZero N]
omit [NeZero N] in
theorem verI_w (C:Fld P) {base t n Aa Bb:Nat} {U:List (Nat × Bs)} {G H:Nat→List (Nat × Bs)} (hH:∀ W,Calls Tryz.prog 14 #[.int .i64 n] W (Ret fun e w'=>Below W.heap.size W w'∧e=.tuple #[.int .i64 t,.bool true])) (label:ByteArray) {X A B L0:Bs} {Lb Rb:Nat→Bs} {vp vL vR vA vB:Value} (w:World) (hp:ElQ (fun _=>True) 33 w vp X) (hL:TlL (fun _=>True) base t w vL Lb) (hR:TlL (fun _=>True) base t w vR Rb) (hA:ElQ (fun _=>True) 32 w vA A) (hB:ElQ (fun _=>True) 32 w vB B) (p:Fin P × Fin P) (hX:rd P X=some p)
 (hRd:∀ (W:World),Below w.heap.size w W→Calls Tryz.prog 24 #[.agg #[vL,vR,vA,vB],.int .i64 t] W (Ret fun e w'=>Below W.heap.size W w'∧∃ kl kr,e=.tuple #[.agg (inL kl kr t Aa Bb).toArray,.bool true]∧PtL (W.heap.size≤·) w' kl t Lb∧PtL (W.heap.size≤·) w' kr t Rb))
 (cL:∀ W,Calls Tryz.prog 22 #[.string label,pvl X] W (Ret fun e w'=>Below W.heap.size W w'∧∃ r,e=lgV r∧W.heap.size≤r∧r<w'.heap.size∧Holds encB w' r 0 L0))
 (cG:∀ W,Calls Tryz.prog 17 #[.int .i64 n] W (Ret fun e w'=>Below W.heap.size W w'∧GRq (W.heap.size≤·) w' e n G H U))
 (cW:∀ (r kl kr:Nat) (vg sv:Value) (W:World),Holds encB W r 0 L0→PtL (·≠r) W kl t Lb→PtL (·≠r) W kr t Rb→GRq (·≠r) W vg n G H U→SmQ (·≠r) W sv [(1,X)]→Calls Tryz.prog 25 #[.agg (inL kl kr t Aa Bb).toArray,lgV r,vg,sv] W (Ret fun e w'=>SP.Only r 0 32 W w'∧e=.bool true)) (hr0:L0.size=32) :
 Calls Tryz.prog 7 #[.string label,.int .i64 n,vp,.agg #[vL,vR,vA,vB]] w (Ret fun e w'=>Below w.heap.size w w'∧e=.bool true):=by
 have sX:=rd_33 hX
 obtain ⟨k,hk⟩:∃ k,Hid (w.heap.size=k):=⟨_,rfl⟩
 obtain ⟨w1,hw1⟩:∃ w1,Hid (w.alloc (.cells #[vL,vR,vA,vB] 26)=w1):=⟨_,rfl⟩
 obtain ⟨vI,hvI⟩:∃ v,Hid (Value.agg #[vL,vR,vA,vB]=v):=⟨_,rfl⟩
 have B1:Hid ((Instr.box 26 vI).run Tryz.prog w=.ok (.pointer (some ⟨k,0,none⟩)) w1):=by rw[← hvI.out,← hw1.out,← hk.out];exact boxI hL hR hA hB w
 have K1:Hid (Below w.heap.size w w1∧Row w1 k [vL,vR,vA,vB]):=⟨by rw[← hw1.out];exact below1 _ _,by rw[← hw1.out,← hk.out];exact row_new w _ _⟩
 have cR:=Hid.mk' (fun (W:World) (hW:Below w.heap.size w W)=>cRead_y C vp X p W (hp.arg.below hW) hX)
 have cN:Hid (∀ (W:World),Below w.heap.size w W→Calls Tryz.prog 24 #[vI,.int .i64 t] W (Ret fun e w'=>Below W.heap.size W w'∧∃ kl kr,e=.tuple #[.agg (inL kl kr t Aa Bb).toArray,.bool true]∧PtL (W.heap.size≤·) w' kl t Lb∧PtL (W.heap.size≤·) w' kr t Rb)):=by
  rw[← hvI.out]
  exact hRd
 have HCX:=Hid.mk' (And.intro cL (And.intro cG cW))
 clear hRd cL cG cW
 have cH:=Hid.mk' hH
 obtain ⟨dI,hdI1,hdI2⟩:=Option.map_eq_some_iff.1 uInn
 have HDI:Hid (Tryz.prog.underlying 26=some dI∧dI.isRow=true):=⟨hdI1,hdI2⟩
 rw[hvI.out]
 clear hH hp hL hR hA hB hw1 hk hdI1 hdI2
 go_enter Tryz.func7,Tryz.ntmps7
 go_wp2_with (first|(refine wpList_box (u:=vI) (v:=.pointer (some ⟨k,0,none⟩)) (w':=w1) rfl 26 (.tmp 3) rfl ?_ ?_ ?_;rfl;exact B1.out)|fail)
 refine (cH.out w1).mono ?_
 rintro e w2 ⟨uu,rfl,hb2,rfl⟩
 have K2:Hid (Below w.heap.size w w2∧Row w2 k [vL,vR,vA,vB]):=⟨K1.out.1.trans (hb2.mono K1.out.1.size),K1.out.2.below hb2⟩
 clear hb2 K1 B1
 go_wp2_with fail
 refine (cR.out w2 K2.out.1).mono ?_
 rintro e w3 ⟨uu,rfl,hb3,rfl⟩
 obtain ⟨k11,hk11⟩:∃ g,Hid (w3.heap.size=g):=⟨_,rfl⟩
 obtain ⟨w4,hw4⟩:∃ W,Hid (w3.alloc (.cells z33.toArray 61)=W):=⟨_,rfl⟩
 obtain ⟨w5,hw5⟩:∃ W,Hid (w4.setCells k11 0 (bl33 X)=W):=⟨_,rfl⟩
 have F4:Hid (Row w4 k11 z33∧Below w3.heap.size w3 w4):=by rw[← hw4.out,← hk11.out];exact ⟨row_new w3 _ _,below1 _ _⟩
 have b25:Below w2.heap.size w2 w5:=by
  have:Below w3.heap.size w3 w5:=by rw[← hw5.out];exact RG.below_setCells (by rw[hk11.out];exact Nat.le_refl _) _ _ _ F4.out.2
  exact hb3.trans (this.mono hb3.size)
 have K5:Hid (Below w.heap.size w w5∧Row w5 k [vL,vR,vA,vB]∧Row w5 k11 (bl33 X)):=⟨K2.out.1.trans (b25.mono K2.out.1.size),K2.out.2.below b25,by rw[← hw5.out];exact F4.out.1.put (by rw[bl33_length sX];rfl)⟩
 have HX3:Hid (w4.there k11 0 (bl33 X).toArray.size∧(Tryz.prog.info? 61).map (·.size)=some (bl33 X).toArray.size):=by
  rw[List.size_toArray,bl33_length sX]
  exact ⟨F4.out.1.2.2,iCP⟩
 obtain ⟨pX,hpX⟩:∃ v,Hid (pvl X=v):=⟨_,rfl⟩
 rw[hpX.out]
 clear hb3 b25 K2
 go_wp2_with (first|(refine wpList_al (v:=.pointer (some ⟨k11,0,none⟩)) (w':=w4) rfl 61 11 rfl rfl ?_ ?_;(rw[← hw4.out,← hk11.out];kernel_rfl))|(refine wpList_store_mid rfl 61 (.tmp 11) _ rfl k11 0 (bl33 X).toArray ?_ ?_ ?_ ?_ ?_ ?_;rfl;exact hpX.out.symm;exact HX3.out.1;exact HX3.out.2;exact bl33_one X;rw[show (bl33 X).toArray.toList=bl33 X from rfl,hw5.out])|(refine wpList_load_mid rfl 26 (.tmp 7) rfl k 0 ?_ [vL,vR,vA,vB] dI ?_ ?_ ?_ ?_ ?_;rfl;exact K5.out.2.1.2.1;exact HDI.out.1;exact HDI.out.2;exact iInn;rw[show Value.agg [vL,vR,vA,vB].toArray=vI from hvI.out])|fail)
 refine (cN.out w5 K5.out.1).mono ?_
 rintro e w6 ⟨uu,rfl,hb6,kl,kr,rfl,hPl,hPr⟩
 obtain ⟨k13,hk13⟩:∃ g,Hid (w6.heap.size=g):=⟨_,rfl⟩
 obtain ⟨w7,hw7⟩:∃ W,Hid (w6.alloc (.cells inZ.toArray 76)=W):=⟨_,rfl⟩
 obtain ⟨w8,hw8⟩:∃ W,Hid (w7.setCells k13 0 (inL kl kr t Aa Bb)=W):=⟨_,rfl⟩
 have F7:Hid (Row w7 k13 inZ∧Below w6.heap.size w6 w7):=by rw[← hw7.out,← hk13.out];exact ⟨row_new w6 _ _,below1 _ _⟩
 have b68:Below w6.heap.size w6 w8:=by rw[← hw8.out];exact RG.below_setCells (by rw[hk13.out];exact Nat.le_refl _) _ _ _ F7.out.2
 have b58:=hb6.trans (b68.mono hb6.size)
 have K8:Hid (Below w.heap.size w w8∧Row w8 k11 (bl33 X)∧Row w8 k13 (inL kl kr t Aa Bb)∧PtL (fun _=>True) w8 kl t Lb∧PtL (fun _=>True) w8 kr t Rb):=⟨K5.out.1.trans (b58.mono K5.out.1.size),K5.out.2.2.below b58,by rw[← hw8.out];exact F7.out.1.put rfl,(hPl.mono2 fun _ _ _=>trivial).keep (Kq.of_below b68),(hPr.mono2 fun _ _ _=>trivial).keep (Kq.of_below b68)⟩
 obtain ⟨vZ,hvZ⟩:∃ v,Hid (Value.agg (inL kl kr t Aa Bb).toArray=v):=⟨_,rfl⟩
 rw[hvZ.out]
 clear hb6 K5 cN HX3 F4 hw4 hw5 hPl hPr b68 b58
 go_wp2_with (first|(refine wpList_al (v:=.pointer (some ⟨k13,0,none⟩)) (w':=w7) rfl 76 13 rfl rfl ?_ ?_;(rw[← hw7.out,← hk13.out];kernel_rfl))|(refine wpList_store_mid rfl 76 (.tmp 13) _ rfl k13 0 (inL kl kr t Aa Bb).toArray ?_ ?_ ?_ ?_ ?_ ?_;rfl;exact hvZ.out.symm;exact F7.out.1.2.2;exact iIr;exact inL_one kl kr t Aa Bb;rw[show (inL kl kr t Aa Bb).toArray.toList=inL kl kr t Aa Bb from rfl,hw8.out])|fail)
 obtain ⟨dP,hdP1,hdP2⟩:=Option.map_eq_some_iff.1 uCP
 obtain ⟨dN,hdN1,hdN2⟩:=Option.map_eq_some_iff.1 uIr
 have iX33:(Tryz.prog.info? 61).map (·.size)=some (bl33 X).length:=by rw[bl33_length sX];exact iCP
 have Sb:w8.drew.rangeAt k13 0 (inL kl kr t Aa Bb)∧w8.drew.rangeAt k11 0 (bl33 X):=⟨K8.out.2.2.1.2.1,K8.out.2.1.2.1⟩
 have zb:k13<w8.drew.heap.size∧k11<w8.drew.heap.size:=⟨K8.out.2.2.1.1,K8.out.2.1.1⟩
 have hSk:∀ W W':World,W'.heap[k13]? = W.heap[k13]?→W'.heap[k11]? = W.heap[k11]?→W.rangeAt k13 0 (inL kl kr t Aa Bb)∧W.rangeAt k11 0 (bl33 X)→W'.rangeAt k13 0 (inL kl kr t Aa Bb)∧W'.rangeAt k11 0 (bl33 X):=fun W W' e1 e2 h=>⟨fun j u hj=>by rw[World.cell?_of_block (a:=⟨k13,0+j,none⟩) e1];exact h.1 j u hj,fun j u hj=>by rw[World.cell?_of_block (a:=⟨k11,0+j,none⟩) e2];exact h.2 j u hj⟩
 refine anyS.begin (fun _ W=>W.rangeAt k13 0 (inL kl kr t Aa Bb)∧W.rangeAt k11 0 (bl33 X)) (by kernel_rfl) ?_
 have bS:∀ (p:Nat),Bef (fun _ W=>World.rangeAt W k13 0 (inL kl kr t Aa Bb)∧World.rangeAt W k11 0 (bl33 X)) p w8.drew:=fun p=>⟨#[],by simp,Sb⟩
 refine anyS.row (i:=0) (d:=some 41) (cs:=inL kl kr t Aa Bb) rfl 9 (fun _ _ h=>h) 76 13 k13 0 dN rfl hdN1 hdN2 iIr (fun W ⟨l,e,h⟩=>h.1) (bS 9) Sb ?_
 simp only[Act.put,List.setIfInBounds_toArray,List.set_cons_succ,List.set_cons_zero]
 refine anyS.val (i:=1) (d:=some 42) (x:=.string label) rfl 9 (fun _ _ h=>h) (bS 9) Sb ?_
 simp only[Act.put,List.setIfInBounds_toArray,List.set_cons_succ,List.set_cons_zero]
 refine anyS.row (i:=2) (d:=some 43) (cs:=bl33 X) rfl 9 (fun _ _ h=>h) 61 11 k11 0 dP rfl hdP1 hdP2 iX33 (fun W ⟨l,e,h⟩=>h.2) (bS 9) Sb ?_
 simp only[Act.put,List.setIfInBounds_toArray,List.set_cons_succ,List.set_cons_zero]
 refine anyS.val (i:=4) (d:=some 45) (x:=.int .i64 n) rfl 9 (fun _ _ h=>h) (bS 9) Sb ?_
 simp only[Act.put,List.setIfInBounds_toArray,List.set_cons_succ,List.set_cons_zero]
 refine anyS.row (i:=6) (d:=some 47) (cs:=bl33 X) rfl 9 (fun _ _ h=>h) 61 11 k11 0 dP rfl hdP1 hdP2 iX33 (fun W ⟨l,e,h⟩=>h.2) (bS 9) Sb ?_
 simp only[Act.put,List.setIfInBounds_toArray,List.set_cons_succ,List.set_cons_zero]
 clear bS
 refine anyS.cal (i:=3) (d:=some 44) rfl (HCX.out.1 w8.drew) ?_
 rintro xl Wl ⟨hbl,r,rfl,hr1,hr2,hLr⟩
 have hbl':Below w8.heap.size w8 Wl:=((Below.refl w8.heap.size w8).drew).trans hbl
 have hr1':w8.heap.size≤r:=hr1
 have Sl:=hSk _ _ (hbl.block k13 zb.1) (hbl.block k11 zb.2) Sb
 have zl:k13<Wl.heap.size∧k11<Wl.heap.size∧k13≠r∧k11≠r:=⟨Nat.lt_of_lt_of_le zb.1 hbl.size,Nat.lt_of_lt_of_le zb.2 hbl.size,Nat.ne_of_lt (Nat.lt_of_lt_of_le zb.1 hr1),Nat.ne_of_lt (Nat.lt_of_lt_of_le zb.2 hr1)⟩
 have KL:Hid (Below w.heap.size w Wl∧PtL (·≠r) Wl kl t Lb∧PtL (·≠r) Wl kr t Rb∧w.heap.size≤r):=⟨K8.out.1.trans (hbl'.mono K8.out.1.size),(K8.out.2.2.2.1.mono2 fun g hg _=>Nat.ne_of_lt (Nat.lt_of_lt_of_le hg hr1')).keep (Kq.of_below hbl'),(K8.out.2.2.2.2.mono2 fun g hg _=>Nat.ne_of_lt (Nat.lt_of_lt_of_le hg hr1')).keep (Kq.of_below hbl'),Nat.le_trans K8.out.1.size hr1'⟩
 refine ⟨Sl,?_⟩
 clear hbl hbl' hr1 hr1' Sb zb K8
 simp only[Act.put,List.setIfInBounds_toArray,List.set_cons_succ,List.set_cons_zero]
 refine anyS.cal (i:=5) (d:=some 46) rfl (HCX.out.2.1 Wl) ?_
 rintro vg Wg ⟨hbg,hGg⟩
 have Sg:=hSk _ _ (hbg.block k13 zl.1) (hbg.block k11 zl.2.1) Sl
 have KG:Hid (Below w.heap.size w Wg∧PtL (·≠r) Wg kl t Lb∧PtL (·≠r) Wg kr t Rb∧w.heap.size≤r∧r<Wg.heap.size∧Holds encB Wg r 0 L0∧GRq (·≠r) Wg vg n G H U):=⟨KL.out.1.trans (hbg.mono KL.out.1.size),KL.out.2.1.keep (Kq.of_below hbg),KL.out.2.2.1.keep (Kq.of_below hbg),KL.out.2.2.2,Nat.lt_of_lt_of_le hr2 hbg.size,Holds.below hLr hbg hr2,hGg.mono fun g hg=>Nat.ne_of_gt (Nat.lt_of_lt_of_le hr2 hg)⟩
 have zg:k13<Wg.heap.size∧k11<Wg.heap.size∧k13≠r∧k11≠r:=⟨Nat.lt_of_lt_of_le zl.1 hbg.size,Nat.lt_of_lt_of_le zl.2.1 hbg.size,zl.2.2⟩
 refine ⟨Sg,?_⟩
 clear hbg hGg Sl zl KL hr2 hLr
 simp only[Act.put,List.setIfInBounds_toArray,List.set_cons_succ,List.set_cons_zero]
 refine anyS.cal (i:=7) (d:=some 48) rfl (onceS_c X sX Wg) ?_
 rintro vs Ws ⟨hbs,hSs⟩
 have Ss:=hSk _ _ (hbs.block k13 zg.1) (hbs.block k11 zg.2.1) Sg
 have zs:k13<Ws.heap.size∧k11<Ws.heap.size∧k13≠r∧k11≠r:=⟨Nat.lt_of_lt_of_le zg.1 hbs.size,Nat.lt_of_lt_of_le zg.2.1 hbs.size,zg.2.2⟩
 have bws:Below w.heap.size w Ws:=KG.out.1.trans (hbs.mono KG.out.1.size)
 have cRi:=HCX.out.2.2 r kl kr vg vs Ws (Holds.below KG.out.2.2.2.2.2.1 hbs KG.out.2.2.2.2.1) (KG.out.2.1.keep (Kq.of_below hbs)) (KG.out.2.2.1.keep (Kq.of_below hbs)) (KG.out.2.2.2.2.2.2.keep (Kq.of_below hbs)) (hSs.q.mono fun g hg=>Nat.ne_of_gt (Nat.lt_of_lt_of_le KG.out.2.2.2.2.1 hg))
 have hrw:=KG.out.2.2.2.1
 refine ⟨Ss,?_⟩
 clear hbs hSs Sg zg KG
 simp only[Act.put,List.setIfInBounds_toArray,List.set_cons_succ,List.set_cons_zero]
 refine anyS.cal (i:=8) (d:=some 49) rfl cRi ?_
 rintro xr Wr ⟨hO,rfl⟩
 have Sr:=hSk _ _ (hO.block k13 zs.1 zs.2.2.1) (hO.block k11 zs.2.1 zs.2.2.2) Ss
 have bwr:Hid (Below w.heap.size w Wr):=bws.trans (only_new hO bws.size hrw)
 refine ⟨Sr,?_⟩
 clear hO cRi Ss zs bws
 simp only[Act.put,List.setIfInBounds_toArray,List.set_cons_succ,List.set_cons_zero]
 refine anyS.nxt (i:=9) (d:=some 8) (x:=.bool true) rfl Sr ?_
 simp only[Act.put,List.setIfInBounds_toArray,List.set_cons_succ,List.set_cons_zero]
 refine anyS.fin (by kernel_rfl) ?_ _
 intro WZ hWZ
 subst hWZ
 clear hSk Sr hdP1 hdP2 hdN1 hdN2 iX33 HCX
 go_wp2_with fail
 go_ret
 exact ⟨_,rfl,bwr.out,rfl⟩
end
section
open Go.RowKit Go.Sort Go.Deep SPA
variable {P:Nat} [NeZero P] {N:Nat} [NeZero N]
omit [NeZero N] in
theorem rq_bxS (O:Ord N) {n:Nat} (hn:n<N):rq N (bx n)=some n:=by
 have hv:beV (bx n).toList=n:=bx_val (Nat.lt_of_lt_of_le hn O.le)
 unfold rq
 rw[hv,if_pos ⟨bx_size n,hn⟩]
theorem verI_y (C:Fld P) (O:Ord N) (hord:∀ r:EC.Pt P,EC.On r→EC.mul N r=none) (hP:NT.IsP N) (t:Nat) (ht:t≤6) (label:ByteArray) (hlab:label.size≤1000000) (q:Md.Ps Bs (Fin N) (OnP P)) (X:Bs) (hX:X=wP ((ptMd C hord).hdP (uPt C) (2^t) q)) (hqs:q.s=pLog label.data.toList X) (hqg:q.g=gPt C ⟨#[108,101,102,116]⟩) (hqh:q.h=gPt C ⟨#[114,105,103,104,116]⟩)
 (Lb Rb:Nat→Bs) (hLb:∀ j,Lb j=wP ((ptMd C hord).pLi (chF N) ivF (uPt C) t q j)) (hRb:∀ j,Rb j=wP ((ptMd C hord).pTi (chF N) ivF (uPt C) t q j)) (A B:Bs) (hA:A=bx (((ptMd C hord).pst (chF N) ivF (uPt C) t q t).a 0).val) (hB:B=bx (((ptMd C hord).pst (chF N) ivF (uPt C) t q t).b 0).val)
 {base:Nat} {vp vL vR vA vB:Value} (w:World) (ep:ElQ (fun _=>True) 33 w vp X) (eL:TlL (fun _=>True) base t w vL Lb) (eR:TlL (fun _=>True) base t w vR Rb) (eA:ElQ (fun _=>True) 32 w vA A) (eB:ElQ (fun _=>True) 32 w vB B) :
 Calls Tryz.prog 7 #[.string label,.int .i64 ((2^t:Nat):Int),vp,.agg #[vL,vR,vA,vB]] w (Ret fun e w'=>Below w.heap.size w w'∧e=.bool true):=by
 have hn64:2^t≤64:=Nat.le_trans (Nat.pow_le_pow_right (by decide) ht) (by decide)
 have hHv:=fun W=>halv_c (2^t) (pow_of t ht) W
 rw[hv_pow t ht] at hHv
 obtain ⟨p,hp,-⟩:=rd_wr C ((ptMd C hord).hdP (uPt C) (2^t) q).2
 have hXp:rd P X=some p:=by rw[hX];exact hp
 have sX:=rd_33 hXp
 have cL:=fun (W:World)=>pLog_c label hlab X sX W
 have sL:(pLog label.data.toList X).size=32:=pLog_size _ _
 have hG:=gd_left (P:=P) C hP.1 (2^t)
 have hH:=gd_right (P:=P) C hP.1 (2^t)
 rw[← hqg] at hG
 rw[← hqh] at hH
 rw[← hqs] at cL sL
 have hu1:(uGT P).length=1:=rfl
 have tX:Tl N [(1,X)] ((ptMd C hord).hdP (uPt C) (2^t) q):=by rw[hX];exact Tl.one C hP.1 _
 refine verI_w C hHv label w ep eL eR eA eB p hXp (fun W hW=>readI_y C O ht W (eL.below hW) (eR.below hW) (eA.keep (Kq.of_below hW)) (eB.keep (Kq.of_below hW)) (fun j _=>?_) (fun j _=>?_) ?_ ?_) cL (fun W=>groundOf_c (P:=P) C (2^t) (by omega) W) (fun r kl kr vg sv W h1 h2 h3 h4 h5=>right_c C O hord hP t ht ((ptMd C hord).pLi (chF N) ivF (uPt C) t q) ((ptMd C hord).pTi (chF N) ivF (uPt C) t q) ⟨q.s,(ptMd C hord).hdP (uPt C) (2^t) q,q.g,q.h⟩ (uPt C) (gGT P) (hGT P) (uGT P) [(1,X)] hG hH (tl_inner C hP.1) (by rw[hu1];decide) (by rw[hu1];decide) tX rfl Lb Rb hLb hRb r kl kr (((ptMd C hord).pst (chF N) ivF (uPt C) t q t).a 0) (((ptMd C hord).pst (chF N) ivF (uPt C) t q t).b 0) vg sv W h1 sL h2 h3 h4 h5 true (iff_of_true rfl (foundF C hord hP (uPt C) t q))) sL
 ·obtain ⟨p,hp,-⟩:=rd_wr C ((ptMd C hord).pLi (chF N) ivF (uPt C) t q j).2
  exact ⟨p,by rw[hLb j];exact hp⟩
 ·obtain ⟨p,hp,-⟩:=rd_wr C ((ptMd C hord).pTi (chF N) ivF (uPt C) t q j).2
  exact ⟨p,by rw[hRb j];exact hp⟩
 ·rw[hA];exact rq_bxS O (Fin.isLt _)
 ·rw[hB];exact rq_bxS O (Fin.isLt _)
end
section
open Go.RowKit Go.Sort Go.Deep SPA
variable {P:Nat} [NeZero P] {N:Nat}
theorem copy_cutO {P:Program} (w:World) (dT sT ty elem:TypeId) (b o dLen dCap:Nat) (t:ByteArray) (hu:P.underlying dT=some (.slice elem)) (hz:∀ w,(Go.sizeOf elem).run P w=.ok 1 w)
 (hc:∀ j,j<dLen→(w.cell? ⟨b,o+j,none⟩).isSome=true) (hf:∀ j,j<dLen→w.frozen? ⟨b,o+j,none⟩=false) :
 (Builtin.copy_ #[dT,sT] ty #[.slice (some ⟨b,o,none⟩) dLen dCap,.string t]).run P w=.ok (goInt (Nat.min t.size dLen)) (w.setCells b o ((t.data.toList.take dLen).map fun x=>Value.int .u8 (x.toNat:Int))):=by
 by_cases hle:t.size≤dLen
 ·rw[run_copy_string w dT sT ty elem b o dLen dCap t hu hz hle (fun j hj=>hc j (by omega)) (fun j hj=>hf j (by omega)),show Nat.min t.size dLen=t.size from Nat.min_eq_left hle,List.take_of_length_le (by rw[← Lib.size_eq];exact hle)]
 ·have hmin:Nat.min t.size dLen=dLen:=Nat.min_eq_right (by omega)
  have hl:((t.data.toList.take dLen).map fun x=>Value.int .u8 (x.toNat:Int)).length=dLen:=by rw[List.length_map,List.length_take,← Lib.size_eq];omega
  have hst:=run_storeCells_cells (P:=P) b o ((t.data.toList.take dLen).map fun x=>Value.int .u8 (x.toNat:Int)) 0 w (by rw[hl];simpa using hc) (by rw[hl];simpa using hf) (by
   intro v hv
   obtain ⟨x,_,rfl⟩:=List.mem_map.1 hv
   rfl)
  rw[hmin]
  simp[Builtin.copy_,run_underlying hu,Builtin.lenOf,Builtin.firstCells,hz,hmin]
  rw[List.map_take] at hst
  rw[hst]
  rfl
def fnB (f:Nat→UInt8):Bs:=Array.ofFn (n:=32) fun i=>f i.val
theorem fnB_size (f:Nat→UInt8):(fnB f).size=32:=by unfold fnB;simp
theorem fnB_at (f:Nat→UInt8) (j:Nat) (hj:j<32):(fnB f)[j]! = f j:=by
 rw[getElem!_pos (fnB f) j (by rw[fnB_size];exact hj)]
 unfold fnB
 simp
def nm1 (s:ByteArray) (j:Nat):UInt8:=if 2≤j∧j<30 then s.data.toList.getD (j-2) 0 else 0
def nm2 (s:ByteArray) (n j:Nat):UInt8:=if j=30 then UInt8.ofNat n else nm1 s j
def nm3 (s:ByteArray) (n j:Nat):UInt8:=if j=31 then UInt8.ofNat s.size else nm2 s n j
def nmB (s:ByteArray) (n:Nat):Bs:=fnB (nm3 s n)
theorem beV_00 (r:List UInt8) (h:r.length=30):beV (0 :: 0 :: r)<2^240:=by
 have e:beV (0 :: 0 :: r)=beV r:=rfl
 rw[e]
 have:=beV_lt r
 rw[h] at this
 exact Nat.lt_of_lt_of_le this (by decide)
theorem nmB_lt (s:ByteArray) (n:Nat):beV (nmB s n).toList<2^240:=by
 have e:(nmB s n).toList=nm3 s n 0 :: nm3 s n 1 :: List.ofFn (n:=30) fun i=>nm3 s n (i.val+2):=by
  unfold nmB fnB
  rw[Array.toList_ofFn,List.ofFn_succ,List.ofFn_succ]
  rfl
 have e0:nm3 s n 0=0:=rfl
 have e1:nm3 s n 1=0:=rfl
 rw[e,e0,e1]
 exact beV_00 _ (by simp)
theorem rq_nm {N:Nat} (hN:2^240≤N) (s:ByteArray) (n:Nat):rq N (nmB s n)=some (beV (nmB s n).toList):=by
 unfold rq
 rw[if_pos ⟨fnB_size _,Nat.lt_of_lt_of_le (nmB_lt s n) hN⟩]
theorem iU8:(Tryz.prog.info? 5).map (·.size)=some 1:=by kernel_rfl
theorem num_c (s:ByteArray) (n:Nat) (w:World):Calls Tryz.prog 5 #[.string s,.int .i64 n] w (Ret fun e w'=>Below w.heap.size w w'∧ElQ (w.heap.size≤·) 32 w' e (nmB s n)):=by
 have hmk:=run_make_row' (P:=Tryz.prog) 23 5 (.int .u8 0) 1 SP.slice22 SP.info5 rfl .i64 .i64 32 (by omega) (by omega) w
 have hH0:Holds encB (w.alloc (.cells (madeCells #[.int .u8 0] 32) 5)) w.heap.size 0 (Array.replicate 32 0):=SP.Holds.made (enc:=encB) w 5 32 0
 obtain ⟨k,hk⟩:∃ k,Hid (w.heap.size=k):=⟨_,rfl⟩
 have hkl:w.heap.size<(w.alloc (.cells (madeCells #[.int .u8 0] 32) 5)).heap.size:=by rw[World.size_alloc];exact Nat.lt_succ_self _
 obtain ⟨W1,hW1⟩:∃ W,Hid (w.alloc (.cells (madeCells #[.int .u8 0] 32) 5)=W):=⟨_,rfl⟩
 have b1:Below w.heap.size w W1:=by rw[← hW1.out];exact below1 _ _
 have hmk':(Instr.makeSlice 23 (.int .i64 32) (.int .i64 32)).run Tryz.prog w=.ok (.slice (some ⟨k,0,none⟩) 32 32) W1:=by rw[← hW1.out,← hk.out];exact hmk
 rw[hW1.out,hk.out] at hH0
 rw[hW1.out,hk.out] at hkl
 clear hmk
 have hcp:=copy_cutO (P:=Tryz.prog) W1 23 9 3 5 k 2 28 30 s SP.slice22 SP.size5
  (fun j hj=>by rw[← Nat.zero_add (2+j),(hH0 (2+j) (by rw[Array.size_replicate];omega)).1];rfl) (fun j hj=>by rw[← Nat.zero_add (2+j)];exact (hH0 (2+j) (by rw[Array.size_replicate];omega)).2)
 obtain ⟨W2,hW2⟩:∃ W,Hid (W1.setCells k 2 ((s.data.toList.take 28).map fun x=>Value.int .u8 (x.toNat:Int))=W):=⟨_,rfl⟩
 have hH1:Holds encB W2 k 0 (fnB (nm1 s)):=by
  rw[← hW2.out]
  refine SP.Holds.setCells (o:=0) (p:=2) hH0 _ (by rw[fnB_size,Array.size_replicate]) (by rw[List.length_map,List.length_take,Array.size_replicate];omega) (fun j hj=>?_) (fun j hj hout=>?_)
  ·rw[List.length_map,List.length_take] at hj
   rw[fnB_at _ _ (by omega),List.getElem_map,List.getElem_take]
   unfold nm1
   rw[if_pos (by omega),Nat.add_sub_cancel_left,List.getD_eq_getElem?_getD,List.getElem?_eq_getElem (by omega)]
   rfl
  ·rw[Array.size_replicate] at hj
   rw[List.length_map,List.length_take] at hout
   rw[fnB_at _ _ hj,SP.rep_at 32 j hj]
   unfold nm1
   split
   ·rw[List.getD_eq_getElem?_getD,List.getElem?_eq_none (by omega)]
    rfl
   ·rfl
 obtain ⟨W3,hW3⟩:∃ W,Hid (W2.setCells k 30 [.int .u8 (IntKind.u8.wrap (n:Int))]=W):=⟨_,rfl⟩
 have hH2:Holds encB W3 k 0 (fnB (nm2 s n)):=by
  rw[← hW3.out]
  refine SP.Holds.setCells (o:=0) (p:=30) hH1 _ (by rw[fnB_size,fnB_size]) (by rw[fnB_size];exact Nat.le_of_ble_eq_true rfl) (fun j hj=>?_) (fun j hj hout=>?_)
  ·have:j=0:=by simpa using hj
   subst this
   rw[fnB_at _ _ (by decide),wrap8]
   rfl
  ·rw[fnB_size] at hj
   rw[fnB_at _ _ hj,fnB_at _ _ hj]
   unfold nm2
   rw[if_neg (by simp at hout;omega)]
 obtain ⟨W4,hW4⟩:∃ W,Hid (W3.setCells k 31 [.int .u8 (IntKind.u8.wrap (s.size:Int))]=W):=⟨_,rfl⟩
 have hH3:Holds encB W4 k 0 (nmB s n):=by
  rw[← hW4.out]
  refine SP.Holds.setCells (o:=0) (p:=31) hH2 _ (by rw[show nmB s n=fnB (nm3 s n) from rfl,fnB_size,fnB_size]) (by rw[fnB_size];exact Nat.le_of_ble_eq_true rfl) (fun j hj=>?_) (fun j hj hout=>?_)
  ·have:j=0:=by simpa using hj
   subst this
   rw[show nmB s n=fnB (nm3 s n) from rfl,fnB_at _ _ (by decide),wrap8]
   rfl
  ·rw[fnB_size] at hj
   rw[show nmB s n=fnB (nm3 s n) from rfl,fnB_at _ _ hj,fnB_at _ _ hj]
   unfold nm3
   rw[if_neg (by simp at hout;omega)]
 have bl:Below w.heap.size w W4:=by
  rw[← hW4.out,← hW3.out,← hW2.out]
  exact RG.below_setCells (by rw[hk.out];exact Nat.le_refl _) _ _ _ (RG.below_setCells (by rw[hk.out];exact Nat.le_refl _) _ _ _ (RG.below_setCells (by rw[hk.out];exact Nat.le_refl _) _ _ _ b1))
 have sz:k<W4.heap.size:=by rw[← hW4.out,← hW3.out,← hW2.out,RG.setCells_size,RG.setCells_size,RG.setCells_size];exact hkl
 rw[hW2.out] at hcp
 have T3:Hid (W2.there k 30 1∧W3.there k 31 1):=⟨fun j hj=>by
  have hj0:j=0:=by omega
  subst hj0
  have:=hH1 30 (by rw[fnB_size];decide)
  exact ⟨by rw[show (30+0:Nat)=0+30 from rfl,this.1];rfl,this.2⟩,fun j hj=>by
  have hj0:j=0:=by omega
  subst hj0
  have:=hH2 31 (by rw[fnB_size];decide)
  exact ⟨by rw[show (31+0:Nat)=0+31 from rfl,this.1];rfl,this.2⟩⟩
 have KE:Hid (Below w.heap.size w W4∧ElQ (w.heap.size≤·) 32 W4 (.slice (some ⟨k,0,none⟩) 32 32) (nmB s n)):=⟨bl,k,32,rfl,Nat.le_refl _,fnB_size _,Nat.le_of_eq hk.out,sz,hH3⟩
 clear hH0 hH1 hH2 hH3 bl sz hkl b1 hW1 hW2
 go_enter Tryz.func5,Tryz.ntmps5
 go_wp2_with (first|(refine wpList_st1 rfl 5 (.tmp 14) _ rfl k 30 (.int .u8 (IntKind.u8.wrap (n:Int))) ?_ ?_ rfl rfl T3.out.1 iU8 ?_;rfl;rfl;rw[hW3.out])|(refine wpList_st1 rfl 5 (.tmp 19) _ rfl k 31 (.int .u8 (IntKind.u8.wrap (s.size:Int))) ?_ ?_ rfl rfl T3.out.2 iU8 ?_;rfl;rfl;rw[hW4.out])|fail)
 go_ret
 exact ⟨_,rfl,KE.out.1,KE.out.2⟩
end
section
open Go.RowKit Go.Sort Go.Deep SPA
structure T32 (Q:Nat→Prop) (base i:Nat) (W:World) (v:Value) (B:Nat→Bs):Prop where
 ex:∃ xs,W.ownsRow base 23 1 v i xs∧∀ j,j<i→∃ x,xs[j]? = some x∧ElQ Q 32 W x (B j)
section
variable {Q Q':Nat→Prop} {base i:Nat} {w W W':World} {v u:Value} {B:Nat→Bs}
theorem T32.lt (h:T32 Q base i W v B) {g:Nat} (hg:v.ownBlock=some g):base≤g∧g<W.heap.size:=by
 obtain ⟨xs,h1,-⟩:=h.ex
 have:=own_lt h1 hg
 exact ⟨this.1,this.2.1⟩
theorem T32.keep (h:T32 Q base i W v B) (hk:Kq Q W W') (ho:∀ g,v.ownBlock=some g→W'.heap[g]? = W.heap[g]?):T32 Q base i W' v B:=by
 obtain ⟨xs,h1,h2⟩:=h.ex
 refine ⟨xs,own_keep h1 ho,fun j hj=>?_⟩
 obtain ⟨x,h3,h4⟩:=h2 j hj
 exact ⟨x,h3,h4.keep hk⟩
theorem T32.mono2 (h:T32 Q base i W v B) (hQ:∀ g,g<W.heap.size→Q g→Q' g):T32 Q' base i W v B:=by
 obtain ⟨xs,h1,h2⟩:=h.ex
 refine ⟨xs,h1,fun j hj=>?_⟩
 obtain ⟨x,h3,h4⟩:=h2 j hj
 exact ⟨x,h3,h4.mono2 hQ⟩
theorem T32.shape (h:T32 Q base i W v B):∃ q c,v=.slice q i c:=by
 obtain ⟨xs,⟨-,⟨rfl,h0⟩|⟨g,cap,cur,rfl,-⟩⟩,-⟩:=h.ex
 ·exact ⟨none,0,by rw[h0]⟩
 ·exact ⟨_,_,rfl⟩
theorem T32.args {q:Option Addr} {c:Nat} (h:T32 Q base i W (.slice q i c) B):Args W q i B:=fun hi=>by
 obtain ⟨xs,h1,h2⟩:=h.ex
 obtain ⟨g,c',e⟩:=own_shapeQ h1 hi
 injection e with e1 e2 e3
 subst e1
 refine ⟨g,rfl,(h.lt (g:=g) rfl).2,fun j hj=>?_⟩
 obtain ⟨x,h3,h4⟩:=h2 j hj
 exact ⟨x,own_cellQ h1 h3,h4.argS⟩
theorem T32.app {xs:List Value} {x v':Value} (h2:∀ j,j<i→∃ x,xs[j]? = some x∧ElQ Q 32 W x (B j)) (hl:xs.length=i) (r2:W'.ownsRow base 23 1 v' (i+1) (xs++[x])) (hx:ElQ Q 32 W x (B i)) (hQ:∀ g,g<W.heap.size→Q g→Q' g) (kq:Kq Q' W W'):T32 Q' base (i+1) W' v' B:=⟨xs++[x],r2,fun j hj=>by
 by_cases hji:j<i
 ·obtain ⟨y,h3,h4⟩:=h2 j hji
  exact ⟨y,by rw[List.getElem?_append_left (by omega)];exact h3,(h4.mono2 hQ).keep kq⟩
 ·obtain rfl:j=i:=by omega
  exact ⟨x,by rw[List.getElem?_append_right (by omega),hl,Nat.sub_self];rfl,(hx.mono2 hQ).keep kq⟩⟩
end
def Q2 (v u:Value) (g:Nat):Prop:=v.ownBlock≠some g∧u.ownBlock≠some g
structure Hs (w W:World) (i j:Nat) (v u:Value) (A B:Nat→Bs):Prop where
 bl:Below w.heap.size w W
 tA:T32 (Q2 v u) w.heap.size i W v A
 tB:T32 (Q2 v u) w.heap.size j W u B
 ne:∀ g,v.ownBlock=some g→u.ownBlock≠some g
section
variable {w W W':World} {i j:Nat} {v u:Value} {A B:Nat→Bs}
theorem Hs.swap (h:Hs w W i j v u A B):Hs w W j i u v B A:=⟨h.bl,h.tB.mono2 fun _ _ q=>⟨q.2,q.1⟩,h.tA.mono2 fun _ _ q=>⟨q.2,q.1⟩,fun g h1 h2=>h.ne g h2 h1⟩
theorem Hs.grow (h:Hs w W i j v u A B) (hb:Below W.heap.size W W'):Hs w W' i j v u A B:=⟨h.bl.trans (hb.mono h.bl.size),h.tA.keep (Kq.of_below hb) fun g hg=>hb.block g (h.tA.lt hg).2,h.tB.keep (Kq.of_below hb) fun g hg=>hb.block g (h.tB.lt hg).2,h.ne⟩
theorem Hs.qn (h:Hs w W i j v u A B):∀ g,W.heap.size≤g→Q2 v u g:=fun g hg=>⟨fun e=>by have:=(h.tA.lt e).2;omega,fun e=>by have:=(h.tB.lt e).2;omega⟩
theorem Hs.app {x:Value} {ga:Nat} (h:Hs w W i j v u A B) (hx:ElQ (Q2 v u) 32 W x (A i)) (hc:W.cell? ⟨ga,0,none⟩=some x) (hi:i≤900) :
 ∃ v' W',(Builtin.append_ #[22,22] 22 #[v,.slice (some ⟨ga,0,none⟩) 1 1]).run Tryz.prog W=.ok v' W'∧Hs w W' (i+1) j v' u A B:=by
 obtain ⟨xs,h1,h2⟩:=h.tA.ex
 obtain ⟨v',W',r1,r2,A1⟩:=app_own h1 hx.one.2 hc (by omega) h.bl.size
 have hQ:∀ g,g<W.heap.size→Q2 v u g→Q2 v' u g:=fun g hg q=>⟨fun e=>by
  rcases A1.mv with m|⟨⟨g',m,m2⟩,-⟩
  ·rw[m] at e;exact q.1 e
  ·rw[m] at e;have:=Option.some.inj e;omega,q.2⟩
 have kq:Kq (Q2 v' u) W W':=⟨A1.size,fun g q hg=>by
  rcases A1.mv with m|⟨-,m⟩
  ·exact A1.keep g hg (by rw[← m];exact q.1)
  ·exact m g hg⟩
 have hown:∀ g,v.ownBlock=some g→w.heap.size≤g:=fun g hg=>(h.tA.lt hg).1
 refine ⟨v',W',r1,⟨A1.os.trans h.bl.os,A1.tape.trans h.bl.tape,A1.output.trans h.bl.output,Nat.le_trans h.bl.size A1.size,fun g hg=>(A1.keep g (Nat.lt_of_lt_of_le hg h.bl.size) fun e=>by have:=hown g e;omega).trans (h.bl.block g hg)⟩,T32.app h2 (by have:=h1.1;omega) r2 hx hQ kq,(h.tB.mono2 hQ).keep kq fun g hg=>A1.keep g (h.tB.lt hg).2 fun e=>h.ne g e hg,fun g hg e=>?_⟩
 rcases A1.mv with m|⟨⟨g',m,m2⟩,-⟩
 ·rw[m] at hg;exact h.ne g hg e
 ·rw[m] at hg
  have:=Option.some.inj hg
  have:=(h.tB.lt e).2
  omega
end
theorem pow7 (z:Int) (hz:¬ z<0):∃ t:Nat,t≤6∧wrap64 (2^(z%7).toNat)=((2^t:Nat):Int):=by
 refine ⟨(z%7).toNat,by omega,?_⟩
 have:(z%7).toNat<7:=by omega
 generalize (z%7).toNat=t at this
 match t,this with
 | 0,_=>decide +kernel
 | 1,_=>decide +kernel
 | 2,_=>decide +kernel
 | 3,_=>decide +kernel
 | 4,_=>decide +kernel
 | 5,_=>decide +kernel
 | 6,_=>decide +kernel
 | n+7,h=>omega
end
section
open Go.RowKit Go.Sort Go.Deep SPA
variable {P:Nat} [NeZero P] {N:Nat} [NeZero N]
theorem bslN {Q:Nat→Prop} {W:World} {x:Value} {b:Bs} (h:ElQ Q 32 W x b) (w:World):(Instr.buildSlice 22 1 #[(0,x)]).run Tryz.prog w=.ok (.slice (some ⟨w.heap.size,0,none⟩) 1 1) (w.alloc (.cells #[x] 23)):=by
 obtain ⟨k,c,rfl,-⟩:=h
 exact bslB k 32 c w
theorem halves_p (label s x:ByteArray) (z:Int) (h1:¬ (label.size:Int) > 4096) (h2:¬ (s.size:Int) > 4096) (h3:¬ (x.size:Int) > 4096) (hz:¬ z<0) (w:World)
 (hPV:∀ (t:Nat) (va vb:Value) (W:World),t≤6→Hs w W (2^t) (2^t) va vb (nmB s) (nmB x)→Calls Tryz.prog 6 #[.string label,va,vb] W (Ret fun e W'=>Below W.heap.size W W'∧∃ vp vL vR vA vB,e=.tuple #[vp,.agg #[vL,vR,vA,vB],.int .i64 0]∧(∃ q c,vp=.slice q 33 c)∧(#[vL,vR,vA,vB]:Array Value).all (·.oneCell')=true∧∀ V,Below W'.heap.size W' V→Calls Tryz.prog 7 #[.string label,.int .i64 ((2^t:Nat):Int),vp,.agg #[vL,vR,vA,vB]] V (Ret fun e V'=>Below V.heap.size V V'∧e=.bool true)∧Calls Tryz.prog 7 #[.string label,.int .i64 ((2*2^t:Nat):Int),vp,.agg #[vL,vR,vA,vB]] V (Ret fun e V'=>Below V.heap.size V V'∧e=.bool false))) :
 Calls Tryz.prog 3 #[.string label,.int .i64 z,.string s,.string x] w (Ret fun e w'=>Below w.heap.size w w'∧e=.bool true):=by
 obtain ⟨t,ht,hzt⟩:=pow7 z hz
 have K0:Hid (Hs w w 0 0 (.slice none 0 0) (.slice none 0 0) (nmB s) (nmB x)):=⟨Below.refl _ _,⟨[],⟨rfl,Or.inl ⟨rfl,rfl⟩⟩,fun j hj=>absurd hj (Nat.not_lt_zero _)⟩,⟨[],⟨rfl,Or.inl ⟨rfl,rfl⟩⟩,fun j hj=>absurd hj (Nat.not_lt_zero _)⟩,fun g e=>by cases e⟩
 have HPV:=Hid.mk' (And.intro hPV ht)
 have cN:=Hid.mk' (fun (s:ByteArray) (n:Nat) (W:World)=>num_c s n W)
 have hn64:2^t≤64:=Nat.le_trans (Nat.pow_le_pow_right (by decide) ht) (by decide)
 obtain ⟨n,hn⟩:∃ n,Hid (2^t=n):=⟨2^t,Hid.mk' rfl⟩
 rw[hn.out] at hn64 hzt
 clear hPV
 go_enter Tryz.func3,Tryz.ntmps3
 go_wp2_with fail
 clear hzt
 go_loopg [10,11,12] n (fun m s10 s11 s12 W=>∃ i:Nat,i+m=n∧s12=.int .i64 i∧Hid (Hs w W i i s10 s11 (nmB s) (nmB x)))
 case atStart=>exact ⟨0,by omega,rfl,K0⟩
 case round =>
  clear K0
  obtain ⟨i,hik,rfl,KM⟩:=hrel
  by_cases hi:i<n
  ·have hi':(i:Int)<(n:Int):=by omega
   have hi5:(i:Int)≤600:=by omega
   go_wp2_with fail
   refine (cN.out s i wr).mono ?_
   rintro e W1 ⟨x1,rfl,hb1,hE1⟩
   have H1:=KM.out.grow hb1
   have E1:ElQ (Q2 u10 u11) 32 W1 x1 (nmB s i):=hE1.mono2 fun g _ hg=>KM.out.qn g hg
   have bb:=below1 W1 (.cells #[x1] 23)
   obtain ⟨v',W3,ap,H3⟩:=(H1.grow bb).app (ga:=W1.heap.size) (E1.keep (Kq.of_below bb)) ((row_new W1 [x1] 23).2.1 0 _ rfl) (by omega)
   have bs:=bslN E1 W1
   obtain ⟨g1,hg1⟩:∃ g,Hid (W1.heap.size=g):=⟨_,rfl⟩
   obtain ⟨W2,hW2⟩:∃ W,Hid (W1.alloc (.cells #[x1] 23)=W):=⟨_,rfl⟩
   rw[hg1.out,hW2.out] at bs ap
   have HB:=Hid.mk' bs
   have HA:=Hid.mk' ap
   have K3:=Hid.mk' H3
   clear hb1 hE1 H1 E1 bb bs ap H3 KM hW2 hg1
   go_wp2_with (first|(refine wpList_bsl (v:=.slice (some ⟨g1,0,none⟩) 1 1) (w':=W2) rfl 22 1 _ rfl #[(0,x1)] ?_ ?_ ?_;kernel_rfl;exact HB.out)|(refine wpList_app (x:=u10) (y:=.slice (some ⟨g1,0,none⟩) 1 1) (v:=v') (w':=W3) rfl (.tmp 44) (.tmp 48) 22 rfl ?_ ?_ ?_ ?_;rfl;rfl;exact HA.out)|fail)
   refine (cN.out x i W3).mono ?_
   rintro e W4 ⟨x2,rfl,hb4,hE4⟩
   have H4:=(K3.out.grow hb4).swap
   have E4:ElQ (Q2 u11 v') 32 W4 x2 (nmB x i):=hE4.mono2 fun g _ hg=>K3.out.swap.qn g hg
   have bb4:=below1 W4 (.cells #[x2] 23)
   obtain ⟨v2,W6,ap4,H6⟩:=(H4.grow bb4).app (ga:=W4.heap.size) (E4.keep (Kq.of_below bb4)) ((row_new W4 [x2] 23).2.1 0 _ rfl) (by omega)
   have bs4:=bslN E4 W4
   obtain ⟨g4,hg4⟩:∃ g,Hid (W4.heap.size=g):=⟨_,Hid.mk' rfl⟩
   obtain ⟨W5,hW5⟩:∃ W,Hid (W4.alloc (.cells #[x2] 23)=W):=⟨_,Hid.mk' rfl⟩
   rw[hg4.out,hW5.out] at bs4 ap4
   have HB4:=Hid.mk' bs4
   have HA4:=Hid.mk' ap4
   have K6:=Hid.mk' H6.swap
   clear hb4 hE4 H4 E4 bb4 bs4 ap4 H6 K3 hW5 hg4 HB HA
   go_wp2_with (first|(refine wpList_bsl (v:=.slice (some ⟨g4,0,none⟩) 1 1) (w':=W5) rfl 22 1 _ rfl #[(0,x2)] ?_ ?_ ?_;kernel_rfl;exact HB4.out)|(refine wpList_app (x:=u11) (y:=.slice (some ⟨g4,0,none⟩) 1 1) (v:=v2) (w':=W6) rfl (.tmp 50) (.tmp 54) 22 rfl ?_ ?_ ?_ ?_;rfl;rfl;exact HA4.out)|fail)
   go_roundg (gk-1)
   case measure=>omega
   case rel=>exact ⟨i+1,by omega,rfl,K6⟩
  ·have hi':¬ (i:Int)<(n:Int):=by omega
   have hin:i=n:=by omega
   have hc:=HPV.out.1 t u10 u11 wr HPV.out.2 (by rw[hn.out,← hin];exact KM.out)
   rw[hn.out] at hc
   have HC:=Hid.mk' (And.intro hc KM.out.bl)
   have hn6:(n:Int)≤64:=by omega
   have hn0:0≤(n:Int):=by omega
   clear hc KM cN HPV
   go_wp2_with fail
   refine HC.out.1.mono ?_
   rintro e W1 ⟨uu,rfl,hb1,vp,vL,vR,vA,vB,rfl,⟨q,c,rfl⟩,hone,hV⟩
   obtain ⟨k14,hk14⟩:∃ g,Hid (W1.heap.size=g):=⟨_,Hid.mk' rfl⟩
   obtain ⟨W2,hW2⟩:∃ W,Hid (W1.alloc (.cells #[.slice none 0 0,.slice none 0 0,.slice none 0 0,.slice none 0 0] 26)=W):=⟨_,Hid.mk' rfl⟩
   obtain ⟨W3,hW3⟩:∃ W,Hid (W2.setCells k14 0 [vL,vR,vA,vB]=W):=⟨_,Hid.mk' rfl⟩
   have F2:Hid (Row W2 k14 [.slice none 0 0,.slice none 0 0,.slice none 0 0,.slice none 0 0]∧Below W1.heap.size W1 W2):=by rw[← hW2.out,← hk14.out];exact ⟨row_new W1 _ _,below1 _ _⟩
   have b13:Below W1.heap.size W1 W3:=by rw[← hW3.out];exact RG.below_setCells (by rw[hk14.out];exact Nat.le_refl _) _ _ _ F2.out.2
   have r3:Row W3 k14 [vL,vR,vA,vB]:=by rw[← hW3.out];exact F2.out.1.put rfl
   have bw1:=HC.out.2.trans (hb1.mono HC.out.2.size)
   have KV:=Hid.mk' (And.intro b13 (And.intro r3 (And.intro (bw1.trans (b13.mono bw1.size)) (And.intro hone hV))))
   obtain ⟨vI,hvI⟩:∃ v,Hid (Value.agg #[vL,vR,vA,vB]=v):=⟨_,Hid.mk' rfl⟩
   rw[hvI.out] at KV
   rw[hvI.out]
   obtain ⟨dI,hdI1,hdI2⟩:=Option.map_eq_some_iff.1 uInn
   have HDI:Hid (Tryz.prog.underlying 26=some dI∧dI.isRow=true):=Hid.mk' ⟨hdI1,hdI2⟩
   clear hb1 hone hV b13 r3 bw1 HC hdI1 hdI2
   go_wp2_with (first|(refine wpList_al (v:=.pointer (some ⟨k14,0,none⟩)) (w':=W2) rfl 26 14 rfl rfl ?_ ?_;(rw[← hW2.out,← hk14.out];kernel_rfl))|(refine wpList_store_mid rfl 26 (.tmp 14) _ rfl k14 0 #[vL,vR,vA,vB] ?_ ?_ ?_ ?_ ?_ ?_;rfl;exact hvI.out.symm;exact F2.out.1.2.2;exact iInn;exact KV.out.2.2.2.1;rw[show (#[vL,vR,vA,vB]:Array Value).toList=[vL,vR,vA,vB] from rfl,hW3.out])|(refine wpList_load_mid rfl 26 (.tmp 14) rfl k14 0 ?_ [vL,vR,vA,vB] dI ?_ ?_ ?_ ?_ ?_;rfl;exact KV.out.2.1.2.1;exact HDI.out.1;exact HDI.out.2;exact iInn;rw[show Value.agg [vL,vR,vA,vB].toArray=vI from hvI.out])|fail)
   refine (KV.out.2.2.2.2 W3 KV.out.1).1.mono ?_
   rintro e W4 ⟨uu,rfl,hb4,rfl⟩
   have K4:Hid (Below W1.heap.size W1 W4∧Row W4 k14 [vL,vR,vA,vB]∧Below w.heap.size w W4):=Hid.mk' ⟨KV.out.1.trans (hb4.mono KV.out.1.size),KV.out.2.1.below hb4,KV.out.2.2.1.trans (hb4.mono KV.out.2.2.1.size)⟩
   clear hb4
   go_wp2_with (first|(refine wpList_load_mid rfl 26 (.tmp 14) rfl k14 0 ?_ [vL,vR,vA,vB] dI ?_ ?_ ?_ ?_ ?_;rfl;exact K4.out.2.1.2.1;exact HDI.out.1;exact HDI.out.2;exact iInn;rw[show Value.agg [vL,vR,vA,vB].toArray=vI from hvI.out])|fail)
   have e2:(2:Int)*(n:Int)=((2*n:Nat):Int):=by omega
   rw[e2]
   clear e2
   refine (KV.out.2.2.2.2 W4 K4.out.1).2.mono ?_
   rintro e W5 ⟨uu,rfl,hb5,rfl⟩
   have K5:=Hid.mk' (K4.out.2.2.trans (hb5.mono K4.out.2.2.size))
   clear hb5 K4 KV
   go_wp2_with fail
   go_ret
   exact ⟨_,rfl,K5.out,rfl⟩
end
section
open Go.RowKit Go.Sort Go.Deep SPA
variable {P:Nat} [NeZero P] {N:Nat}
theorem pow7w (t:Nat) (ht:t≤6):wrap64 (2^t)=((2^t:Nat):Int):=by
 match t,ht with
 | 0,_=>decide +kernel
 | 1,_=>decide +kernel
 | 2,_=>decide +kernel
 | 3,_=>decide +kernel
 | 4,_=>decide +kernel
 | 5,_=>decide +kernel
 | 6,_=>decide +kernel
 | n+7,h=>omega
theorem pow7m (z:Int) (hz:z<0):∃ t:Nat,t≤6∧-(z+1).tmod 7=(t:Int):=by
 refine ⟨((-(z+1))%7).toNat,by omega,?_⟩
 rw[← Int.neg_tmod,Int.tmod_eq_emod_of_nonneg (by omega)]
 omega
theorem halves_m (label s x:ByteArray) (z:Int) (h1:¬ (label.size:Int) > 4096) (h2:¬ (s.size:Int) > 4096) (h3:¬ (x.size:Int) > 4096) (hz:z<0) (hlo:-9223372036854775808≤z) (w:World)
 (hPV:∀ (t:Nat) (va vb:Value) (W:World),t≤6→Hs w W (2^t) (2^t) va vb (nmB s) (nmB x)→Calls Tryz.prog 6 #[.string label,va,vb] W (Ret fun e W'=>Below W.heap.size W W'∧∃ vp vL vR vA vB,e=.tuple #[vp,.agg #[vL,vR,vA,vB],.int .i64 0]∧(∃ q c,vp=.slice q 33 c)∧(#[vL,vR,vA,vB]:Array Value).all (·.oneCell')=true∧∀ V,Below W'.heap.size W' V→Calls Tryz.prog 7 #[.string label,.int .i64 ((2^t:Nat):Int),vp,.agg #[vL,vR,vA,vB]] V (Ret fun e V'=>Below V.heap.size V V'∧e=.bool true)∧Calls Tryz.prog 7 #[.string label,.int .i64 ((2*2^t:Nat):Int),vp,.agg #[vL,vR,vA,vB]] V (Ret fun e V'=>Below V.heap.size V V'∧e=.bool false))) :
 Calls Tryz.prog 3 #[.string label,.int .i64 z,.string s,.string x] w (Ret fun e w'=>Below w.heap.size w w'∧e=.bool true):=by
 obtain ⟨t,ht,hmt⟩:=pow7m z hz
 have hzt:=pow7w t ht
 have K0:Hid (Hs w w 0 0 (.slice none 0 0) (.slice none 0 0) (nmB s) (nmB x)):=⟨Below.refl _ _,⟨[],⟨rfl,Or.inl ⟨rfl,rfl⟩⟩,fun j hj=>absurd hj (Nat.not_lt_zero _)⟩,⟨[],⟨rfl,Or.inl ⟨rfl,rfl⟩⟩,fun j hj=>absurd hj (Nat.not_lt_zero _)⟩,fun g e=>by cases e⟩
 have HPV:=Hid.mk' (And.intro hPV ht)
 have cN:=Hid.mk' (fun (s:ByteArray) (n:Nat) (W:World)=>num_c s n W)
 have hn64:2^t≤64:=Nat.le_trans (Nat.pow_le_pow_right (by decide) ht) (by decide)
 obtain ⟨n,hn⟩:∃ n,Hid (2^t=n):=⟨2^t,Hid.mk' rfl⟩
 rw[hn.out] at hn64 hzt
 clear hPV
 go_enter Tryz.func3,Tryz.ntmps3
 go_wp2_with fail
 clear hzt hmt
 go_loopg [10,11,12] n (fun m s10 s11 s12 W=>∃ i:Nat,i+m=n∧s12=.int .i64 i∧Hid (Hs w W i i s10 s11 (nmB s) (nmB x)))
 case atStart=>exact ⟨0,by omega,rfl,K0⟩
 case round =>
  clear K0
  obtain ⟨i,hik,rfl,KM⟩:=hrel
  by_cases hi:i<n
  ·have hi':(i:Int)<(n:Int):=by omega
   have hi5:(i:Int)≤600:=by omega
   go_wp2_with fail
   refine (cN.out s i wr).mono ?_
   rintro e W1 ⟨x1,rfl,hb1,hE1⟩
   have H1:=KM.out.grow hb1
   have E1:ElQ (Q2 u10 u11) 32 W1 x1 (nmB s i):=hE1.mono2 fun g _ hg=>KM.out.qn g hg
   have bb:=below1 W1 (.cells #[x1] 23)
   obtain ⟨v',W3,ap,H3⟩:=(H1.grow bb).app (ga:=W1.heap.size) (E1.keep (Kq.of_below bb)) ((row_new W1 [x1] 23).2.1 0 _ rfl) (by omega)
   have bs:=bslN E1 W1
   obtain ⟨g1,hg1⟩:∃ g,Hid (W1.heap.size=g):=⟨_,rfl⟩
   obtain ⟨W2,hW2⟩:∃ W,Hid (W1.alloc (.cells #[x1] 23)=W):=⟨_,rfl⟩
   rw[hg1.out,hW2.out] at bs ap
   have HB:=Hid.mk' bs
   have HA:=Hid.mk' ap
   have K3:=Hid.mk' H3
   clear hb1 hE1 H1 E1 bb bs ap H3 KM hW2 hg1
   go_wp2_with (first|(refine wpList_bsl (v:=.slice (some ⟨g1,0,none⟩) 1 1) (w':=W2) rfl 22 1 _ rfl #[(0,x1)] ?_ ?_ ?_;kernel_rfl;exact HB.out)|(refine wpList_app (x:=u10) (y:=.slice (some ⟨g1,0,none⟩) 1 1) (v:=v') (w':=W3) rfl (.tmp 44) (.tmp 48) 22 rfl ?_ ?_ ?_ ?_;rfl;rfl;exact HA.out)|fail)
   refine (cN.out x i W3).mono ?_
   rintro e W4 ⟨x2,rfl,hb4,hE4⟩
   have H4:=(K3.out.grow hb4).swap
   have E4:ElQ (Q2 u11 v') 32 W4 x2 (nmB x i):=hE4.mono2 fun g _ hg=>K3.out.swap.qn g hg
   have bb4:=below1 W4 (.cells #[x2] 23)
   obtain ⟨v2,W6,ap4,H6⟩:=(H4.grow bb4).app (ga:=W4.heap.size) (E4.keep (Kq.of_below bb4)) ((row_new W4 [x2] 23).2.1 0 _ rfl) (by omega)
   have bs4:=bslN E4 W4
   obtain ⟨g4,hg4⟩:∃ g,Hid (W4.heap.size=g):=⟨_,Hid.mk' rfl⟩
   obtain ⟨W5,hW5⟩:∃ W,Hid (W4.alloc (.cells #[x2] 23)=W):=⟨_,Hid.mk' rfl⟩
   rw[hg4.out,hW5.out] at bs4 ap4
   have HB4:=Hid.mk' bs4
   have HA4:=Hid.mk' ap4
   have K6:=Hid.mk' H6.swap
   clear hb4 hE4 H4 E4 bb4 bs4 ap4 H6 K3 hW5 hg4 HB HA
   go_wp2_with (first|(refine wpList_bsl (v:=.slice (some ⟨g4,0,none⟩) 1 1) (w':=W5) rfl 22 1 _ rfl #[(0,x2)] ?_ ?_ ?_;kernel_rfl;exact HB4.out)|(refine wpList_app (x:=u11) (y:=.slice (some ⟨g4,0,none⟩) 1 1) (v:=v2) (w':=W6) rfl (.tmp 50) (.tmp 54) 22 rfl ?_ ?_ ?_ ?_;rfl;rfl;exact HA4.out)|fail)
   go_roundg (gk-1)
   case measure=>omega
   case rel=>exact ⟨i+1,by omega,rfl,K6⟩
  ·have hi':¬ (i:Int)<(n:Int):=by omega
   have hin:i=n:=by omega
   have hc:=HPV.out.1 t u10 u11 wr HPV.out.2 (by rw[hn.out,← hin];exact KM.out)
   rw[hn.out] at hc
   have HC:=Hid.mk' (And.intro hc KM.out.bl)
   have hn6:(n:Int)≤64:=by omega
   have hn0:0≤(n:Int):=by omega
   clear hc KM cN HPV
   go_wp2_with fail
   refine HC.out.1.mono ?_
   rintro e W1 ⟨uu,rfl,hb1,vp,vL,vR,vA,vB,rfl,⟨q,c,rfl⟩,hone,hV⟩
   obtain ⟨k14,hk14⟩:∃ g,Hid (W1.heap.size=g):=⟨_,Hid.mk' rfl⟩
   obtain ⟨W2,hW2⟩:∃ W,Hid (W1.alloc (.cells #[.slice none 0 0,.slice none 0 0,.slice none 0 0,.slice none 0 0] 26)=W):=⟨_,Hid.mk' rfl⟩
   obtain ⟨W3,hW3⟩:∃ W,Hid (W2.setCells k14 0 [vL,vR,vA,vB]=W):=⟨_,Hid.mk' rfl⟩
   have F2:Hid (Row W2 k14 [.slice none 0 0,.slice none 0 0,.slice none 0 0,.slice none 0 0]∧Below W1.heap.size W1 W2):=by rw[← hW2.out,← hk14.out];exact ⟨row_new W1 _ _,below1 _ _⟩
   have b13:Below W1.heap.size W1 W3:=by rw[← hW3.out];exact RG.below_setCells (by rw[hk14.out];exact Nat.le_refl _) _ _ _ F2.out.2
   have r3:Row W3 k14 [vL,vR,vA,vB]:=by rw[← hW3.out];exact F2.out.1.put rfl
   have bw1:=HC.out.2.trans (hb1.mono HC.out.2.size)
   have KV:=Hid.mk' (And.intro b13 (And.intro r3 (And.intro (bw1.trans (b13.mono bw1.size)) (And.intro hone hV))))
   obtain ⟨vI,hvI⟩:∃ v,Hid (Value.agg #[vL,vR,vA,vB]=v):=⟨_,Hid.mk' rfl⟩
   rw[hvI.out] at KV
   rw[hvI.out]
   obtain ⟨dI,hdI1,hdI2⟩:=Option.map_eq_some_iff.1 uInn
   have HDI:Hid (Tryz.prog.underlying 26=some dI∧dI.isRow=true):=Hid.mk' ⟨hdI1,hdI2⟩
   clear hb1 hone hV b13 r3 bw1 HC hdI1 hdI2
   go_wp2_with (first|(refine wpList_al (v:=.pointer (some ⟨k14,0,none⟩)) (w':=W2) rfl 26 14 rfl rfl ?_ ?_;(rw[← hW2.out,← hk14.out];kernel_rfl))|(refine wpList_store_mid rfl 26 (.tmp 14) _ rfl k14 0 #[vL,vR,vA,vB] ?_ ?_ ?_ ?_ ?_ ?_;rfl;exact hvI.out.symm;exact F2.out.1.2.2;exact iInn;exact KV.out.2.2.2.1;rw[show (#[vL,vR,vA,vB]:Array Value).toList=[vL,vR,vA,vB] from rfl,hW3.out])|(refine wpList_load_mid rfl 26 (.tmp 14) rfl k14 0 ?_ [vL,vR,vA,vB] dI ?_ ?_ ?_ ?_ ?_;rfl;exact KV.out.2.1.2.1;exact HDI.out.1;exact HDI.out.2;exact iInn;rw[show Value.agg [vL,vR,vA,vB].toArray=vI from hvI.out])|fail)
   refine (KV.out.2.2.2.2 W3 KV.out.1).1.mono ?_
   rintro e W4 ⟨uu,rfl,hb4,rfl⟩
   have K4:Hid (Below W1.heap.size W1 W4∧Row W4 k14 [vL,vR,vA,vB]∧Below w.heap.size w W4):=Hid.mk' ⟨KV.out.1.trans (hb4.mono KV.out.1.size),KV.out.2.1.below hb4,KV.out.2.2.1.trans (hb4.mono KV.out.2.2.1.size)⟩
   clear hb4
   go_wp2_with (first|(refine wpList_load_mid rfl 26 (.tmp 14) rfl k14 0 ?_ [vL,vR,vA,vB] dI ?_ ?_ ?_ ?_ ?_;rfl;exact K4.out.2.1.2.1;exact HDI.out.1;exact HDI.out.2;exact iInn;rw[show Value.agg [vL,vR,vA,vB].toArray=vI from hvI.out])|fail)
   have e2:(2:Int)*(n:Int)=((2*n:Nat):Int):=by omega
   rw[e2]
   clear e2
   refine (KV.out.2.2.2.2 W4 K4.out.1).2.mono ?_
   rintro e W5 ⟨uu,rfl,hb5,rfl⟩
   have K5:=Hid.mk' (K4.out.2.2.trans (hb5.mono K4.out.2.2.size))
   clear hb5 K4 KV
   go_wp2_with fail
   go_ret
   exact ⟨_,rfl,K5.out,rfl⟩
end
section
open Go.RowKit Go.Sort Go.Deep SPA
variable {P:Nat} [NeZero P] {N:Nat} [NeZero N]
theorem dbl (t:Nat) (ht:t≤6):∃ (T:Nat) (ok:Bool),¬ (t:Int)=(T:Int)∧∀ W:World,Calls Tryz.prog 14 #[.int .i64 ((2*2^t:Nat):Int)] W (Ret fun e w'=>Below W.heap.size W w'∧e=.tuple #[.int .i64 T,.bool ok]):=by
 by_cases h:t≤5
 ·refine ⟨t+1,true,by omega,fun W=>?_⟩
  have e:2*2^t=2^(t+1):=by rw[Nat.pow_succ,Nat.mul_comm]
  have:=halv_c (2^(t+1)) (pow_of (t+1) (by omega)) W
  rw[hv_pow (t+1) (by omega)] at this
  rw[e]
  exact this
 ·have h6:t=6:=by omega
  subst h6
  exact ⟨0,false,by omega,fun W=>halv_c 128 (by decide) W⟩
theorem halves_W (C:Fld P) (O:Ord N) (hord:∀ r:EC.Pt P,EC.On r→EC.mul N r=none) (hP:NT.IsP N) (label:ByteArray) (hlab:label.size≤1000000) (t:Nat) (ht:t≤6) (a b:Nat→Fin N) (LA LB:Nat→Bs) (ha:∀ j,rq N (LA j)=some (a j).val) (hb:∀ j,rq N (LB j)=some (b j).val) (q1 q2:Option Addr) (c1 c2:Nat) (W:World) (h1:Args W q1 (2^t) LA) (h2:Args W q2 (2^t) LB) :
 Calls Tryz.prog 6 #[.string label,.slice q1 (2^t) c1,.slice q2 (2^t) c2] W (Ret fun e W'=>Below W.heap.size W W'∧∃ vp vL vR vA vB,e=.tuple #[vp,.agg #[vL,vR,vA,vB],.int .i64 0]∧(∃ q c,vp=.slice q 33 c)∧(#[vL,vR,vA,vB]:Array Value).all (·.oneCell')=true∧∀ V,Below W'.heap.size W' V→Calls Tryz.prog 7 #[.string label,.int .i64 ((2^t:Nat):Int),vp,.agg #[vL,vR,vA,vB]] V (Ret fun e V'=>Below V.heap.size V V'∧e=.bool true)∧Calls Tryz.prog 7 #[.string label,.int .i64 ((2*2^t:Nat):Int),vp,.agg #[vL,vR,vA,vB]] V (Ret fun e V'=>Below V.heap.size V V'∧e=.bool false)):=by
 have hp:=fun Lb Rb=>provI_c C O hord hP t ht label hlab a b LA LB q1 q2 c1 c2 W h1 h2 (fun j _=>ha j) (fun j _=>hb j) Lb Rb
 obtain ⟨p,hrp,-⟩:=rd_wr C (hidX C hord a b (2^t)).2
 have hX0:wP (hidX C hord a b (2^t))=wP ((ptMd C hord).hdP (uPt C) (2^t) (qBeg C label.data.toList (wP (hidX C hord a b (2^t))) a b)):=rfl
 have hrp:rd P (wP (hidX C hord a b (2^t)))=some p:=hrp
 obtain ⟨X,hX⟩:∃ X,wP (hidX C hord a b (2^t))=X:=⟨_,rfl⟩
 rw[hX] at hp hX0 hrp
 obtain ⟨q,hq⟩:∃ q:Md.Ps Bs (Fin N) (OnP P),qBeg C label.data.toList X a b=q:=⟨_,rfl⟩
 have qs:q.s=pLog label.data.toList X:=by rw[← hq]
 have qg:q.g=gPt C ⟨#[108,101,102,116]⟩:=by rw[← hq]
 have qh:q.h=gPt C ⟨#[114,105,103,104,116]⟩:=by rw[← hq]
 rw[hq] at hp hX0
 have hv:=fun Lb Rb hLb hRb A B hA hB=>@verI_y P _ N _ C O hord hP t ht label hlab q X hX0 qs qg qh Lb Rb hLb hRb A B hA hB
 clear hq hX qs qg qh
 have hp:=hp (fun j=>wP ((ptMd C hord).pLi (chF N) ivF (uPt C) t q j)) (fun j=>wP ((ptMd C hord).pTi (chF N) ivF (uPt C) t q j)) (fun _=>rfl) (fun _=>rfl)
 have hv:=fun (base:Nat) (vp vL vR vA vB:Value)=>@hv (fun j=>wP ((ptMd C hord).pLi (chF N) ivF (uPt C) t q j)) (fun j=>wP ((ptMd C hord).pTi (chF N) ivF (uPt C) t q j)) (fun _=>rfl) (fun _=>rfl) _ _ rfl rfl base vp vL vR vA vB
 generalize bx (((ptMd C hord).pst (chF N) ivF (uPt C) t q t).a 0).val=AA at hp hv
 generalize bx (((ptMd C hord).pst (chF N) ivF (uPt C) t q t).b 0).val=BB at hp hv
 generalize (fun j=>wP ((ptMd C hord).pLi (chF N) ivF (uPt C) t q j))=Lb at hp hv
 generalize (fun j=>wP ((ptMd C hord).pTi (chF N) ivF (uPt C) t q j))=Rb at hp hv
 obtain ⟨T,ok,hne,cT⟩:=dbl t ht
 refine hp.mono ?_
 rintro e W' ⟨u,rfl,hR⟩
 obtain ⟨vp,vL,vR,vA,vB,rfl,ep,eL,eR,eA,eB⟩:=hR.ex
 refine ⟨_,rfl,hR.bl,vp,vL,vR,vA,vB,rfl,?_,by simp[eL.one.2,eR.one.2,eA.one.2,eB.one.2],fun V hV=>⟨?_,?_⟩⟩
 ·obtain ⟨k,c,rfl,-⟩:=ep
  exact ⟨_,_,rfl⟩
 ·exact hv _ _ _ _ _ _ V (ep.keep (Kq.of_below hV)) (eL.below hV) (eR.below hV) (eA.keep (Kq.of_below hV)) (eB.keep (Kq.of_below hV))
 ·exact verI_n C hne cT label V (ep.keep (Kq.of_below hV)) (eL.below hV) (eR.below hV) (eA.keep (Kq.of_below hV)) (eB.keep (Kq.of_below hV)) p hrp
omit [NeZero N] in
theorem fin_of {o:Option Nat} {m:Nat} (h:o=some m) (hm:m<N):∃ v:Fin N,o=some v.val:=⟨⟨m,hm⟩,h⟩
omit [NeZero N] in
theorem nmA (hN:2^240≤N) (s:ByteArray):∃ a:Nat→Fin N,∀ j,rq N (nmB s j)=some (a j).val:=by
 have h:∀ j,∃ v:Fin N,rq N (nmB s j)=some v.val:=fun j=>fin_of (rq_nm hN s j) (Nat.lt_of_lt_of_le (nmB_lt s j) hN)
 exact ⟨fun j=>(h j).choose,fun j=>(h j).choose_spec⟩
theorem halves_any (C:Fld P) (O:Ord N) (hord:∀ r:EC.Pt P,EC.On r→EC.mul N r=none) (hP:NT.IsP N) (hN:2^240≤N) (label s x:ByteArray) (z:Int) (hlo:-9223372036854775808≤z) (w:World) :
 Calls Tryz.prog 3 #[.string label,.int .i64 z,.string s,.string x] w (Ret fun e w'=>Below w.heap.size w w'∧e=.bool true):=by
 by_cases h1:(label.size:Int) > 4096
 ·go_enter Tryz.func3,Tryz.ntmps3
  go_wp2
  go_ret
  exact ⟨_,rfl,Below.refl _ _,rfl⟩
 by_cases h2:(s.size:Int) > 4096
 ·go_enter Tryz.func3,Tryz.ntmps3
  go_wp2
  go_ret
  exact ⟨_,rfl,Below.refl _ _,rfl⟩
 by_cases h3:(x.size:Int) > 4096
 ·go_enter Tryz.func3,Tryz.ntmps3
  go_wp2
  go_ret
  exact ⟨_,rfl,Below.refl _ _,rfl⟩
 have hlab:label.size≤1000000:=by omega
 obtain ⟨a,ha⟩:=nmA hN s
 obtain ⟨b,hb⟩:=nmA hN x
 clear hN
 have hPV:=fun (t:Nat) (va vb:Value) (W:World) (ht:t≤6) (hs:Hs w W (2^t) (2^t) va vb (nmB s) (nmB x))=>(by
  obtain ⟨q1,c1,rfl⟩:=hs.tA.shape
  obtain ⟨q2,c2,rfl⟩:=hs.tB.shape
  exact halves_W C O hord hP label hlab t ht a b (nmB s) (nmB x) ha hb q1 q2 c1 c2 W hs.tA.args hs.tB.args:Calls Tryz.prog 6 #[.string label,va,vb] W (Ret fun e W'=>Below W.heap.size W W'∧∃ vp vL vR vA vB,e=.tuple #[vp,.agg #[vL,vR,vA,vB],.int .i64 0]∧(∃ q c,vp=.slice q 33 c)∧(#[vL,vR,vA,vB]:Array Value).all (·.oneCell')=true∧∀ V,Below W'.heap.size W' V→Calls Tryz.prog 7 #[.string label,.int .i64 ((2^t:Nat):Int),vp,.agg #[vL,vR,vA,vB]] V (Ret fun e V'=>Below V.heap.size V V'∧e=.bool true)∧Calls Tryz.prog 7 #[.string label,.int .i64 ((2*2^t:Nat):Int),vp,.agg #[vL,vR,vA,vB]] V (Ret fun e V'=>Below V.heap.size V V'∧e=.bool false)))
 by_cases hz:z<0
 ·exact halves_m label s x z h1 h2 h3 hz hlo w hPV
 ·exact halves_p label s x z h1 h2 h3 hz w hPV
end
section
open Go.RowKit Go.Sort Go.Deep
variable {P:Nat} [NeZero P] {N:Nat}
theorem fld:∃ (P:Nat) (_:NeZero P),Fld P:=by
 obtain ⟨P,hz,hP,hc⟩:=EC.cur
 have h0:P=Go.Proofs.YtnfpdihkjkimiaaGreat.p0:=by rw[hP];decide +kernel
 have hg:=gap0
 have h2:2≤Go.Proofs.YtnfpdihkjkimiaaGreat.p0%18446744073709551616:=by decide +kernel
 have h4:Go.Proofs.YtnfpdihkjkimiaaGreat.p0/4%18446744073709551616<18446744073709551615:=by decide +kernel
 have h3:Go.Proofs.YtnfpdihkjkimiaaGreat.p0%4=3:=by decide +kernel
 have h7:7<Go.Proofs.YtnfpdihkjkimiaaGreat.p0:=by decide +kernel
 rw[← h0] at hg h2 h4 h3 h7
 exact ⟨P,hz,⟨hg,hc,h2,h4,h3,h7⟩⟩
end
namespace EC
variable {P:Nat} [NeZero P]
def fo {α:Type} (x:Fin P) (f:Fin P→α):α:=
 match x.val with
 | 0=>f (Fin.ofNat P 0)
 | n+1=>f (Fin.ofNat P (n+1))
theorem fo_eq {α:Type} (x:Fin P) (f:Fin P→α):fo x f=f x:=by
 have hx:Fin.ofNat P x.val=x:=Fin.ext (Nat.mod_eq_of_lt x.isLt)
 unfold fo
 split
 ·next h=>rw[h] at hx;rw[hx]
 ·next n h=>rw[h] at hx;rw[hx]
def runs (u v:Fin P) (e:Nat):Nat→Fin P→Fin P→Fin P→Bool
 | 0,_,_,z=>decide (z=0)
 | k+1,x,y,z=>fo (twX x y) fun X=>fo (twY x y) fun Y=>fo (twZ y z) fun Z =>
  if e/2^k%2=1 then
   if Z=0 then false else
   fo (plAx X 1) fun ax=>fo (plAy Y 1) fun ay=>fo (plAx u Z) fun bx=>fo (plAy v Z) fun bY =>
   if ax=bx∧ay=bY then false else
   fo (plX ax ay bx bY) fun a=>fo (plY ax ay bx bY) fun b=>fo (plZ Z 1 ax bx) fun c=>runs u v e k a b c
  else runs u v e k X Y Z
theorem one_ne (C:Cur P):(1:Fin P)≠0:=fun h=>C.two (by
 calc (2:Fin P)=2*1:=by grobner
  _=0:=by rw[h];grobner)
theorem runs_ok (C:Cur P) {u v:Fin P} (hg:On (some (u,v))) (e:Nat):∀ (k m:Nat) (x y z:Fin P),Jac x y z (mul m (some (u,v)))→runs u v e k x y z=true→mul (m*2^k+e%2^k) (some (u,v))=none
 | 0,m,x,y,z,hj,h=>by
  have hz:z=0:=of_decide_eq_true h
  rw[Nat.pow_zero,Nat.mod_one,Nat.mul_one,Nat.add_zero]
  exact hj.zero C hz
 | k+1,m,x,y,z,hj,h=>by
  have hm:=mul_on C hg m
  have h1:=hj.twice C hm
  rw[← mul_add C hg] at h1
  have hb:e%2^(k+1)=e/2^k%2*2^k+e%2^k:=by
   rw[Nat.pow_succ,Nat.mod_mul,Nat.mul_comm (2^k) (e/2^k%2),Nat.add_comm]
  have hp:2^(k+1)=2*2^k:=by rw[Nat.pow_succ,Nat.mul_comm]
  unfold runs at h
  simp only[fo_eq] at h
  by_cases hbit:e/2^k%2=1
  ·rw[if_pos hbit] at h
   by_cases hZ:twZ y z=0
   ·rw[if_pos hZ] at h
    cases h
   ·rw[if_neg hZ] at h
    have hj1:Jac u v 1 (some (u,v)):=⟨one_ne C,by grobner,by grobner⟩
    rcases h1.plus C (mul_on C hg _) hj1 hg hZ (one_ne C) with ⟨e1,e2,-⟩|⟨e1,e2⟩
    ·rw[if_pos ⟨e1,e2⟩] at h
     cases h
    ·rw[if_neg e1] at h
     have h2:=runs_ok C hg e k (m+m+1) _ _ _ e2 h
     rw[hb,hbit,hp]
     rw[show m*(2*2^k)+(1*2^k+e%2^k)=(m+m+1)*2^k+e%2^k by
      rw[Nat.add_mul,Nat.add_mul,← Nat.mul_assoc,Nat.mul_comm m 2,Nat.two_mul,Nat.add_mul];omega]
     exact h2
  ·rw[if_neg hbit] at h
   have h0:e/2^k%2=0:=by omega
   have h2:=runs_ok C hg e k (m+m) _ _ _ h1 h
   rw[hb,h0,hp]
   rw[show m*(2*2^k)+(0*2^k+e%2^k)=(m+m)*2^k+e%2^k by
    rw[← Nat.mul_assoc,Nat.mul_comm m 2,Nat.two_mul];omega]
   exact h2
def pL:Nat:=115792089237316195423570985008687907853269984665640564039457584007908834671663
def nL:Nat:=115792089237316195423570985008687907852837564279074904382605163141518161494337
instance:NeZero pL:=⟨by decide +kernel⟩
theorem runs_g:runs (P:=pL) (Fin.ofNat pL 55066263022277343669578718895168534326250603453777594175500187360389116729240) (Fin.ofNat pL 32670510020758816978083085130507043184471273380659243275938904335757337482424) nL 255 (Fin.ofNat pL 55066263022277343669578718895168534326250603453777594175500187360389116729240) (Fin.ofNat pL 32670510020758816978083085130507043184471273380659243275938904335757337482424) 1=true:=by decide +kernel
theorem small_n:2*pL+1<3*nL:=by decide +kernel
theorem high_n:1*2^255+nL%2^255=nL:=by decide +kernel
theorem order (C:Cur P) (hP:P=pL) (hg:On (some (Fin.ofNat P 55066263022277343669578718895168534326250603453777594175500187360389116729240,Fin.ofNat P 32670510020758816978083085130507043184471273380659243275938904335757337482424))) {r:Pt P} (hr:On r):mul nL r=none:=by
 subst hP
 refine order_of C (n:=nL) NT.pN small_n hg (fun h=>by cases h) ?_ hr
 have h:=runs_ok C hg nL 255 1 _ _ 1 (by
  show Jac _ _ 1 (add none _)
  rw[none_add]
  exact ⟨one_ne C,by grobner,by grobner⟩) runs_g
 rwa[high_n] at h
end EC
section
theorem p1_nL2:Go.Proofs.YtnfpdihkjkimiaaGreat.p1=EC.nL:=by decide +kernel
variable {P:Nat} [NeZero P]
theorem order2 (C:Fld P) (r:EC.Pt P) (hr:EC.On r):EC.mul Go.Proofs.YtnfpdihkjkimiaaGreat.p1 r=none:=by
 rw[p1_nL2]
 have hP:P=EC.pL:=by
  rw[C.eq]
  rfl
 exact EC.order C.cur hP (gG_on C) hr
end
section
open Go.RowKit Go.Sort Go.Deep SPA
variable {P:Nat} [NeZero P] {N:Nat}
theorem ordP:Ord Go.Proofs.YtnfpdihkjkimiaaGreat.p1:=⟨gap1,refP1,by decide +kernel,by decide +kernel⟩
theorem primeP:NT.IsP Go.Proofs.YtnfpdihkjkimiaaGreat.p1:=by
 rw[p1_nL2]
 exact NT.pN
theorem halves_all (label s x:ByteArray) (z:Int) (hlo:-9223372036854775808≤z) (w:World) :
 Calls Tryz.prog 3 #[.string label,.int .i64 z,.string s,.string x] w fun e w'=>e=.returned (.bool true)∧Below w.heap.size w w':=by
 obtain ⟨P,hz,C⟩:=fld
 have hn:NeZero Go.Proofs.YtnfpdihkjkimiaaGreat.p1:=⟨by decide +kernel⟩
 refine (halves_any C ordP (order2 C) primeP (by decide +kernel) label s x z hlo w).mono ?_
 rintro e w' ⟨v,rfl,h,rfl⟩
 exact ⟨rfl,h⟩
end
/-
  THE ROW OF 'SpanHalves' round its walk; the frame by the guide's program (howto/shells), the world behind the call told by 'Below'.
-/
namespace spanHalves
open Go.ChangeShapes Go.WideShapes Go.ChangeAt Go.RowKit
open Go.ChangeMaps (open_string shut_string)
theorem own:ownKnob Tryz.prog.godebug=none:=by kernel_rfl
theorem lifted (os:Os) (started:os.Started) (H:Type) (enc:TypeId × Value→H) :
 ReturnsInHanded {} Tryz.checked os 3 .any (Rows.spanHalvesSpec.pre6 enc Tryz.prog Tryz.f3 Rows.spanHalvesRow.domain false) (Rows.spanHalvesSpec.post enc Tryz.prog Tryz.f3 false true false false):=by
 refine returnsInHanded_of_change (C:=Tryz.checked) own started (by kernel_rfl) Tryz.func3
  (ChangeSpec.witness6 (enc:=enc) (C:=Tryz.checked) false ⟨#[],#[.string ByteArray.empty,.int .i64 0,.string ByteArray.empty,.string ByteArray.empty],[]⟩ 8 (by kernel_rfl) (by kernel_rfl) (by kernel_rfl) (by kernel_rfl)) ?_
 intro W base args ds gs before hval0 hW hcnd _
 have hval:∀ (j:Nat) t v,Tryz.f3.params[j]? = some t→args[j]? = some v→Value.okWide Tryz.prog W .any base t v:=hval0
 have hW':=hW
 obtain ⟨p,q,hA0,hV,rfl,hfz,hnd⟩:=hW
 have hA:DataW.TrodAll enc Tryz.prog W 0 (fun _=>true) true Tryz.f3.params.toList args.toList ds p:=hA0
 rw[Tryz.params3] at hA hval
 obtain ⟨v0,vs0,d0,ds0,p0,q0,hargs,rfl,rfl,h0,r0⟩:=trodAll_cons hA
 obtain ⟨v1,vs1,d1,ds1,p1,q1,rfl,rfl,rfl,h1,r1⟩:=trodAll_cons r0
 obtain ⟨v2,vs2,d2,ds2,p2,q2,rfl,rfl,rfl,h2,r2⟩:=trodAll_cons r1
 obtain ⟨v3,vs3,d3,ds3,p3,q3,rfl,rfl,rfl,h3,r3⟩:=trodAll_cons r2
 obtain ⟨rfl,rfl,rfl⟩:=trodAll_nil r3
 obtain rfl:args=#[v0,v1,v2,v3]:=by cases args;simp_all
 obtain ⟨rfl,rfl⟩:=trodVars_none hV
 obtain ⟨a0,rfl,rfl,rfl,w0⟩:=open_string Tryz.underlying9 (hval 0 9 v0 rfl rfl) h0
 obtain ⟨a1,rfl,rfl,rfl,w1⟩:=open_int Tryz.underlying3 (hval 1 3 v1 rfl rfl) h1
 obtain ⟨a2,rfl,rfl,rfl,w2⟩:=open_string Tryz.underlying9 (hval 2 9 v2 rfl rfl) h2
 obtain ⟨a3,rfl,rfl,rfl,w3⟩:=open_string Tryz.underlying9 (hval 3 9 v3 rfl rfl) h3
 clear hA0 hval0
 have hlo:-9223372036854775808≤a1:=by
  have h:=w1
  have e:IntKind.i64.min = -9223372036854775808:=by decide
  simp[Lit.wf,e] at h
  omega
 refine (halves_all a0 a2 a3 a1 hlo W).mono fun e W' ⟨he,bel⟩=>?_
 subst he
 exact ⟨_,rfl,_,_,_,[],_,[],hW',(trodAll_cons_mk (shut_bool Tryz.underlying4 _) trodAll_mk0),(trodAll_cons_mk (shut_string Tryz.underlying9 w0) (trodAll_cons_mk (shut_int Tryz.underlying3 w1) (trodAll_cons_mk (shut_string Tryz.underlying9 w2) (trodAll_cons_mk (shut_string Tryz.underlying9 w3) trodAll_mk0)))),rfl,bel.frame _,fun h=>by cases h⟩
theorem over:Rows.spanHalvesRow.holds Tryz.pinned (OpenSpec.ofChange Rows.spanHalvesSpec):=
 OpenClaim.holds_of_wide 3 Tryz.f3 rfl rfl rfl rfl rfl rfl rfl ⟨rfl,rfl,rfl,rfl,rfl⟩ rfl rfl rfl rfl rfl (by kernel_rfl) Tryz.func3 (by kernel_rfl)
  (of_decide_eq_true (by kernel_rfl)) (by unfold Func.isWrapper;first|(rw[if_pos (by decide +kernel)];kernel_rfl)|(rw[if_neg (by decide +kernel)];exact ⟨rfl,rfl⟩))
  (fun os started H enc _=>lifted os started H enc)
theorem proved:Rows.SpanHalvesSaid:=
 over
end spanHalves
section
theorem spanHalves_holds:Rows.SpanHalvesSaid:=spanHalves.proved
#print axioms spanHalves_holds
end
end Go.Proofs.YtnfpdihkjkimiaaGreat
