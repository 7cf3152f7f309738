import Derived.Lib.SlBytesConst
import Derived.ChangeOld
import Derived.Below
import Derived.WalkKit
import Derived.ProofKit
import Derived.OpenShut
import Derived.ShutString
import Derived.Test.YtgbjainaafdpgaaGreatBt8
set_option linter.unusedVariables false
set_option linter.unusedSimpArgs false
set_option maxRecDepth 1000000
set_option maxHeartbeats 4000000
namespace Go.Proofs.YtgbjainaafdpgaaGreat
open Go.Proofs.Tryz (prog)
section
open Go.RowKit Go.Sort Go.Deep
variable {P:Nat}[NeZero P]{N:Nat}
def qD(s:ByteArray):Bool:=decide (1<=s.size/\s.size<=64)
theorem rU(s:ByteArray):Gives 10 #[.string s] (.bool (qD s)):=by
 intro w;unfold qD;by_cases h1:1<=s.size
 ·have g1:(1:Int)<=(s.size:Int):=by omega
  by_cases h2:s.size<=64
  ·have g2:(s.size:Int)<=64:=by omega
   rw[show decide (1<=s.size/\s.size<=64)=true by simp[h1,h2]];clear h1 h2;go_enter Tryz.func10,Tryz.ntmps10;go_wp2;go_ret;exact⟨_,rfl,Below.refl _ _,rfl⟩
  ·have g2:¬(s.size:Int)<=64:=by omega
   rw[show decide (1<=s.size/\s.size<=64)=false by simp[h2]];clear h1 h2;go_enter Tryz.func10,Tryz.ntmps10;go_wp2;go_ret;exact⟨_,rfl,Below.refl _ _,rfl⟩
 ·have g1:¬(1:Int)<=(s.size:Int):=by omega
  rw[show decide (1<=s.size/\s.size<=64)=false by simp[h1]];clear h1;go_enter Tryz.func10,Tryz.ntmps10;go_wp2;go_ret;exact⟨_,rfl,Below.refl _ _,rfl⟩
def NS(v:Value):List RG.It:=[.c 9 [] v,.u [(9,0)] 0,.x 3 [] (.int .i64 2)]
def NR(s:ByteArray)(v:Value):List RG.It:=[.x 10 [] (.string s),.c 11 [(10,0)] v,.u [(11,1)] 0,.x 3 [] (.int .i64 0)]
noncomputable def lfT (P:Nat) [NeZero P] (s:ByteArray):T3 P:=if qD s then((hpt P aQ s.data.toList).1,(hpt P aQ s.data.toList).2,1) else(0,1,0)
noncomputable def lfE (s:ByteArray):Int:=if qD s then 0 else 2
theorem Ft(C:Fl3 P)(s:ByteArray)(hs:s.size<=4096):Gives 12 #[.string s] (.tuple #[tv (lfT P s),.int .i64 (lfE s)]):=by
 intro w;have hS:=rU s;have hH:=IJ C aQ s (by decide) hs;have hN:=B7 C;unfold lfT lfE;generalize hpt P aQ s.data.toList=q at hH⊢;obtain⟨x,y⟩:=q;generalize qD s=b at hS⊢;go_enter Tryz.func12,Tryz.ntmps12;refine RG.M.enter [(0,.v (.string s))] 12 (by kernel_rfl) ?_;intro a0 M0;repeat refine wp_seq ?_
 refine M0.t [.m 2 [] 0,.x 3 [] (.int .i64 0)] [(0,RG.z 12)] [] [RG.z 12] [(0,.v (.string s)),(2,.p 0 0),(3,.v (.int .i64 0))] ⟨RG.mk 0 41,RG.st,trivial⟩ ?_;intro j1 a1 w1 M1;repeat refine wp_seq ?_
 refine M1.u [.x 5 [] (.string s),.c 6 [(5,0)] (.bool b),.x 4 [(6,1)] (.bool b)] [(0,.v (.string s)),(2,.p 0 0),(4,.v (.bool b))] ⟨RG.st,RG.cl hS,RG.st,trivial⟩ ?_;intro a2 w2 M2;repeat refine wp_seq ?_
 refine M2.u [.x 7 [] (.bool b),.x 8 [(7,0)] (.bool (!b))] [(0,.v (.string s)),(2,.p 0 0),(8,.v (.bool (!b)))] ⟨RG.st,RG.st,trivial⟩ ?_;intro a3 w3 M3;repeat refine wp_seq ?_
 cases b with
 | true =>
  refine wp_cond_false (M3.ev (v:=.bool false) (by kernel_rfl)) ?_;refine wp_skip ?_;repeat refine wp_seq ?_
  refine M3.t (NR s (rv x y 1)) [] [(0,2,ws x++(ws y++ws (1:Fin P)))] [ws x++(ws y++ws (1:Fin P))] [(2,.p 0 0),(3,.v (.int .i64 0))] ⟨RG.st,RG.cl hH,RG.pt i56,RG.st,trivial⟩ ?_;intro a4 w4 M4;refine wp_ret ?_;refine bodyPost_ret (v:=.tuple #[rv x y 1,.int .i64 0]) (RG.aW M4.st 2 3 41 rfl 0 _ rfl (M4.at (s:=.p 0 0)) (.int .i64 0) M4.av u56 i56) M4.sl.defers ?_;exact⟨_,rfl,M4.st.bel.below,rfl⟩
 | false =>
  refine wp_cond_true (M3.ev (v:=.bool true) (by kernel_rfl)) ?_;repeat refine wp_seq ?_
  refine M3.t (NS (rv (0:Fin P) 1 0)) [] [(0,1,ws (0:Fin P)++(ws (1:Fin P)++ws (0:Fin P)))] [ws (0:Fin P)++(ws (1:Fin P)++ws (0:Fin P))] [(2,.p 0 0),(3,.v (.int .i64 2))] ⟨RG.cl hN,RG.pt i56,RG.st,trivial⟩ ?_;intro a4 w4 M4;refine wp_ret ?_;refine bodyPost_ret (v:=.tuple #[rv (0:Fin P) 1 0,.int .i64 2]) (RG.aW M4.st 2 3 41 rfl 0 _ rfl (M4.at (s:=.p 0 0)) (.int .i64 2) M4.av u56 i56) M4.sl.defers ?_;exact⟨_,rfl,M4.st.bel.below,rfl⟩
def G8:List RG.It:=[.x 4 [] (.string ⟨#[]⟩),.x 5 [] (.int .i64 0)]
def G7(s:ByteArray)(b:Bool):List RG.It:=[.x 10 [] (.string s),.c 11 [(10,0)] (.bool b),.x 6 [(11,1)] (.bool b)]
def G6(b:Bool):List RG.It:=[.x 12 [] (.bool b),.x 13 [(12,0)] (.bool (!b))]
def Kz(e:Int):List RG.It:=[.x 4 [] (.string ⟨#[]⟩),.x 5 [] (.int .i64 e)]
def Ky(r:ByteArray)(n:Nat)(ok:Bool):List RG.It:=[.x 15 [] (.string r),.c 16 [(15,0)] (.tuple #[nv n,.bool ok]),.x 14 [(16,1)] (.tuple #[nv n,.bool ok]),.x 17 [(14,2)] (nv n),.x 18 [(14,2)] (.bool ok),.m 7 [] 0,.u [(7,5),(17,3)] 0,.x 6 [(18,4)] (.bool ok)]
def Kx(b:Bool):List RG.It:=[.x 19 [] (.bool b),.x 20 [(19,0)] (.bool (!b))]
def NY(s:ByteArray)(v:Value):List RG.It:=[.x 22 [] (.string s),.c 23 [(22,0)] (.tuple #[v,.int .i64 0]),.x 21 [(23,1)] (.tuple #[v,.int .i64 0]),.x 24 [(21,2)] v,.x 25 [(21,2)] (.int .i64 0),.m 8 [] 1,.u [(8,5),(24,3)] 1,.x 9 [(25,4)] (.int .i64 0)]
def NX(n:Nat)(v v2 v3:Value)(T:Bs):List RG.It:=[.x 26 [] v,.x 27 [] (nv n),.c 28 [(27,1)] v2,.c 29 [(26,0),(28,2)] v3,.c 30 [(29,3)] (.string ⟨T⟩),.x 4 [(30,4)] (.string ⟨T⟩),.x 5 [] (.int .i64 0)]
noncomputable def blT (P:Nat) [NeZero P] (N:Nat) (s r:ByteArray):Bs × Int:=
 if qD s then(match rq N r.data with|some n=>(wr (EC.add (.some (hpt P aQ s.data.toList)) (EC.mul n (gG P))),0)|none=>(#[],3)) else(#[],2)
theorem tm_frac'(C:Fl3 P){n:Nat}(hn:n<top):FracT (tmF n (gT P) 256) (EC.mul n (gG P)):=by
 have h:=EM C (n:=n) (by unfold top at hn;omega) (CQ C.toFld) 256 (Nat.le_refl _);rwa[Nat.sub_self,Nat.pow_zero,Nat.div_one]at h
theorem DO(C:Fl3 P)(O:Ord N)(s r:ByteArray)(hs:s.size<=4096):Gives 4 #[.string s,.string r] (.tuple #[.string ⟨(blT P N s r).1⟩,.int .i64 (blT P N s r).2]):=by
 intro w;have hS:=rU s;have hL:=Ft C s hs;have hR:=IK O r;cases hb:qD s with
 | false =>
  unfold blT;rw[hb]at hS⊢;show Calls _ _ _ _ (Ret fun e w'=>_/\e=.tuple #[.string ⟨#[]⟩,.int .i64 2]);go_enter Tryz.func4,Tryz.ntmps4;refine RG.M.enter [(0,.v (.string s)),(1,.v (.string r))] 31 (by kernel_rfl) ?_;intro a0 M0;repeat refine wp_seq ?_
  refine M0.u G8 [(0,.v (.string s)),(1,.v (.string r))] ⟨RG.st,RG.st,trivial⟩ ?_;intro a1 w1 M1;repeat refine wp_seq ?_
  refine M1.u (G7 s false) [(6,.v (.bool false))] ⟨RG.st,RG.cl hS,RG.st,trivial⟩ ?_;intro a2 w2 M2;repeat refine wp_seq ?_
  refine M2.u (G6 false) [(13,.v (.bool true))] ⟨RG.st,RG.st,trivial⟩ ?_;intro a3 w3 M3;repeat refine wp_seq ?_
  refine wp_cond_true (M3.ev (v:=.bool true) (by kernel_rfl)) ?_;repeat refine wp_seq ?_
  refine M3.u (Kz 2) [(4,.v (.string ⟨#[]⟩)),(5,.v (.int .i64 2))] ⟨RG.st,RG.st,trivial⟩ ?_;intro a4 w4 M4;refine wp_ret ?_;refine bodyPost_ret (v:=.tuple #[.string ⟨#[]⟩,.int .i64 2]) (RG.cU 4 5 rfl _ _ M4.av M4.av) M4.sl.defers ?_;exact⟨_,rfl,M4.st.bel.below,rfl⟩
 | true =>
  cases hr:rq N r.data with
  | none =>
   unfold blT;rw[hb]at hS;rw[hb,hr];rw[hr]at hR;generalize nuV r.data=n at hR;show Calls _ _ _ _ (Ret fun e w'=>_/\e=.tuple #[.string ⟨#[]⟩,.int .i64 3]);go_enter Tryz.func4,Tryz.ntmps4;refine RG.M.enter [(0,.v (.string s)),(1,.v (.string r))] 31 (by kernel_rfl) ?_;intro a0 M0;repeat refine wp_seq ?_
   refine M0.u G8 [(0,.v (.string s)),(1,.v (.string r))] ⟨RG.st,RG.st,trivial⟩ ?_;intro a1 w1 M1;repeat refine wp_seq ?_
   refine M1.u (G7 s true) [(1,.v (.string r)),(6,.v (.bool true))] ⟨RG.st,RG.cl hS,RG.st,trivial⟩ ?_;intro a2 w2 M2;repeat refine wp_seq ?_
   refine M2.u (G6 true) [(1,.v (.string r)),(13,.v (.bool false))] ⟨RG.st,RG.st,trivial⟩ ?_;intro a3 w3 M3;repeat refine wp_seq ?_
   refine wp_cond_false (M3.ev (v:=.bool false) (by kernel_rfl)) ?_;refine wp_skip ?_;repeat refine wp_seq ?_
   refine M3.t (Ky r n false) [(5,RG.z 4)] [(0,6,wn n)] [wn n] [(6,.v (.bool false))] ⟨RG.st,RG.cl hR,RG.st,RG.st,RG.st,RG.mk 0 37,RG.pt i33,RG.st,trivial⟩ ?_;intro j4 a4 w4 M4;repeat refine wp_seq ?_
   refine M4.u (Kx false) [(20,.v (.bool true))] ⟨RG.st,RG.st,trivial⟩ ?_;intro a5 w5 M5;repeat refine wp_seq ?_
   refine wp_cond_true (M5.ev (v:=.bool true) (by kernel_rfl)) ?_;repeat refine wp_seq ?_
   refine M5.u (Kz 3) [(4,.v (.string ⟨#[]⟩)),(5,.v (.int .i64 3))] ⟨RG.st,RG.st,trivial⟩ ?_;intro a6 w6 M6;refine wp_ret ?_;refine bodyPost_ret (v:=.tuple #[.string ⟨#[]⟩,.int .i64 3]) (RG.cU 4 5 rfl _ _ M6.av M6.av) M6.sl.defers ?_;exact⟨_,rfl,M6.st.bel.below,rfl⟩
  | some n =>
   have hnN:n<N:=by
    unfold rq at hr;split at hr
    ·rename_i h
     rw[<-Option.some.inj hr];exact h.2
    ·cases hr
   have hnt:=Nat.lt_of_lt_of_le hnN O.le;have hon:=pJ C.toFld aQ s.data.toList;have hF1:FracT (lfT P s) (.some (hpt P aQ s.data.toList):EC.Pt P):=by
    unfold lfT;rw[hb];exact⟨zN C.toFld _ _,hon⟩
   have hF2:=tm_frac' C hnt;have hB:=IL C n hnt;obtain⟨hPl,hF3⟩:=FracT.plus C hF1 hF2;have hW:=AW C hF3;have hE:lfE s=0:=by unfold lfE;rw[hb];rfl
   rw[hE]at hL;unfold blT;rw[hb]at hS;rw[hb,hr];rw[hr,<-nI hr]at hR;show Calls _ _ _ _ (Ret fun e w'=>_/\e=.tuple #[.string ⟨wr (EC.add (.some (hpt P aQ s.data.toList)) (EC.mul n (gG P)))⟩,.int .i64 0]);generalize wr (EC.add (.some (hpt P aQ s.data.toList)) (EC.mul n (gG P)))=T at hW⊢;generalize plF (lfT P s) (tmF n (gT P) 256)=t3 at hPl hW;generalize lfT P s=t1 at hL hPl;generalize tmF n (gT P) 256=t2 at hB hPl;clear hF1 hF2 hF3 hon hnN hnt hE hr;go_enter Tryz.func4,Tryz.ntmps4;refine RG.M.enter [(0,.v (.string s)),(1,.v (.string r))] 31 (by kernel_rfl) ?_;intro a0 M0;repeat refine wp_seq ?_
   refine M0.u G8 [(0,.v (.string s)),(1,.v (.string r))] ⟨RG.st,RG.st,trivial⟩ ?_;intro a1 w1 M1;repeat refine wp_seq ?_
   refine M1.u (G7 s true) [(0,.v (.string s)),(1,.v (.string r)),(6,.v (.bool true))] ⟨RG.st,RG.cl hS,RG.st,trivial⟩ ?_;intro a2 w2 M2;repeat refine wp_seq ?_
   refine M2.u (G6 true) [(0,.v (.string s)),(1,.v (.string r)),(13,.v (.bool false))] ⟨RG.st,RG.st,trivial⟩ ?_;intro a3 w3 M3;repeat refine wp_seq ?_
   refine wp_cond_false (M3.ev (v:=.bool false) (by kernel_rfl)) ?_;refine wp_skip ?_;repeat refine wp_seq ?_
   refine M3.t (Ky r n true) [(5,RG.z 4)] [(0,6,wn n)] [wn n] [(0,.v (.string s)),(7,.p 0 0),(6,.v (.bool true))] ⟨RG.st,RG.cl hR,RG.st,RG.st,RG.st,RG.mk 0 37,RG.pt i33,RG.st,trivial⟩ ?_;intro j4 a4 w4 M4;repeat refine wp_seq ?_
   refine M4.u (Kx true) [(0,.v (.string s)),(7,.p 0 0),(20,.v (.bool false))] ⟨RG.st,RG.st,trivial⟩ ?_;intro a5 w5 M5;repeat refine wp_seq ?_
   refine wp_cond_false (M5.ev (v:=.bool false) (by kernel_rfl)) ?_;refine wp_skip ?_;repeat refine wp_seq ?_
   refine M5.t (NY s (tv t1)) [(5,RG.z 12)] [(1,6,tw t1)] [wn n,tw t1] [(7,.p 0 0),(8,.p 1 0)] ⟨RG.st,RG.cl hL,RG.st,RG.st,RG.st,RG.mk 1 41,RG.pt i56,RG.st,trivial⟩ ?_;intro j6 a6 w6 M6;repeat refine wp_seq ?_
   refine M6.e (NX n (tv t1) (tv t2) (tv t3) T) [(4,.v (.string ⟨T⟩)),(5,.v (.int .i64 0))] ⟨RG.ld u56 i56,RG.ld u33 i33,RG.cl hB,RG.cl hPl,RG.cl hW,RG.st,RG.st,trivial⟩ ?_;intro a7 w7 M7;refine wp_ret ?_;refine bodyPost_ret (v:=.tuple #[.string ⟨T⟩,.int .i64 0]) (RG.cU 4 5 rfl _ _ M7.av M7.av) M7.sl.defers ?_;exact⟨_,rfl,M7.st.bel.below,rfl⟩
theorem El.partk{n:Nat}{W:World}{x:Value}{b:Bs}(h:El n W x b)(hn:n<=4096):SP.PartOk W x b.toList:=by
 obtain⟨k,c,rfl,h1,h2,h3,h4⟩:=h;subst h2;exact⟨_,k,0,c,b,rfl,rfl,h1,Nat.le_trans hn (by decide),Or.inr ⟨rfl,h4⟩⟩
omit [NeZero P] in
theorem Cw.arg33{W:World}{q:Option Addr}{n cap:Nat}{X:EC.Pt P}(h:Cw W q n cap (wr X)):Arg33 W (.slice q n cap) (wr X)/\SP.PartOk W (.slice q n cap) (wr X).toList/\n=33:=by
 obtain⟨h1,h2⟩:=h.el (by rw[aL];decide);rw[aL]at h1 h2;exact⟨h1.arg33,El.partk h1 (by decide),h2⟩
theorem LR:gG P≠none:=fun h=>by unfold gG at h;cases h
theorem E8(C:Fl3 P)(O:Ord N)(hord:∀r:EC.Pt P,EC.On r->EC.mul N r=none)(p0 p1 p2 p3:Option Addr)(n0 n1 n2 n3 c0 c1 c2 c3:Nat)(a g b pr:Bs)(w:World)(h0:Arg33 w (.slice p0 n0 c0) a)(h1:Arg33 w (.slice p1 n1 c1) g)(h2:Arg33 w (.slice p2 n2 c2) b)(h3:SP.PartOk w (.slice p3 n3 c3) pr.toList):
 Calls prog 21 #[.slice p0 n0 c0,.slice p1 n1 c1,.slice p2 n2 c2,.slice p3 n3 c3] w (Ret fun e w'=>Below w.heap.size w w'/\e=.bool (vsP P N a g b pr)):=by
 have H:=Hid.mk' (Hq C O hord p0 p1 p2 p3 n0 n1 n2 n3 c0 c1 c2 c3 a g b pr w h0 h1 h2 h3);clear h0 h1 h2 h3 C O hord;go_enter Tryz.func21,Tryz.ntmps21;go_wp2_with fail
 refine H.out.mono ?_;rintro e w' ⟨v,rfl,hb,rfl⟩;go_wp2_with fail
 go_ret;exact⟨_,rfl,hb,rfl⟩
theorem Hy(C:Fl3 P)(O:Ord N)(hord:∀r:EC.Pt P,EC.On r->EC.mul N r=none)(hpr:NT.IsP N)(gk gr g1 c1:Nat)(kb rb:Bs)(k r:Nat)(hk:rq N kb=some k)(hk0:k≠0)(hr:rq N rb=some r)(s:ByteArray)(hs1:1<=s.size)(hs2:s.size<=64)(w:World)
 (hK:El 32 w (.slice (some ⟨gk,0,none⟩) 32 32) kb) (hR:El 32 w (.slice (some ⟨gr,0,none⟩) 32 32) rb) (hP:El 33 w (.slice (some ⟨g1,0,none⟩) 33 c1) (wr (EC.mul k (gG P)))) (hne:EC.add (.some (hpt P aQ s.data.toList)) (EC.mul r (gG P))≠none) :
 Calls prog 8 #[.slice (some ⟨gk,0,none⟩) 32 32,.slice (some ⟨g1,0,none⟩) 33 c1,.string s,.slice (some ⟨gr,0,none⟩) 32 32] w (Ret fun e w'=>Below w.heap.size w w'/\∃q n cap,e=.tuple #[.slice q n cap,.bool true]/\Cw w' q n cap (wr (EC.mul k (.some (hpt P aQ s.data.toList):EC.Pt P)))):=by
 have hY:EC.On (.some (hpt P aQ s.data.toList):EC.Pt P):=pJ C.toFld aQ s.data.toList;have hkN:k<N:=by
  have:=E3 (N:=N) (bs:=kb) (by rw[hk];rfl);rwa[<-nI hk]at this
 have hg:=jJ C.toFld;have hB:=fun ta tc w hP h1 h2 hA=>JQ C.toFld O hord ta s.size tc s.data.toList (.slice (some ⟨gr,0,none⟩) 32 32) rb r w hP h1 h2 hA hr
 generalize (.some (hpt P aQ s.data.toList):EC.Pt P)=Y at hY hne hB⊢;obtain⟨X,hX⟩:∃X,EC.add Y (EC.mul r (gG P))=X:=⟨_,rfl⟩
 have hXon:EC.On X:=by rw[<-hX];exact C.toFld.cur.on hY (EC.bF C.toFld.cur hg r)
 have hun:EC.add (EC.mul k X) (EC.neg (EC.mul r (EC.mul k (gG P))))=EC.mul k Y:=by rw[<-hX];exact Hu C.toFld hY k r
 rw[hX]at hB hne;obtain⟨hrX,hpX⟩:=wI C hXon hne;have hsec:sec N kb=true:=by
  unfold sec;rw[hk,<-nI hk,decide_eq_false hk0];rfl
 have hnk:nuV kb=k:=(nI hk).symm;have hkG:EC.mul k (gG P)≠none:=mul_ne C.toFld hord hpr hg LR hkN hk0;have hkX:EC.mul k X≠none:=mul_ne C.toFld hord hpr hXon hne hkN hk0;have hS:=fun p0 p1 n0 c0 n1 c1 w hA h0 hA1 h1=>Jz C O p0 p1 n0 c0 n1 c1 kb (wr X) w hA h0 hA1 h1 hsec hrX
 have hV:=AM C O hord kb (wr X) hsec hrX (by rw[hnk];exact hkG) (by rw[hnk,hpX];exact hkX);rw[hnk,hpX]at hS hV;have hRi:=fun p0 p1 p2 p3 n0 n1 n2 n3 c0 c1 c2 c3 w h0 h1 h2 h3=>E8 C O hord p0 p1 p2 p3 n0 n1 n2 n3 c0 c1 c2 c3 (wr (EC.mul k (gG P))) (wr X) (wr (EC.mul k X)) (pmT P N kb (wr X)).1 w h0 h1 h2 h3
 rw[hV]at hRi;obtain⟨a,ha,hpa⟩:=rO C.toFld (EC.bF C.toFld.cur hXon k);obtain⟨b,hb,hpb⟩:=rO C.toFld (EC.bF C.toFld.cur hg k);have hU:=fun q0 n0 c0 q2 n2 c2 w h0 hA h2=>Al C.toFld O hord ⟨wr (EC.mul k X)⟩ ⟨rb⟩ ⟨wr (EC.mul k (gG P))⟩ q0 q2 n0 c0 n2 c2 (.slice (some ⟨gr,0,none⟩) 32 32) w h0 hA h2
 have huT:unT P N ⟨wr (EC.mul k X)⟩ ⟨rb⟩ ⟨wr (EC.mul k (gG P))⟩=(wr (EC.mul k Y),0):=by
  unfold unT;show(match rq N rb with|none=>_|some n=>_)=_;rw[hr];show(match rd P (wr (EC.mul k X)),rd P (wr (EC.mul k (gG P))) with|some a,some b=>_|_,_=>_)=_;rw[ha,hb];show(wr (EC.add (pt a) (EC.neg (EC.mul r (pt b)))),(0:Int))=_;rw[hpa,hpb,hun]
 rw[huT]at hU;have HB:=Hid.mk' hB;have HS:=Hid.mk' hS;have HR:=Hid.mk' hRi;have HU:=Hid.mk' hU;have HN:Hid (1<=s.size/\s.size<=64):=⟨hs1,hs2⟩
 obtain⟨cap1,w1,hc1,hcc1,hb1,hH1,hlt1⟩:=C5 s w;have K1:Hid (Below w.heap.size w w1/\El 32 w1 (.slice (some ⟨gk,0,none⟩) 32 32) kb/\El 32 w1 (.slice (some ⟨gr,0,none⟩) 32 32) rb/\El 33 w1 (.slice (some ⟨g1,0,none⟩) 33 c1) (wr (EC.mul k (gG P)))):=⟨hb1,hK.below hb1 (Nat.le_refl _),hR.below hb1 (Nat.le_refl _),hP.below hb1 (Nat.le_refl _)⟩
 have A1:Hid (SP.PartOk w1 (.slice (some ⟨w.heap.size,0,none⟩) s.size cap1) s.data.toList):=Cy (by omega) hcc1 hH1;clear hB hS hRi hU huT ha hb hpa hpb hV hkX hkG hnk hsec hrX hpX hun hXon hX hY hne hkN hg hk hk0 hr hK hR hP hcc1 hb1 hH1 hlt1 C O hord hpr hs1 hs2;generalize (pmT P N kb (wr X)).1=pr at HS HR;go_enter Tryz.func8,Tryz.ntmps8;go_wp2_with fail
 refine(HB.out _ _ w1 A1.out HN.out.1 HN.out.2 (K1.out.2.2.1).arg).mono ?_;rintro e w2 ⟨v2,rfl,hb2,q2,n2,cap2,rfl,hC2⟩;obtain⟨hA2,hP2,rfl⟩:=hC2.arg33;have K2:Hid (Below w.heap.size w w2/\El 32 w2 (.slice (some ⟨gk,0,none⟩) 32 32) kb/\El 32 w2 (.slice (some ⟨gr,0,none⟩) 32 32) rb/\El 33 w2 (.slice (some ⟨g1,0,none⟩) 33 c1) (wr (EC.mul k (gG P)))/\Arg33 w2 (.slice q2 33 cap2) (wr X)/\SP.PartOk w2 (.slice q2 33 cap2) (wr X).toList):=⟨K1.out.1.trans (hb2.mono K1.out.1.size),K1.out.2.1.below hb2 (Nat.le_refl _),K1.out.2.2.1.below hb2 (Nat.le_refl _),K1.out.2.2.2.below hb2 (Nat.le_refl _),hA2,hP2⟩
 clear hb2 hC2 hA2 hP2 K1 A1 HB HN hc1;go_wp2_with fail
 refine(HS.out _ _ _ _ _ _ w2 (K2.out.2.1).arg (El.partk K2.out.2.1 (by decide)) K2.out.2.2.2.2.1 K2.out.2.2.2.2.2).mono ?_;rintro e w3 ⟨v3,rfl,hb3,va,vp,rfl,⟨ka,ca,rfl,ha1,ha2,ha3,ha4⟩,⟨kp,cp,rfl,hp1,hp2,hp3,hp4⟩⟩;have K3:Hid (Below w.heap.size w w3/\El 32 w3 (.slice (some ⟨gr,0,none⟩) 32 32) rb/\El 33 w3 (.slice (some ⟨g1,0,none⟩) 33 c1) (wr (EC.mul k (gG P)))/\Arg33 w3 (.slice q2 33 cap2) (wr X)/\El 33 w3 (.slice (some ⟨ka,0,none⟩) 33 ca) (wr (EC.mul k X))/\El 64 w3 (.slice (some ⟨kp,0,none⟩) 64 cp) pr):=⟨K2.out.1.trans (hb3.mono K2.out.1.size),K2.out.2.2.1.below hb3 (Nat.le_refl _),K2.out.2.2.2.1.below hb3 (Nat.le_refl _),K2.out.2.2.2.2.1.below hb3,⟨ka,ca,rfl,ha1,ha2,ha3,ha4⟩,⟨kp,cp,rfl,hp1,hp2,hp3,hp4⟩⟩
 clear hb3 K2 HS ha1 ha2 ha3 ha4 hp1 hp2 hp3 hp4;go_wp2_with fail
 refine(HR.out _ _ _ _ _ _ _ _ _ _ _ _ w3 (K3.out.2.2.1).arg33 K3.out.2.2.2.1 (K3.out.2.2.2.2.1).arg33 (El.partk K3.out.2.2.2.2.2 (by decide))).mono ?_;rintro e w4 ⟨v4,rfl,hb4,rfl⟩;have K4:Hid (Below w.heap.size w w4/\El 32 w4 (.slice (some ⟨gr,0,none⟩) 32 32) rb/\El 33 w4 (.slice (some ⟨g1,0,none⟩) 33 c1) (wr (EC.mul k (gG P)))/\El 33 w4 (.slice (some ⟨ka,0,none⟩) 33 ca) (wr (EC.mul k X))):=⟨K3.out.1.trans (hb4.mono K3.out.1.size),K3.out.2.1.below hb4 (Nat.le_refl _),K3.out.2.2.1.below hb4 (Nat.le_refl _),K3.out.2.2.2.2.1.below hb4 (Nat.le_refl _)⟩
 clear hb4 K3 HR;go_wp2_with fail
 refine(HU.out _ _ _ _ _ _ w4 (K4.out.2.2.2).arg33 (K4.out.2.1).arg (K4.out.2.2.1).arg33).mono ?_;rintro e w5 ⟨v5,rfl,hb5,q5,n5,cap5,rfl,hC5⟩;obtain⟨-,-,rfl⟩:=hC5.arg33;have K5:Hid (Below w.heap.size w w5/\Cw w5 q5 33 cap5 (wr (EC.mul k Y))):=⟨K4.out.1.trans (hb5.mono K4.out.1.size),hC5⟩
 clear hb5 hC5 K4 HU;go_wp2
 go_ret2
 exact⟨_,rfl,K5.out.1,q5,33,cap5,rfl,K5.out.2⟩
theorem EK(C:Fl3 P)(O:Ord N)(hord:∀r:EC.Pt P,EC.On r->EC.mul N r=none)(hpr:NT.IsP N)(ke s r t:ByteArray)(hs1:1<=s.size)(hs2:s.size<=64)(w0:World):
 Calls prog 3 #[.string ke,.string s,.string r,.string t] w0 fun e w'=>e=.returned (.bool true)/\Below w0.heap.size w0 w':=by
 have hbig:2^248<N:=DY O.gap;have hrq:=fun x=>KU O hbig x
 have hBl:=fun x=>DO C O s ⟨scC x⟩ (by omega)
 have hbT:∀x,blT P N s ⟨scC x⟩=(wr (EC.add (.some (hpt P aQ s.data.toList)) (EC.mul (beV (scC x).toList) (gG P))),0):=fun x=>by
  unfold blT;rw[show qD s=true from decide_eq_true ⟨hs1,hs2⟩,if_pos rfl];show(match rq N (scC x) with|some n=>_|none=>_)=_;rw[hrq x]
 have hBl':∀x,Gives 4 #[.string s,.string ⟨scC x⟩] (.tuple #[.string ⟨wr (EC.add (.some (hpt P aQ s.data.toList)) (EC.mul (beV (scC x).toList) (gG P)))⟩,.int .i64 0]):=fun x=>by
  have:=hBl x;rw[hbT x]at this;exact this
 have hmk:=Lz w0;have hM:=Holds.made (enc:=encB) w0 5 33 (0:UInt8);have hcv0:=conv_str prog 22 9 5 slice22 int5 str9 (w0.alloc (.cells (madeCells #[.int .u8 0] 33) 5)) w0.heap.size 0 33 33 _ hM (by rw[Array.size_replicate]);have H1:Hid (Below w0.heap.size w0 (w0.alloc (.cells (madeCells #[.int .u8 0] 33) 5))):=(Below.refl _ _).alloc (Nat.le_refl _) _;generalize w0.alloc (.cells (madeCells #[.int .u8 0] 33) 5)=w1 at hmk hcv0 H1;have g1:¬(64:Int)<(s.size:Int):=by omega
 have g2:¬(s.size:Int)<1:=by omega
 clear hM hbT hBl;obtain⟨Z,hZ⟩:∃Z:Bs,Hid (Array.replicate 33 0=Z):=⟨_,rfl⟩
 rw[hZ.out]at hcv0;have hon:∀x,wr (EC.add (.some (hpt P aQ s.data.toList)) (EC.mul (beV (scC x).toList) (gG P)))≠Z->EC.add (.some (hpt P aQ s.data.toList)) (EC.mul (beV (scC x).toList) (gG P))≠none:=fun x h e=>h (by rw[e,<-hZ.out];exact Ca)
 have N1:=Hid.mk' (hon r);have N2:=Hid.mk' (hon t);have HB1:=Hid.mk' (hBl' r);have HB2:=Hid.mk' (hBl' t);clear hon hBl';obtain⟨T1,hT1⟩:∃T1,Hid (wr (EC.add (.some (hpt P aQ s.data.toList)) (EC.mul (beV (scC r).toList) (gG P)))=T1):=⟨_,rfl⟩
 obtain⟨T2,hT2⟩:∃T2,Hid (wr (EC.add (.some (hpt P aQ s.data.toList)) (EC.mul (beV (scC t).toList) (gG P)))=T2):=⟨_,rfl⟩
 rw[hT1.out]at HB1 N1;rw[hT2.out]at HB2 N2;have hG:=Hid.mk' (fun w=>Ha C.toFld w);have hTi:=Hid.mk' (fun(W:World) (g c gs:Nat) (hgs:gs<W.heap.size) (hK:Holds encB W gs 0 (scC ke)) h=>Ia (W:=W) (g:=g) (c:=c) (gs:=gs) (X:=gG P) C.toFld O.gap O.le (fF ke) (Nat.lt_trans (wF ke).1 hbig) hgs hK h);have HON:Hid (EC.On (gG P)):=jJ C.toFld;have HVa:=Hid.mk' (fun v0 v2 ta tc w=>Er C.toFld O v0 v2 (scC ke) (wr (EC.mul (beV (scC ke).toList) (.some (hpt P aQ s.data.toList):EC.Pt P))) ta s.size tc s.data.toList w);have hvl:vld P N (scC ke) s.size s.data.toList (wr (EC.mul (beV (scC ke).toList) (.some (hpt P aQ s.data.toList):EC.Pt P)))=true:=by
  obtain⟨p,hp,-⟩:=rO C.toFld (EC.bF C.toFld.cur (pJ C.toFld aQ s.data.toList) (beV (scC ke).toList));unfold vld kOk tkT;rw[hrq ke,hp,decide_eq_true (show 1<=s.size/\s.size<=64 from⟨hs1,hs2⟩),Option.getD_some,decide_eq_false (wF ke).2,decide_eq_true rfl];rfl
 rw[hvl]at HVa;have HSZ:Hid (s.size<=4096):=by show _<=_;omega
 have HT:=Hid.mk' (fun(gk gr g1 c1:Nat) (x:ByteArray) w hK hR hP hne=>Hy C O hord hpr gk gr g1 c1 (scC ke) (scC x) _ _ (hrq ke) (wF ke).2 (hrq x) s hs1 hs2 w hK hR hP hne);go_enter Tryz.func3,Tryz.ntmps3;go_wp2_with fail
 refine(nG r w1).mono ?_;rintro e w2 ⟨v2,rfl,hb2,g2',rfl,hge2,hlt2,hH2⟩;have K2:Hid (Below w0.heap.size w0 w2):=H1.out.trans (hb2.mono H1.out.size);have hcv2:=conv_str prog 22 9 5 slice22 int5 str9 w2 g2' 0 32 32 _ hH2 (fF r);clear hb2 hge2 hlt2 hH2 hcv0 hmk H1;go_wp2_with fail
 refine(HB1.out w2).mono ?_;rintro e w3 ⟨v3,rfl,hb3,rfl⟩;have K3:Hid (Below w0.heap.size w0 w3):=K2.out.trans (hb3.mono K2.out.size);clear hb3 K2 hcv2;go_wp2_with fail
 refine(nG t w3).mono ?_;rintro e w4 ⟨v4,rfl,hb4,g4',rfl,hge4,hlt4,hH4⟩;have K4:Hid (Below w0.heap.size w0 w4):=K3.out.trans (hb4.mono K3.out.size);have hcv4:=conv_str prog 22 9 5 slice22 int5 str9 w4 g4' 0 32 32 _ hH4 (fF t);clear hb4 hge4 hlt4 hH4 K3;go_wp2_with fail
 refine(HB2.out w4).mono ?_;rintro e w5 ⟨v5,rfl,hb5,rfl⟩;have K5:Hid (Below w0.heap.size w0 w5):=K4.out.trans (hb5.mono K4.out.size);clear hb5 K4 hcv4 HB1 HB2 hvl;by_cases z1:T1=Z
 ·subst z1;have eZ:=vX T1;go_wp2;go_ret;exact⟨rfl,K5.out⟩
 ·have e1:=Ck z1;by_cases z2:T2=Z
  ·subst z2;have eZ:=vX T2;go_wp2;go_ret;exact⟨rfl,K5.out⟩
  ·have e2:=Ck z2;have M1:=Hid.mk' (N1.out z1);have M2:=Hid.mk' (N2.out z2);clear N1 N2 z1 z2 hT1 hT2;go_wp2_with fail
   clear e1 e2;refine(nG ke w5).mono ?_;rintro e w6 ⟨v6,rfl,hb6,g6,rfl,hge6,hlt6,hH6⟩;have K6:Hid (Below w0.heap.size w0 w6/\El 32 w6 (.slice (some ⟨g6,0,none⟩) 32 32) (scC ke)):=⟨K5.out.trans (hb6.mono K5.out.size),g6,32,rfl,Nat.le_refl _,fF ke,hlt6,hH6⟩
   clear hb6 hge6 hlt6 hH6 K5;go_wp2_with fail
   refine(hG.out w6).mono ?_;rintro e w7 ⟨v7,rfl,hb7,g7,c7,rfl,hc7,hge7,hlt7,hH7⟩;have K7:Hid (Below w0.heap.size w0 w7/\El 32 w7 (.slice (some ⟨g6,0,none⟩) 32 32) (scC ke)/\(33<=c7/\g7<w7.heap.size/\EC.On (gG P)/\Holds encB w7 g7 0 (wr (gG P)))):=⟨K6.out.1.trans (hb7.mono K6.out.1.size),K6.out.2.below hb7 (Nat.le_refl _),hc7,hlt7,HON.out,hH7⟩
   clear hb7 hc7 hge7 hlt7 hH7 K6;go_wp2_with fail
   have hgk:g6<w7.heap.size/\Holds encB w7 g6 0 (scC ke):=by
    obtain⟨k,c,he,-,-,h3,h4⟩:=K7.out.2.1;cases he
    exact⟨h3,h4⟩
   refine(hTi.out w7 g7 c7 g6 hgk.1 hgk.2 K7.out.2.2).mono ?_;clear hgk;rintro e w8 ⟨v8,rfl,hb8,g8,c8,rfl,hc8,hge8,hlt8,hH8⟩;have K8:Hid (Below w0.heap.size w0 w8/\El 32 w8 (.slice (some ⟨g6,0,none⟩) 32 32) (scC ke)/\El 33 w8 (.slice (some ⟨g8,0,none⟩) 33 c8) (wr (EC.mul (beV (scC ke).toList) (gG P)))):=⟨K7.out.1.trans (hb8.mono K7.out.1.size),K7.out.2.1.below hb8 (Nat.le_refl _),g8,c8,rfl,hc8,aL _,hlt8,hH8⟩
   clear hb8 hc8 hge8 hlt8 hH8 K7;go_wp2_with fail
   refine(nG r w8).mono ?_;rintro e w9 ⟨v9,rfl,hb9,g9,rfl,hge9,hlt9,hH9⟩;have K9:Hid (Below w0.heap.size w0 w9/\El 32 w9 (.slice (some ⟨g6,0,none⟩) 32 32) (scC ke)/\El 33 w9 (.slice (some ⟨g8,0,none⟩) 33 c8) (wr (EC.mul (beV (scC ke).toList) (gG P)))/\El 32 w9 (.slice (some ⟨g9,0,none⟩) 32 32) (scC r)):=⟨K8.out.1.trans (hb9.mono K8.out.1.size),K8.out.2.1.below hb9 (Nat.le_refl _),K8.out.2.2.below hb9 (Nat.le_refl _),g9,32,rfl,Nat.le_refl _,fF r,hlt9,hH9⟩
   clear hb9 hge9 hlt9 hH9 K8;go_wp2_with fail
   refine(HT.out g6 g9 g8 c8 r w9 K9.out.2.1 K9.out.2.2.2 K9.out.2.2.1 M1.out).mono ?_;rintro e wA ⟨vA,rfl,hbA,qA,nA,cA,rfl,hCA⟩;have KA:Hid (Below w0.heap.size w0 wA/\El 32 wA (.slice (some ⟨g6,0,none⟩) 32 32) (scC ke)/\El 33 wA (.slice (some ⟨g8,0,none⟩) 33 c8) (wr (EC.mul (beV (scC ke).toList) (gG P)))/\Cw wA qA nA cA (wr (EC.mul (beV (scC ke).toList) (.some (hpt P aQ s.data.toList):EC.Pt P)))):=⟨K9.out.1.trans (hbA.mono K9.out.1.size),K9.out.2.1.below hbA (Nat.le_refl _),K9.out.2.2.1.below hbA (Nat.le_refl _),hCA⟩
   clear hbA hCA K9;go_wp2_with fail
   refine(nG t wA).mono ?_;rintro e wB ⟨vB,rfl,hbB,gB,rfl,hgeB,hltB,hHB⟩;have KB:Hid (Below w0.heap.size w0 wB/\El 32 wB (.slice (some ⟨g6,0,none⟩) 32 32) (scC ke)/\El 33 wB (.slice (some ⟨g8,0,none⟩) 33 c8) (wr (EC.mul (beV (scC ke).toList) (gG P)))/\El 32 wB (.slice (some ⟨gB,0,none⟩) 32 32) (scC t)/\Cw wB qA nA cA (wr (EC.mul (beV (scC ke).toList) (.some (hpt P aQ s.data.toList):EC.Pt P)))):=⟨KA.out.1.trans (hbB.mono KA.out.1.size),KA.out.2.1.below hbB (Nat.le_refl _),KA.out.2.2.1.below hbB (Nat.le_refl _),⟨gB,32,rfl,Nat.le_refl _,fF t,hltB,hHB⟩,KA.out.2.2.2.grow hbB⟩
   clear hbB hgeB hltB hHB KA;go_wp2_with fail
   refine(HT.out g6 gB g8 c8 t wB KB.out.2.1 KB.out.2.2.2.1 KB.out.2.2.1 M2.out).mono ?_;rintro e wC ⟨vC,rfl,hbC,qC,nC,cC,rfl,hCC⟩;obtain⟨capD,wD,hcD,hccD,hbD,hHD,hltD⟩:=C5 s wC;have KD:Hid (Below w0.heap.size w0 wD/\El 32 wD (.slice (some ⟨g6,0,none⟩) 32 32) (scC ke)/\SP.PartOk wD (.slice (some ⟨wC.heap.size,0,none⟩) s.size capD) s.data.toList/\Cw wD qA nA cA (wr (EC.mul (beV (scC ke).toList) (.some (hpt P aQ s.data.toList):EC.Pt P)))/\Cw wD qC nC cC (wr (EC.mul (beV (scC ke).toList) (.some (hpt P aQ s.data.toList):EC.Pt P)))):=by
    have h1:=KB.out.1.trans (hbC.mono KB.out.1.size);exact⟨h1.trans (hbD.mono h1.size),(KB.out.2.1.below hbC (Nat.le_refl _)).below hbD (Nat.le_refl _),Cy HSZ.out hccD hHD,(KB.out.2.2.2.2.grow hbC).grow hbD,hCC.grow hbD⟩
   clear hbC hCC KB HT hccD hbD hHD hltD;go_wp2_with fail
   refine(HVa.out _ _ _ _ wD (KD.out.2.1).arg KD.out.2.2.1 (KD.out.2.2.2.1.arg33).1).mono ?_;rintro e wE ⟨vE,rfl,hbE,rfl⟩;have KE:Hid (Below w0.heap.size w0 wE/\Cw wE qA nA cA (wr (EC.mul (beV (scC ke).toList) (.some (hpt P aQ s.data.toList):EC.Pt P)))/\Cw wE qC nC cC (wr (EC.mul (beV (scC ke).toList) (.some (hpt P aQ s.data.toList):EC.Pt P)))):=⟨KD.out.1.trans (hbE.mono KD.out.1.size),KD.out.2.2.2.1.grow hbE,KD.out.2.2.2.2.grow hbE⟩
   have hcA:=KE.out.2.1.conv;have hcC:=KE.out.2.2.conv;have eT:=vX (wr (EC.mul (beV (scC ke).toList) (.some (hpt P aQ s.data.toList):EC.Pt P)));generalize wr (EC.mul (beV (scC ke).toList) (.some (hpt P aQ s.data.toList):EC.Pt P))=TT at hcA hcC eT;clear hbE KD HVa hcD;go_wp2;go_ret;exact⟨by simp,KE.out.1⟩
theorem Li:NT.IsP Go.Proofs.YtgbjainaafdpgaaGreat.p1:=by
 rw[Fw];exact NT.pN
theorem EJ(ke s r t:ByteArray)(w0:World):
 Calls prog 3 #[.string ke,.string s,.string r,.string t] w0 fun e w'=>e=.returned (.bool true)/\Below w0.heap.size w0 w':=by
 by_cases h1:s.size<=64
 ·by_cases h2:1<=s.size
  ·obtain⟨P,hz,C⟩:=fl3;exact EK C Oq (order2 C.toFld) Li ke s r t h2 h1 w0
  ·have g1:¬(64:Int)<(s.size:Int):=by omega
   have g2:(s.size:Int)<1:=by omega
   go_enter Tryz.func3,Tryz.ntmps3;go_wp2;go_ret;exact⟨rfl,Below.refl _ _⟩
 ·have g1:(64:Int)<(s.size:Int):=by omega
  go_enter Tryz.func3,Tryz.ntmps3;go_wp2;go_ret;exact⟨rfl,Below.refl _ _⟩
end
/-
  THE ROW OF 'BlindTrue' round its walk; the frame by the guide's program (howto/shells), the world behind the call told by 'Below'.
-/
namespace blindTrue
open Go.ChangeShapes Go.WideShapes Go.ChangeAt Go.RowKit
open Go.ChangeMaps (open_string shut_string)
theorem own:ownKnob prog.godebug=none:=by kernel_rfl
theorem lifted(os:Os)(started:os.Started)(H:Type)(enc:TypeId × Value->H):
 ReturnsInHanded {} Tryz.checked os 3 .any (Rows.blindTrueSpec.pre6 enc prog Tryz.f3 Rows.blindTrueRow.domain false) (Rows.blindTrueSpec.post enc prog Tryz.f3 false true false false):=by
 refine returnsInHanded_of_change (C:=Tryz.checked) own started (by kernel_rfl) Tryz.func3
  (ChangeSpec.witness6 (enc:=enc) (C:=Tryz.checked) false ⟨#[],#[.string ByteArray.empty,.string ByteArray.empty,.string ByteArray.empty,.string ByteArray.empty],[]⟩ 8 (by kernel_rfl) (by kernel_rfl) (by kernel_rfl) (by kernel_rfl)) ?_
 intro W base args ds gs before hval0 hW hcnd _;have hval:∀(j:Nat) t v,Tryz.f3.params[j]? = some t->args[j]? = some v->Value.okWide prog W .any base t v:=hval0;have hW':=hW;obtain⟨p,q,hA0,hV,rfl,hfz,hnd⟩:=hW;have hA:DataW.TrodAll enc prog W 0 (fun _=>true) true Tryz.f3.params.toList args.toList ds p:=hA0;rw[Tryz.params3]at hA hval;obtain⟨v0,vs0,d0,ds0,p0,q0,hargs,rfl,rfl,h0,r0⟩:=trodAll_cons hA;obtain⟨v1,vs1,d1,ds1,p1,q1,rfl,rfl,rfl,h1,r1⟩:=trodAll_cons r0;obtain⟨v2,vs2,d2,ds2,p2,q2,rfl,rfl,rfl,h2,r2⟩:=trodAll_cons r1;obtain⟨v3,vs3,d3,ds3,p3,q3,rfl,rfl,rfl,h3,r3⟩:=trodAll_cons r2;obtain⟨rfl,rfl,rfl⟩:=trodAll_nil r3;obtain rfl:args=#[v0,v1,v2,v3]:=by cases args;simp_all
 obtain⟨rfl,rfl⟩:=trodVars_none hV;obtain⟨a0,rfl,rfl,rfl,w0⟩:=open_string Tryz.underlying9 (hval 0 9 v0 rfl rfl) h0;obtain⟨a1,rfl,rfl,rfl,w1⟩:=open_string Tryz.underlying9 (hval 1 9 v1 rfl rfl) h1;obtain⟨a2,rfl,rfl,rfl,w2⟩:=open_string Tryz.underlying9 (hval 2 9 v2 rfl rfl) h2;obtain⟨a3,rfl,rfl,rfl,w3⟩:=open_string Tryz.underlying9 (hval 3 9 v3 rfl rfl) h3;clear hA0 hval0;refine(EJ a0 a1 a2 a3 W).mono fun e W' ⟨he,bel⟩=>?_
 subst he;exact⟨_,rfl,_,_,_,[],_,[],hW',(trodAll_cons_mk (shut_bool Tryz.underlying4 _) trodAll_mk0),(trodAll_cons_mk (shut_string Tryz.underlying9 w0) (trodAll_cons_mk (shut_string Tryz.underlying9 w1) (trodAll_cons_mk (shut_string Tryz.underlying9 w2) (trodAll_cons_mk (shut_string Tryz.underlying9 w3) trodAll_mk0)))),rfl,bel.frame _,fun h=>by cases h⟩
theorem over:Rows.blindTrueRow.holds Tryz.pinned (OpenSpec.ofChange Rows.blindTrueSpec):=
 OpenClaim.holds_of_wide 3 Tryz.f3 rfl rfl rfl rfl rfl rfl rfl ⟨rfl,rfl,rfl,rfl,rfl⟩ rfl rfl rfl rfl rfl (by kernel_rfl) Tryz.func3 (by kernel_rfl)
  (of_decide_eq_true (by kernel_rfl)) (by unfold Func.isWrapper;first|(rw[if_pos (by decide +kernel)];kernel_rfl)|(rw[if_neg (by decide +kernel)];exact⟨rfl,rfl⟩))
  (fun os started H enc _=>lifted os started H enc)
theorem proved:Rows.BlindTrueSaid:=
 over
end blindTrue
section
theorem blindTrue_holds:Rows.BlindTrueSaid:=blindTrue.proved
#print axioms blindTrue_holds
end
end Go.Proofs.YtgbjainaafdpgaaGreat
