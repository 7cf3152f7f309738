import Derived.Lib.SliceRun
import Derived.Deep.AppendSrc
import Derived.Lib.AppendZeros
import Derived.Lib.ConvBytes
import Derived.BigQuiet
import Derived.Deep.LoopGhost
import Derived.Deep.RegionHeld3
import Derived.Lib.LazyBuf
import Derived.RangeFuncNested
import Derived.RangeFuncBound
import Derived.RangeFuncCalls
import Derived.RangeFuncLeaves
import Derived.Shelf.Abstract
import Derived.Shelf.RegionOpen
import Derived.WalkKit
import Derived.OwnWalkIn
import Derived.TacticsInMore
import Derived.LoopNIn
import Derived.LoopIn
import Derived.Deep.RegionWith
import Derived.Deep.CutRange
import Derived.Deep.DeepCutAuto
import Derived.Deep.OwnRows
import Derived.Test.YtmkllfekhehagafGreatBQ5
set_option linter.unusedVariables false
set_option linter.unusedSimpArgs false
namespace Go.Proofs.YtmkllfekhehagafGreat.SP
open Go.Sort
/-! ### Words and bytes -/
theorem wide_bit (x : UInt8) (i : Nat) : (wide x).getLsbD i = x.toNat.testBit i := by
  unfold wide
  rw [BitVec.getLsbD_ofNat]
  by_cases h : i < 64
  · simp [h]
  · have : x.toNat.testBit i = false := Nat.testBit_lt_two_pow (Nat.lt_of_lt_of_le x.toNat_lt (Nat.pow_le_pow_right (by decide) (by omega : 8 ≤ i)))
    simp [h, this]
theorem byte_bit_high (x:UInt8) (i:Nat) (h:8≤i):x.toNat.testBit i=false :=
 Nat.testBit_lt_two_pow (Nat.lt_of_lt_of_le x.toNat_lt (Nat.pow_le_pow_right (by decide) h))
theorem wordTo_bit (bs:Bs) (o n k:Nat) (hn:n≤8) (hk:k < 64):(wordTo bs o n).getLsbD k=(decide (k < 8*n) && (bs[o+k / 8]!).toNat.testBit (k % 8)):=by
 induction n with
 | zero=>simp [wordTo]
 | succ n ih =>
  rw [wordTo,BitVec.getLsbD_or,ih (by omega),BitVec.getLsbD_shiftLeft,wide_bit]
  by_cases h1:k < 8*n
  · simp [h1,hk,show k < 8*(n+1) by omega]
  · by_cases h2:k < 8*(n+1)
    · have e1:k / 8=n:=by omega
      have e2:k - 8*n=k % 8:=by omega
      simp [h1,h2,hk,e1,e2]
    · have:=byte_bit_high bs[o+n]! (k - 8*n) (by omega)
      simp [h1,h2,hk,this]
theorem low_bit (v:BitVec 64) (i:Nat) (h:i < 8):(low v).toNat.testBit i=v.getLsbD i:=by
 unfold low
 rw [UInt8.toNat_ofNat',Nat.testBit_mod_two_pow,BitVec.getLsbD]
 simp [h]
theorem frontTo_at (d:St) (n k j:Nat) (hk:k≤n) (hj:j < n):(frontTo d n k)[j]! = if j < k then byteOf d j else 0:=by
 induction k with
 | zero =>
  have h':j < (Array.replicate n (0:UInt8)).size:=by rw [Array.size_replicate];exact hj
  rw [frontTo,getElem!_pos (Array.replicate n (0:UInt8)) j h',Array.getElem_replicate,if_neg (by omega)]
 | succ k ih =>
  rw [frontTo]
  by_cases h:j=k
  · subst h
    rw [getElem!_set_same _ _ _ (by rw [frontTo_size];exact hj),if_pos (by omega)]
  · rw [getElem!_set_other _ _ _ _ h,ih (by omega)]
    by_cases h1:j < k
    · rw [if_pos h1,if_pos (by omega)]
    · rw [if_neg h1,if_neg (by omega)]
theorem front_at (d:St) (n j:Nat) (hj:j < n):(front d n)[j]! = byteOf d j:=by
 unfold front
 rw [frontTo_at d n n j (Nat.le_refl _) hj,if_pos hj]
theorem word_front (d:St) (n j:Nat) (hj:8*j+8≤n):wordOf (front d n) (8*j)=d[j]!:=by
 apply BitVec.eq_of_getLsbD_eq
 intro k hk
 unfold wordOf
 rw [wordTo_bit _ _ 8 k (Nat.le_refl _) hk,front_at d n _ (by omega)]
 unfold byteOf
 have e1:(8*j+k / 8) / 8=j:=by omega
 have e2:(8*j+k / 8) % 8=k / 8:=by omega
 rw [low_bit _ _ (Nat.mod_lt _ (by decide)),BitVec.getLsbD_ushiftRight,e1,e2,show 8*(k / 8)+k % 8=k by omega]
 simp [hk]
theorem mix_front (d:St) (hd:d.size=25):mixTo (front d 200) zero25 25=d:=by
 have hz:zero25.size=25:=by simp [zero25]
 refine st_ext _ _ (by rw [mixTo_size,hz]) hd (fun j hj=>?_)
 rw [mixTo_at _ zero25 hz 25 j (Nat.le_refl _) hj,if_pos hj,zero25_at j hj,zx,word_front d 200 j (by omega)]
theorem permB_front (d:St) (hd:d.size=25):permB (front d 200)=front (perm d) 200:=by
 unfold permB
 rw [mix_front d hd]
/-! ### The sponge, byte by byte -/
structure Sp where
  d : St
  p : Bs
  h : Nat
structure Ok (S:Sp):Prop where
 d25:S.d.size=25
 p136:S.p.size=136
 hlt:S.h < 136
def soakL (S:Sp):Sp:={ d:=perm (mixTo S.p S.d 17),p:=S.p,h:=0 }
def putB (S:Sp) (x:UInt8):Sp :=
 if S.h+1=136 then soakL { d:=S.d,p:=S.p.setIfInBounds S.h x,h:=S.h } else { d:=S.d,p:=S.p.setIfInBounds S.h x,h:=S.h+1 }
def takeL (S:Sp) (l:List UInt8):Sp:=l.foldl putB S
def splice (p:Bs):Nat→List UInt8→Bs
 | _,[]=>p
 | i,x :: r=>splice (p.setIfInBounds i x) (i+1) r
theorem takeL_append (S:Sp) (a b:List UInt8):takeL S (a++b)=takeL (takeL S a) b:=List.foldl_append
theorem splice_size (p:Bs) (i:Nat) (l:List UInt8):(splice p i l).size=p.size:=by
 induction l generalizing p i with
 | nil=>rfl
 | cons x r ih=>rw [splice,ih,Array.size_setIfInBounds]
theorem splice_at (p:Bs) (i:Nat) (l:List UInt8) (j:Nat) (hl:i+l.length≤p.size) (hj:j < p.size):(splice p i l)[j]! = if i≤j∧j < i+l.length then l[j - i]! else p[j]!:=by
 induction l generalizing p i with
 | nil=>simp [splice];omega
 | cons x r ih =>
  simp only [List.length_cons] at hl
  rw [splice,ih _ _ (by rw [Array.size_setIfInBounds];omega) (by rw [Array.size_setIfInBounds];exact hj)]
  by_cases h:j=i
  · subst h
    rw [if_neg (by omega),getElem!_set_same _ _ _ hj,if_pos (by simp),Nat.sub_self]
    rfl
  · rw [getElem!_set_other _ _ _ _ h]
    by_cases h1:i+1≤j∧j < i+1+r.length
    · rw [if_pos h1,if_pos (by simp;omega),show j - i=(j - (i+1))+1 by omega]
      rfl
    · rw [if_neg h1,if_neg (by simp;omega)]
theorem soak_mk (d:St) (p:Bs) (h:Nat):soakL ⟨d,p,h⟩=⟨perm (mixTo p d 17),p,0⟩:=by unfold soakL;rfl
theorem soakL_d (S:Sp):(soakL S).d=perm (mixTo S.p S.d 17):=by
 obtain ⟨d,p,h⟩:=S
 rw [soak_mk]
theorem soakL_p (S:Sp):(soakL S).p=S.p:=by
 obtain ⟨d,p,h⟩:=S
 rw [soak_mk]
theorem soakL_h (S:Sp):(soakL S).h=0:=by
 obtain ⟨d,p,h⟩:=S
 rw [soak_mk]
theorem soak_ok {S:Sp} (h1:S.d.size=25) (h2:S.p.size=136):Ok (soakL S):=by
 have hd:(mixTo S.p S.d 17).size=25:=by rw [mixTo_size,h1]
 refine ⟨?_,by rw [soakL_p,h2],?_⟩
 · rw [soakL_d]
   exact perm_size _ hd
 · rw [soakL_h]
   decide
theorem putB_ok {S:Sp} (h:Ok S) (x:UInt8):Ok (putB S x):=by
 have:=h.hlt
 unfold putB
 by_cases e:S.h+1=136
 · rw [if_pos e]
   exact soak_ok h.d25 (by show (S.p.setIfInBounds _ _).size=136;rw [Array.size_setIfInBounds];exact h.p136)
 · rw [if_neg e]
   exact ⟨h.d25,by show (S.p.setIfInBounds _ _).size=136;rw [Array.size_setIfInBounds];exact h.p136,by show S.h+1 < 136;omega⟩
theorem takeL_ok {S:Sp} (h:Ok S) (l:List UInt8):Ok (takeL S l):=by
 induction l generalizing S with
 | nil=>exact h
 | cons x r ih=>exact ih (putB_ok h x)
theorem putB_h {S:Sp} (h:Ok S) (x:UInt8):(putB S x).h=(S.h+1) % 136:=by
 have:=h.hlt
 unfold putB
 by_cases e:S.h+1=136
 · rw [if_pos e,e];rfl
 · rw [if_neg e,Nat.mod_eq_of_lt (by omega)]
theorem takeL_h {S:Sp} (h:Ok S) (l:List UInt8):(takeL S l).h=(S.h+l.length) % 136:=by
 induction l generalizing S with
 | nil=>exact (Nat.mod_eq_of_lt h.hlt).symm
 | cons x r ih =>
  show (takeL (putB S x) r).h=_
  rw [ih (putB_ok h x),putB_h h x,List.length_cons]
  omega
theorem takeL_chunk (S:Sp) (l:List UInt8) (hl:l≠[]) (hle:S.h+l.length≤136) :
 takeL S l=if S.h+l.length=136 then soakL { d:=S.d,p:=splice S.p S.h l,h:=S.h } else { d:=S.d,p:=splice S.p S.h l,h:=S.h+l.length }:=by
 induction l generalizing S with
 | nil=>exact absurd rfl hl
 | cons x r ih =>
  show takeL (putB S x) r=_
  simp only [List.length_cons] at hle ⊢
  cases r with
  | nil =>
   unfold putB takeL splice
   simp only [List.foldl_nil,List.length_nil]
   by_cases e:S.h+1=136
   · rw [if_pos e,if_pos (by omega)];rfl
   · rw [if_neg e,if_neg (by omega)];rfl
  | cons y r' =>
   have e:¬ S.h+1=136:=by simp only [List.length_cons] at hle;omega
   have hp:putB S x = { d:=S.d,p:=S.p.setIfInBounds S.h x,h:=S.h+1 }:=by unfold putB;rw [if_neg e]
   rw [hp,ih _ (by simp) (by simp only [List.length_cons] at hle ⊢;omega)]
   simp only [splice,List.length_cons]
   by_cases e2:S.h+(r'.length+1+1)=136
   · rw [if_pos (by omega),if_pos e2];rfl
   · rw [if_neg (by omega),if_neg e2,show S.h+1+(r'.length+1)=S.h+(r'.length+1+1) by omega]
/-! ### The end -/
def ended (p : Bs) (h : Nat) (e : UInt8) : Bs :=
  let q := (splice p h (List.replicate (136 - h) 0)).setIfInBounds h e
  q.setIfInBounds 135 (q[135]! ^^^ 128)
def finalL (S:Sp) (e:UInt8):Sp:=soakL { d:=S.d,p:=ended S.p S.h e,h:=S.h }
def tailpad (h:Nat) (e:UInt8):List UInt8 :=
 (e :: List.replicate (135 - h) 0).set (135 - h) ((e :: List.replicate (135 - h) 0)[135 - h]! ^^^ 128)
theorem tailpad_length (h:Nat) (e:UInt8) (hh:h < 136):(tailpad h e).length=136 - h:=by
 unfold tailpad
 rw [List.length_set,List.length_cons,List.length_replicate]
 omega
theorem bs_ext (a b:Bs) (n:Nat) (ha:a.size=n) (hb:b.size=n) (h:∀ j,j < n→a[j]! = b[j]!):a=b:=by
 apply Array.ext (by omega)
 intro i h1 h2
 have:=h i (by omega)
 rwa [getElem!_pos a i h1,getElem!_pos b i h2] at this
theorem pad_at (h:Nat) (e:UInt8) (j:Nat) (hj:j < 136 - h) (hh:h < 136):(tailpad h e)[j]! = (if j=0 then e else 0) ^^^ (if j=135 - h then 128 else 0):=by
 have hc:∀ j,j < 136 - h→(e :: List.replicate (135 - h) (0:UInt8))[j]! = if j=0 then e else 0:=by
  intro j hj
  cases j with
  | zero=>rfl
  | succ j =>
   have hl:j+1 < (e :: List.replicate (135 - h) (0:UInt8)).length:=by rw [List.length_cons,List.length_replicate];omega
   rw [getElem!_pos (e :: List.replicate (135 - h) (0:UInt8)) (j+1) hl]
   simp
 have hlen:(tailpad h e).length=136 - h:=tailpad_length h e hh
 have hl:j < (e :: List.replicate (135 - h) (0:UInt8)).length:=by rw [List.length_cons,List.length_replicate];omega
 rw [getElem!_pos (tailpad h e) j (by rw [hlen];exact hj)]
 unfold tailpad
 rw [List.getElem_set]
 by_cases h1:135 - h=j
 · rw [if_pos h1,hc (135 - h) (by omega),h1,if_pos (rfl:j=j)]
 · rw [if_neg h1,if_neg (show ¬ j=135 - h by omega)]
   have:=hc j hj
   rw [getElem!_pos (e :: List.replicate (135 - h) (0:UInt8)) j hl] at this
   rw [this]
   simp
theorem ended_size (p:Bs) (h:Nat) (e:UInt8):(ended p h e).size=p.size:=by
 unfold ended
 simp only [Array.size_setIfInBounds,splice_size]
theorem rep_list_at (n j:Nat) (h:j < n):(List.replicate n (0:UInt8))[j]! = 0:=by
 rw [getElem!_pos _ j (by simpa using h)]
 simp
theorem ended_eq (p:Bs) (h:Nat) (e:UInt8) (hp:p.size=136) (hh:h < 136):ended p h e=splice p h (tailpad h e):=by
 have hs:(splice p h (List.replicate (136 - h) 0)).size=136:=by rw [splice_size,hp]
 refine bs_ext _ _ 136 (by rw [ended_size,hp]) (by rw [splice_size,hp]) (fun j hj=>?_)
 have hq:∀ j,j < 136→((splice p h (List.replicate (136 - h) 0)).setIfInBounds h e)[j]! = if j < h then p[j]! else if j=h then e else 0:=by
  intro j hj
  by_cases h1:j=h
  · rw [h1,getElem!_set_same _ _ _ (by omega),if_neg (by omega),if_pos rfl]
  · rw [getElem!_set_other _ _ _ _ h1,splice_at _ _ _ _ (by rw [List.length_replicate,hp];omega) (by omega),List.length_replicate]
    by_cases h2:j < h
    · rw [if_neg (by omega),if_pos h2]
    · rw [if_pos (by omega),if_neg h2,if_neg h1,rep_list_at _ _ (by omega)]
 have hR:(splice p h (tailpad h e))[j]! = if j < h then p[j]! else (if j=h then e else 0) ^^^ (if j=135 then 128 else 0):=by
  rw [splice_at _ _ _ _ (by rw [tailpad_length h e hh,hp];omega) (by omega),tailpad_length h e hh]
  by_cases h2:j < h
  · rw [if_neg (show ¬ (h≤j∧j < h+(136 - h)) by omega),if_pos h2]
  · rw [if_pos (show h≤j∧j < h+(136 - h) by omega),if_neg h2,pad_at h e _ (by omega) hh]
    have e1:(j - h=0)=(j=h):=by apply propext;omega
    have e2:(j - h=135 - h)=(j=135):=by apply propext;omega
    simp only [e1,e2]
 have hL:(ended p h e)[j]! = if j < h then p[j]! else (if j=h then e else 0) ^^^ (if j=135 then 128 else 0):=by
  unfold ended
  by_cases h135:j=135
  · rw [h135,getElem!_set_same _ _ _ (by rw [Array.size_setIfInBounds,hs];decide),hq 135 (by decide),if_neg (show ¬ 135 < h by omega),if_neg (show ¬ 135 < h by omega),if_pos (rfl:135=135)]
  · rw [getElem!_set_other _ _ _ _ h135,hq j hj]
    by_cases h2:j < h
    · rw [if_pos h2,if_pos h2]
    · rw [if_neg h2,if_neg h2,if_neg h135]
      simp
 rw [hL,hR]
theorem finalL_eq {S:Sp} (h:Ok S) (e:UInt8):finalL S e=takeL S (tailpad S.h e):=by
 have:=h.hlt
 have hl:=tailpad_length S.h e h.hlt
 rw [takeL_chunk S _ (by intro c;rw [c] at hl;simp at hl;omega) (by omega),if_pos (by omega)]
 unfold finalL
 rw [ended_eq _ _ _ h.p136 h.hlt]
end Go.Proofs.YtmkllfekhehagafGreat.SP
namespace Go.Proofs.YtmkllfekhehagafGreat.SP
open Go.RowKit Go.Sort Go.Deep
theorem Only.widen {b o n o' n':Nat} {w w':World} (h:Only b o n w w') (h1:o'≤o) (h2:o+n≤o'+n'):Only b o' n' w w' :=
 ⟨h.os,h.tape,h.output,h.size,h.block,fun q hq=>h.cell q (by omega),h.froz⟩
structure HSp (w:World) (b:Nat) (S:Sp):Prop where
 d:Holds enc w b 0 S.d
 p:Holds encB w b 25 S.p
 h:w.cell? ⟨b,161,none⟩=some (.int .i64 (S.h:Int))
 f:w.frozen? ⟨b,161,none⟩=false
theorem HSp.drew {w:World} {b:Nat} {S:Sp} (h:HSp w b S):HSp w.drew b S:=⟨h.d,h.p,h.h,h.f⟩
theorem HSp.lt {w:World} {b:Nat} {S:Sp} (h:HSp w b S):b < w.heap.size:=World.block_lt_of_cell? _ _ h.h
theorem HSp.below {w w':World} {b B:Nat} {S:Sp} (h:HSp w b S) (k:Below B w w') (hb:b < B):HSp w' b S :=
 ⟨Holds.below h.d k hb,Holds.below h.p k hb,by rw [k.cell (p:=⟨b,161,none⟩) hb];exact h.h,by rw [k.frozen (p:=⟨b,161,none⟩) hb];exact h.f⟩
set_option maxHeartbeats 1000000 in
set_option maxRecDepth 100000 in
theorem soak_any (b:Nat) (S:Sp) (w:World) (h25:S.d.size=25) (h136:S.p.size=136) (hS:HSp w b S) :
 Calls Tryz.prog 252 #[.pointer (some ⟨b,0,none⟩)] w fun e w'=>e=.returned (.tuple #[])∧Only b 0 162 w w'∧HSp w' b (soakL S):=by
 obtain ⟨d,p,h⟩:=S
 dsimp only at h25 h136
 have hD:Holds enc w b 0 d:=hS.d
 have hP:Holds encB w b 25 p:=hS.p
 have hc:=hS.h
 have hf:=hS.f
 dsimp only at hc
 rw [soak_mk]
 clear hS
 have hps:(perm (mixTo p d 17)).size=25:=perm_size _ (by rw [mixTo_size,h25])
 generalize hpm:perm (mixTo p d 17)=pd at hps ⊢
 have HPM:Hid (perm (mixTo p d 17)=pd):=hpm
 clear hpm
 go_enter Tryz.func252,Tryz.ntmps252
 go_wp2
 go_still_tail 7,mixed
 go_wp2_with fail
 refine (mix_any b 0 b 25 136 136 p d _ h25 (Holds.drew hD) (Holds.drew hP) h136 (by decide) (Nat.le_refl _) (by omega)).mono ?_
 rintro e w1 ⟨rfl,hO1,hD1⟩
 have hO1':Only b 0 25 w w1:=((Only.refl b 0 25 w).drew).trans hO1
 have hD1':Holds enc w1 b 0 (mixTo p d 17):=hD1
 have hP1:=Holds.same hP hO1' (by omega)
 have c1:w1.cell? ⟨b,161,none⟩=some (.int .i64 (h:Int)):=by rw [hO1'.cell 161 (by omega)];exact hc
 have f1:w1.frozen? ⟨b,161,none⟩=false:=by rw [hO1'.froz];exact hf
 clear hO1 hD1
 go_wp2_with fail
 refine (permute_any b 0 _ _ (by rw [mixTo_size,h25]) hD1').mono ?_
 rintro e w2 ⟨rfl,hO2,hD2⟩
 rw [HPM.out] at hD2
 have hP2:=Holds.same hP1 hO2 (by omega)
 have c2:w2.cell? ⟨b,161,none⟩=some (.int .i64 (h:Int)):=by rw [hO2.cell 161 (by omega)];exact c1
 have f2:w2.frozen? ⟨b,161,none⟩=false:=by rw [hO2.froz];exact f1
 go_wp2
 go_end0
 have hO3:Only b 161 1 w2 (w2.setCell ⟨b,161,none⟩ (.int .i64 0)):=(Only.refl b 161 1 w2).setCell (by omega) (by omega) _
 have hD3:Holds enc _ b 0 pd:=Holds.same hD2 hO3 (Or.inl (by omega))
 have hP3:Holds encB _ b 25 p:=Holds.same hP2 hO3 (Or.inl (by omega))
 exact ⟨rfl,((hO1'.trans hO2).widen (Nat.le_refl _) (by omega)).trans (hO3.widen (by omega) (by omega)),⟨hD3,hP3,World.cell?_setCell_same _ _ _ c2,by rw [World.frozen?_setCell];exact f2⟩⟩
end Go.Proofs.YtmkllfekhehagafGreat.SP
namespace Go.Proofs.YtmkllfekhehagafGreat.SP
open Go.RowKit Go.Sort Go.Deep
theorem ints5:(Tryz.prog.info? 5).map (·.size)=some 1:=by kernel_rfl
theorem holds_splice {w:World} {b o:Nat} {p:Bs} (h:Holds encB w b o p) (i:Nat) (l:List UInt8) (hi:i+l.length≤p.size):Holds encB (w.setCells b (o+i) (l.map encB)) b o (splice p i l):=by
 refine Holds.setCells h _ i (splice_size p i l) (by rw [List.length_map];exact hi) (fun j hj=>?_) (fun j hj hout=>?_)
 · rw [List.length_map] at hj
   rw [splice_at p i l (i+j) hi (by omega),if_pos (by omega),Nat.add_sub_cancel_left,getElem!_pos l j hj,List.getElem_map]
 · rw [List.length_map] at hout
   rw [splice_at p i l j hi hj,if_neg (by omega)]
def piece (bs:Bs) (k n:Nat):List UInt8:=(bs.toList.drop k).take n
theorem piece_length (bs:Bs) (k n:Nat) (h:k+n≤bs.size):(piece bs k n).length=n:=by
 unfold piece
 rw [List.length_take,List.length_drop,Array.length_toList]
 omega
theorem piece_at (bs:Bs) (k n j:Nat) (h:k+n≤bs.size) (hj:j < n) (hl:j < (piece bs k n).length):(piece bs k n)[j]=bs[k+j]!:=by
 have e:(piece bs k n)[j]? = some bs[k+j]!:=by
  unfold piece
  rw [List.getElem?_take_of_lt hj,List.getElem?_drop,Array.getElem?_toList,Array.getElem?_eq_getElem (by omega),getElem!_pos bs (k+j) (by omega)]
 exact (List.getElem?_eq_some_iff.1 e).2
theorem take_piece (bs:Bs) (k n:Nat):bs.toList.take (k+n)=bs.toList.take k++piece bs k n:=List.take_add
theorem copy_piece {w:World} {b h sb o len cap n:Nat} {p bs:Bs} {k:Nat} (hP:Holds encB w b 25 p) (hp:p.size=136) (hB:Holds encB w sb o bs) (hh:h < 136) (hk:k+len≤bs.size) (hn:Nat.min len (136 - h)=n) :
 (Builtin.copy_ #[23,23] 3 #[.slice (some ⟨b,25+h,none⟩) (136 - h) (136 - h),.slice (some ⟨sb,o+k,none⟩) len cap]).run Tryz.prog w=.ok (goInt n) (w.setCells b (25+h) ((piece bs k n).map encB)):=by
 have hnl:n≤len:=by rw [← hn];exact Nat.min_le_left _ _
 have hnh:n≤136 - h:=by rw [← hn];exact Nat.min_le_right _ _
 have hlen:((piece bs k n).map encB).length=n:=by rw [List.length_map,piece_length bs k n (by omega)]
 have:=run_copy_cells (P:=Tryz.prog) w 23 23 3 5 b (25+h) (136 - h) (136 - h) ⟨sb,o+k,none⟩ len cap ((piece bs k n).map encB) slice22 ints5 (by rw [hlen,hn])
  (fun j v hj=>by
   obtain ⟨h1,h2⟩:=List.getElem?_eq_some_iff.1 hj
   rw [hlen] at h1
   have hc:=(hB (k+j) (by omega)).1
   rw [List.getElem_map,piece_at bs k n j (by omega) h1] at h2
   have e1:(⟨sb,o+k,none⟩:Addr).add j=⟨sb,o+(k+j),none⟩:=by
    unfold Addr.add
    by_cases h0:j=0
    · subst h0;rw [if_pos rfl];rfl
    · rw [if_neg h0,Nat.add_assoc]
   rw [e1,hc,h2])
  (fun j hj=>by
   rw [hlen] at hj
   have:=(hP (h+j) (by omega)).1
   rw [← Nat.add_assoc] at this
   rw [this];rfl)
  (fun j hj=>by
   rw [hlen] at hj
   have:=(hP (h+j) (by omega)).2
   rw [← Nat.add_assoc] at this
   exact this)
  (fun v hv=>by
   obtain ⟨x,_,rfl⟩:=List.mem_map.1 hv
   rfl)
 rw [hlen] at this
 exact this
theorem held_set {w:World} {b:Nat} {d:St} {p:Bs} {v:Value} (hD:Holds enc w b 0 d) (h25:d.size=25) (hP:Holds encB w b 25 p) (h136:p.size=136) (hc:w.cell? ⟨b,161,none⟩=some v) (hf:w.frozen? ⟨b,161,none⟩=false) (m:Nat) :
 HSp (w.setCell ⟨b,161,none⟩ (.int .i64 ((m:Nat):Int))) b ⟨d,p,m⟩:=by
 have hO:Only b 161 1 w (w.setCell ⟨b,161,none⟩ (.int .i64 ((m:Nat):Int))):=(Only.refl b 161 1 w).setCell (by omega) (by omega) _
 have hD3:Holds enc _ b 0 d:=Holds.same hD hO (Or.inl (by omega))
 have hP3:Holds encB _ b 25 p:=Holds.same hP hO (Or.inl (by omega))
 exact ⟨hD3,hP3,World.cell?_setCell_same _ _ _ hc,by rw [World.frozen?_setCell];exact hf⟩
set_option maxHeartbeats 2000000 in
set_option maxRecDepth 100000 in
theorem take_any (b:Nat) (S:Sp) (a:Option Addr) (sb so len cap:Nat) (bs:Bs) (w:World) (hok:Ok S) (hS:HSp w b S) (hl:bs.size=len) (hcap:len≤cap) (hbig:len≤1099511627776)
 (hsrc:len=0∨(a=some ⟨sb,so,none⟩∧sb≠b∧Holds encB w sb so bs)) :
 Calls Tryz.prog 240 #[.pointer (some ⟨b,0,none⟩),.slice a len cap] w fun e w'=>e=.returned (.tuple #[])∧Only b 0 162 w w'∧HSp w' b (takeL S bs.toList):=by
 go_enter Tryz.func240,Tryz.ntmps240
 go_wp2
 go_loopg [1] len (fun g s1 wr=>∃ (k:Nat) (a':Option Addr) (Sk:Sp),k+g=len∧s1=.slice a' (len - k) (cap - k)∧(k < len→a'=some ⟨sb,so+k,none⟩)∧HSp wr b Sk∧Only b 0 162 w wr∧Hid (Sk=takeL S (bs.toList.take k)))
 case atStart =>
  refine ⟨0,a,S,by omega,rfl,fun h0=>?_,hS,Only.refl _ _ _ _,rfl⟩
  rcases hsrc with h | ⟨h,_,_⟩
  · omega
  · exact h
 case round =>
  obtain ⟨k,a',Sk,hk,rfl,ha',hSk,hO,HE⟩:=hrel
  by_cases hlt:k < len
  · have e1:=ha' hlt
    subst e1
    obtain ⟨_,hne,hB⟩:a=some ⟨sb,so,none⟩∧sb≠b∧Holds encB w sb so bs:=by
     rcases hsrc with h | h
     · omega
     · exact h
    have hBr:=Holds.other hB hO hne (by omega)
    have hokk:Ok Sk:=by rw [HE.out];exact takeL_ok hok _
    obtain ⟨q,hh⟩:∃ q,Sk.h=q:=⟨_,rfl⟩
    have hlt136:=hokk.hlt
    have hsz:=hokk.p136
    rw [hh] at hlt136
    have hc:=hSk.h
    have hf:=hSk.f
    rw [hh] at hc
    have hP:=hSk.p
    obtain ⟨n,hn⟩:∃ n,Nat.min (len - k) (136 - q)=n:=⟨_,rfl⟩
    have l0:(0:Int) < ((len - k:Nat):Int):=by omega
    have hh136:(q:Int)≤136:=by omega
    have Hh:Hid (Sk.h=q):=hh
    clear hh
    have hne136:(136=q)=False:=eq_false (by omega)
    have hn1:1≤n:=by rw [← hn];exact (Nat.le_min).2 ⟨by omega,by omega⟩
    have hnl:n≤len - k:=by rw [← hn];exact Nat.min_le_left _ _
    have hnh:n≤136 - q:=by rw [← hn];exact Nat.min_le_right _ _
    have hcp:=copy_piece (w:=wr.drew) (cap:=cap - k) (k:=k) hP hsz hBr hlt136 (by omega) hn
    have hpl:=piece_length bs k n (by omega)
    have hP1:=holds_splice (Holds.drew hP) q (piece bs k n) (by omega)
    have hO1:Only b 0 162 w (wr.drew.setCells b (25+q) ((piece bs k n).map encB)):=hO.drew.setCells _ _ (by omega) (by rw [List.length_map];omega)
    have hOx:Only b 25 136 wr (wr.drew.setCells b (25+q) ((piece bs k n).map encB)):=((Only.refl b 25 136 wr).drew).setCells _ _ (by omega) (by rw [List.length_map];omega)
    have hD1:=Holds.same hSk.d hOx (Or.inl (by rw [hokk.d25];omega))
    have c1:(wr.drew.setCells b (25+q) ((piece bs k n).map encB)).cell? ⟨b,161,none⟩=some (.int .i64 (q:Int)):=by rw [hOx.cell 161 (by omega)];exact hc
    have f1:(wr.drew.setCells b (25+q) ((piece bs k n).map encB)).frozen? ⟨b,161,none⟩=false:=by rw [hOx.froz];exact hf
    have HT:Hid (takeL S (bs.toList.take (k+n))=takeL Sk (piece bs k n)):=by
     show _=_
     rw [take_piece,takeL_append,← HE.out]
    have HCH:Hid (takeL Sk (piece bs k n)=if q+n=136 then soakL ⟨Sk.d,splice Sk.p q (piece bs k n),q⟩ else ⟨Sk.d,splice Sk.p q (piece bs k n),q+n⟩):=by
     show _=_
     have:=takeL_chunk Sk (piece bs k n) (by intro e;rw [e] at hpl;simp at hpl;omega) (by rw [hpl,Hh.out];omega)
     rw [hpl,Hh.out] at this
     exact this
    have hss:(splice Sk.p q (piece bs k n)).size=136:=by rw [splice_size,hsz]
    have hds:=hokk.d25
    generalize hW1:wr.drew.setCells b (25+q) ((piece bs k n).map encB)=W1 at hcp hP1 hO1 hD1 c1 f1
    generalize splice Sk.p q (piece bs k n)=sp at hP1 hss HCH
    generalize Sk.d=sd at hD1 hds HCH
    clear hOx hW1 hP hBr hokk hpl hSk hsz hn
    have z1:(n:Int)≤((len - k:Nat):Int):=by omega
    by_cases hcn:cap - k=n
    · have hcn':(cap - k=n)=True:=eq_true hcn
      have HCN:Hid (cap - k=n):=hcn
      clear hcn
      by_cases hfull:q+n=136
      · have hb:((q:Int)+(n:Int) == 136)=true:=beq_iff_eq.2 (by omega)
        rw [if_pos hfull] at HCH
        go_wp2_with fail
        go_still_tail 9,mixed
        go_wp2_with fail
        refine (soak_any b ⟨sd,sp,q+n⟩ _ hds hss (held_set hD1 hds hP1 hss c1 f1 (q+n))).mono ?_
        rintro e w2 ⟨rfl,hO2,hS2⟩
        go_wp2
        go_roundg (gk - n)
        case measure=>omega
        case rel =>
         refine ⟨k+n,some ⟨sb,so+k,none⟩,soakL ⟨sd,sp,q⟩,by omega,by rw [Nat.sub_sub,Nat.sub_sub],fun hx=>by have:=HCN.out;omega,?_,?_,?_⟩
         · rw [soak_mk] at hS2 ⊢
           exact hS2
         · exact (hO1.setCell (o:=161) (by omega) (by omega) _).trans hO2
         · rw [HT.out,HCH.out];rfl
      · have hb:((q:Int)+(n:Int) == 136)=false:=beq_eq_false_iff_ne.2 (by omega)
        rw [if_neg hfull] at HCH
        go_wp2_with fail
        go_still_tail 9,mixed
        go_wp2
        go_roundg (gk - n)
        case measure=>omega
        case rel =>
         refine ⟨k+n,some ⟨sb,so+k,none⟩,⟨sd,sp,q+n⟩,by omega,by rw [Nat.sub_sub,Nat.sub_sub],fun hx=>by have:=HCN.out;omega,?_,?_,?_⟩
         · exact held_set hD1 hds hP1 hss c1 f1 (q+n)
         · exact hO1.setCell (o:=161) (by omega) (by omega) _
         · rw [HT.out,HCH.out];rfl
    · have hcn':(cap - k=n)=False:=eq_false hcn
      by_cases hfull:q+n=136
      · have hb:((q:Int)+(n:Int) == 136)=true:=beq_iff_eq.2 (by omega)
        rw [if_pos hfull] at HCH
        go_wp2_with fail
        go_still_tail 9,mixed
        go_wp2_with fail
        refine (soak_any b ⟨sd,sp,q+n⟩ _ hds hss (held_set hD1 hds hP1 hss c1 f1 (q+n))).mono ?_
        rintro e w2 ⟨rfl,hO2,hS2⟩
        go_wp2
        go_roundg (gk - n)
        case measure=>omega
        case rel =>
         refine ⟨k+n,some ⟨sb,so+k+n,none⟩,soakL ⟨sd,sp,q⟩,by omega,by rw [Nat.sub_sub,Nat.sub_sub],fun _=>by rw [Nat.add_assoc],?_,?_,?_⟩
         · rw [soak_mk] at hS2 ⊢
           exact hS2
         · exact (hO1.setCell (o:=161) (by omega) (by omega) _).trans hO2
         · rw [HT.out,HCH.out];rfl
      · have hb:((q:Int)+(n:Int) == 136)=false:=beq_eq_false_iff_ne.2 (by omega)
        rw [if_neg hfull] at HCH
        go_wp2_with fail
        go_still_tail 9,mixed
        go_wp2
        go_roundg (gk - n)
        case measure=>omega
        case rel =>
         refine ⟨k+n,some ⟨sb,so+k+n,none⟩,⟨sd,sp,q+n⟩,by omega,by rw [Nat.sub_sub,Nat.sub_sub],fun _=>by rw [Nat.add_assoc],?_,?_,?_⟩
         · exact held_set hD1 hds hP1 hss c1 f1 (q+n)
         · exact hO1.setCell (o:=161) (by omega) (by omega) _
         · rw [HT.out,HCH.out];rfl
  · have hk0:k=len:=by omega
    have l0:¬ (0:Int) < ((len - k:Nat):Int):=by omega
    go_wp2
    go_end0
    refine ⟨rfl,hO,?_⟩
    have e1:bs.toList.take k=bs.toList:=List.take_of_length_le (by rw [Array.length_toList];omega)
    rw [HE.out,e1] at hSk
    exact hSk
end Go.Proofs.YtmkllfekhehagafGreat.SP
namespace Go.Proofs.YtmkllfekhehagafGreat.SP
open Go.RowKit Go.Sort Go.Deep
theorem ofInt_toNat8 (x:UInt8):BitVec.ofInt 8 (x.toNat:Int)=x.toBitVec:=by
 apply BitVec.eq_of_toNat_eq
 rw [BitVec.ofInt_natCast,BitVec.toNat_ofNat]
 exact Nat.mod_eq_of_lt x.toNat_lt
theorem bits_xor8 (x y:UInt8):bits .xor .u8 (ub x) (ub y)=ub (x ^^^ y):=by
 show IntKind.u8.wrap ((BitVec.ofInt 8 (x.toNat:Int) ^^^ BitVec.ofInt 8 (y.toNat:Int)).toNat:Int)=_
 rw [ofInt_toNat8,ofInt_toNat8,← UInt8.toBitVec_xor]
 have h:((x ^^^ y).toNat:Int) < 256:=by have:=(x ^^^ y).toNat_lt;omega
 have e:∀ n:Int,IntKind.u8.wrap n=n % 256:=fun n=>by simp [IntKind.wrap,IntKind.bits,IntKind.signed]
 rw [e]
 exact Int.emod_eq_of_lt (Int.natCast_nonneg _) h
theorem xor80 (x:UInt8):bits .xor .u8 (ub x) 128=ub (x ^^^ 128):=bits_xor8 x 128
theorem zero5:∀ w:World,(zeroValue 5).run Tryz.prog w=.ok (.int .u8 0) w:=fun _=>by kernel_rfl
set_option maxRecDepth 100000 in
theorem clear_piece {w:World} {b q:Nat} {p:Bs} (hP:Holds encB w b 25 p) (hp:p.size=136) (hq:q < 136) (ty:TypeId) :
 (Builtin.clear_ #[23] ty #[.slice (some ⟨b,25+q,none⟩) (136 - q) (136 - q)]).run Tryz.prog w=.ok (.tuple #[]) (w.setCells b (25+q) ((List.replicate (136 - q) (0:UInt8)).map encB)):=by
 have h:=Lib.run_clear_slice (P:=Tryz.prog) w 23 5 ty (.int .u8 0) slice22 zero5 rfl rfl b (25+q) (136 - q) (136 - q) (by omega)
  (fun j hj=>by
   have:=(hP (q+j) (by omega)).1
   rw [← Nat.add_assoc] at this
   rw [this];rfl)
  (fun j hj=>by
   have:=(hP (q+j) (by omega)).2
   rw [← Nat.add_assoc] at this
   exact this)
 rw [List.map_replicate]
 exact h
set_option maxHeartbeats 2000000 in
set_option maxRecDepth 100000 in
theorem end_any (b:Nat) (S:Sp) (e:UInt8) (w:World) (hok:Ok S) (hS:HSp w b S) :
 Calls Tryz.prog 223 #[.pointer (some ⟨b,0,none⟩),.int .u8 (ub e)] w fun r w'=>r=.returned (.tuple #[])∧Only b 0 162 w w'∧HSp w' b (finalL S e):=by
 obtain ⟨d,p,q⟩:=S
 have h25:d.size=25:=hok.d25
 have h136:p.size=136:=hok.p136
 have hq:q < 136:=hok.hlt
 have hD:Holds enc w b 0 d:=hS.d
 have hP:Holds encB w b 25 p:=hS.p
 have hc:w.cell? ⟨b,161,none⟩=some (.int .i64 (q:Int)):=hS.h
 have hf:=hS.f
 have hcl:=clear_piece (Holds.drew hP) h136 hq 0
 have hOx:Only b 25 136 w (w.drew.setCells b (25+q) ((List.replicate (136 - q) (0:UInt8)).map encB)):=((Only.refl b 25 136 w).drew).setCells _ _ (by omega) (by rw [List.length_map,List.length_replicate];omega)
 have hP1:=holds_splice (Holds.drew hP) q (List.replicate (136 - q) (0:UInt8)) (by rw [List.length_replicate];omega)
 have hs1:(splice p q (List.replicate (136 - q) 0)).size=136:=by rw [splice_size,h136]
 have HF:Hid (finalL ⟨d,p,q⟩ e=soakL ⟨d,((splice p q (List.replicate (136 - q) 0)).setIfInBounds q e).setIfInBounds 135 (((splice p q (List.replicate (136 - q) 0)).setIfInBounds q e)[135]! ^^^ 128),q⟩):=by
  show _=_
  unfold finalL ended
  rfl
 generalize w.drew.setCells b (25+q) ((List.replicate (136 - q) (0:UInt8)).map encB)=W1 at hcl hOx hP1
 generalize splice p q (List.replicate (136 - q) 0)=sp at hP1 hs1 HF
 have hne136:(136=q)=False:=eq_false (by omega)
 have hq136:(q:Int)≤136:=by omega
 have hq136':(q:Int) < 136:=by omega
 have c1:W1.cell? ⟨b,161,none⟩=some (.int .i64 (q:Int)):=by rw [hOx.cell 161 (by omega)];exact hc
 obtain ⟨c2,f2⟩:=hP1 q (by omega)
 obtain ⟨sp2,hsp2⟩:∃ s,sp.setIfInBounds q e=s:=⟨_,rfl⟩
 rw [hsp2] at HF
 have hs2:sp2.size=136:=by rw [← hsp2,Array.size_setIfInBounds,hs1]
 obtain ⟨x,hx⟩:∃ x,sp2[135]! = x:=⟨_,rfl⟩
 rw [hx] at HF
 have hx80:=xor80 x
 have hP2:=Holds.set hP1 (i:=q) (by omega) e
 rw [hsp2] at hP2
 have hO2:Only b 25 136 w (W1.setCell ⟨b,25+q,none⟩ (.int .u8 (ub e))):=hOx.setCell (o:=25+q) (by omega) (by omega) _
 have hP2':Holds encB (W1.setCell ⟨b,25+q,none⟩ (.int .u8 (ub e))) b 25 sp2:=hP2
 have HX:Hid (sp2[135]! = x):=hx
 rw [HF.out]
 clear hS hok hP hsp2 hx hP2 HF
 have hs3:(sp2.setIfInBounds 135 (x ^^^ 128)).size=136:=by rw [Array.size_setIfInBounds,hs2]
 go_enter Tryz.func223,Tryz.ntmps223
 go_wp2
 go_still_tail 8,mixed
 go_wp2_with fail
 go_region
 go_wp2_with fail
 generalize W1.setCell ⟨b,25+q,none⟩ (.int .u8 (ub e))=W2 at hP2' hO2 ⊢
 obtain ⟨c3,f3⟩:=at_byte hP2' 135 (by omega) HX.out
 clear c1 c2 f2 hcl hP1
 go_region
 go_wp2_with fail
 have hP3:=Holds.set hP2' (i:=135) (by omega) (x ^^^ 128)
 have hO3:Only b 25 136 w (W2.setCell ⟨b,160,none⟩ (.int .u8 (ub (x ^^^ 128)))):=hO2.setCell (o:=160) (by omega) (by omega) _
 have hP3':Holds encB (W2.setCell ⟨b,160,none⟩ (.int .u8 (ub (x ^^^ 128)))) b 25 (sp2.setIfInBounds 135 (x ^^^ 128)):=hP3
 generalize W2.setCell ⟨b,160,none⟩ (.int .u8 (ub (x ^^^ 128)))=W3 at hP3' hO3 ⊢
 have hD3:Holds enc W3 b 0 d:=Holds.same hD hO3 (Or.inl (by omega))
 have hS3:HSp W3 b ⟨d,sp2.setIfInBounds 135 (x ^^^ 128),q⟩:=⟨hD3,hP3',by rw [hO3.cell 161 (by omega)];exact hc,by rw [hO3.froz];exact hf⟩
 refine (soak_any b ⟨d,sp2.setIfInBounds 135 (x ^^^ 128),q⟩ _ h25 hs3 hS3.drew.drew).mono ?_
 rintro r w4 ⟨rfl,hO4,hS4⟩
 go_wp2
 go_end0
 exact ⟨rfl,(hO3.drew.drew.widen (by omega) (by omega)).trans hO4,hS4⟩
end Go.Proofs.YtmkllfekhehagafGreat.SP
namespace Go.Proofs.YtmkllfekhehagafGreat.SP
open Go.Sort
def permN (d:St):Nat→St
 | 0=>d
 | m+1=>perm (permN d m)
theorem permN_size (d:St) (hd:d.size=25) (m:Nat):(permN d m).size=25:=by
 induction m with
 | zero=>exact hd
 | succ m ih=>exact perm_size _ ih
def streamAt (d:St) (j:Nat):UInt8:=byteOf (permN d (j / 136)) (j % 136)
def streamL (d:St) (n:Nat):Bs:=Array.ofFn (fun i:Fin n=>streamAt d i.val)
theorem streamL_size (d:St) (n:Nat):(streamL d n).size=n:=by simp [streamL]
theorem streamL_at (d:St) (n j:Nat) (hj:j < n):(streamL d n)[j]! = streamAt d j:=by
 rw [getElem!_pos (streamL d n) j (by rw [streamL_size];exact hj)]
 simp [streamL]
def S0:Sp:=⟨zero25,Array.replicate 136 0,0⟩
theorem S0_ok:Ok S0:=⟨by simp [S0,zero25],by simp [S0],by decide⟩
def absorb (l:List UInt8) (e:UInt8):St:=(finalL (takeL S0 l) e).d
theorem absorb_size (l:List UInt8) (e:UInt8):(absorb l e).size=25:=by
 unfold absorb
 have h:=takeL_ok S0_ok l
 rw [finalL_eq h]
 exact (takeL_ok h _).d25
def hashL (l:List UInt8):Bs:=front (absorb l 6) 32
theorem hash_stream (l:List UInt8):hashL l=streamL (absorb l 6) 32:=by
 unfold hashL
 refine bs_ext _ _ 32 (front_size _ _) (streamL_size _ _) (fun j hj=>?_)
 rw [front_at _ _ _ hj,streamL_at _ _ _ hj]
 unfold streamAt
 rw [Nat.div_eq_of_lt (by omega),Nat.mod_eq_of_lt (by omega)]
 rfl
/-! ### The reference: all bytes with what stands behind them, piece by piece -/
def total (l : List UInt8) (e : UInt8) : List UInt8 := l ++ tailpad (l.length % 136) e
theorem total_length (l:List UInt8) (e:UInt8):(total l e).length=136*(l.length / 136+1):=by
 unfold total
 rw [List.length_append,tailpad_length _ _ (Nat.mod_lt _ (by decide))]
 omega
theorem absorb_total (l:List UInt8) (e:UInt8):absorb l e=(takeL S0 (total l e)).d:=by
 unfold absorb total
 have h:=takeL_ok S0_ok l
 have hh:=takeL_h S0_ok l
 rw [takeL_append,finalL_eq h,hh]
 have:S0.h=0:=rfl
 rw [this,Nat.zero_add]
def xorB (st:Bs) (T:List UInt8) (o:Nat):Nat→Bs
 | 0=>st
 | k+1=>(xorB st T o k).setIfInBounds k ((xorB st T o k)[k]! ^^^ T[o+k]!)
theorem xorB_size (st:Bs) (T:List UInt8) (o k:Nat):(xorB st T o k).size=st.size:=by
 induction k with
 | zero=>rfl
 | succ k ih=>rw [xorB,Array.size_setIfInBounds,ih]
theorem xorB_at (st:Bs) (T:List UInt8) (o k j:Nat) (hk:k≤st.size) (hj:j < st.size):(xorB st T o k)[j]! = if j < k then st[j]! ^^^ T[o+j]! else st[j]!:=by
 induction k with
 | zero=>rfl
 | succ k ih =>
  rw [xorB]
  by_cases h:j=k
  · subst h
    rw [getElem!_set_same _ _ _ (by rw [xorB_size];exact hj),ih (by omega),if_neg (by omega),if_pos (by omega)]
  · rw [getElem!_set_other _ _ _ _ h,ih (by omega)]
    by_cases h1:j < k
    · rw [if_pos h1,if_pos (by omega)]
    · rw [if_neg h1,if_neg (by omega)]
def refSt (T:List UInt8):Nat→Bs
 | 0=>Array.replicate 200 0
 | i+1=>permB (xorB (refSt T i) T (136*i) 136)
theorem zero_front:front zero25 200=Array.replicate 200 0:=by
 refine bs_ext _ _ 200 (front_size _ _) (by rw [Array.size_replicate]) (fun j hj=>?_)
 have h':j < (Array.replicate 200 (0:UInt8)).size:=by rw [Array.size_replicate];exact hj
 rw [front_at _ _ _ hj,getElem!_pos (Array.replicate 200 (0:UInt8)) j h',Array.getElem_replicate]
 unfold byteOf
 rw [zero25_at _ (by omega)]
 unfold low
 simp
theorem xor_bit (x y:UInt8) (i:Nat):(x ^^^ y).toNat.testBit i=(x.toNat.testBit i ^^ y.toNat.testBit i):=by
 rw [UInt8.toNat_xor,Nat.testBit_xor]
theorem mix_xor (d:St) (hd:d.size=25) (p:Bs) (T:List UInt8) (o:Nat) (hp:∀ j,j < 136→p[j]! = T[o+j]!) :
 mixTo (xorB (front d 200) T o 136) zero25 25=mixTo p d 17:=by
 have hz:zero25.size=25:=by simp [zero25]
 refine st_ext _ _ (by rw [mixTo_size,hz]) (by rw [mixTo_size,hd]) (fun j hj=>?_)
 rw [mixTo_at _ zero25 hz 25 j (Nat.le_refl _) hj,if_pos hj,zero25_at j hj,zx,mixTo_at _ d hd 17 j (by decide) hj]
 apply BitVec.eq_of_getLsbD_eq
 intro k hk
 have hb:∀ m,m < 200→(xorB (front d 200) T o 136)[m]! = if m < 136 then (front d 200)[m]! ^^^ T[o+m]! else (front d 200)[m]!:=fun m hm =>
  xorB_at _ _ _ _ _ (by rw [front_size];decide) (by rw [front_size];exact hm)
 have hw:=congrArg (fun v=>v.getLsbD k) (word_front d 200 j (by omega))
 simp only [wordOf] at hw ⊢
 rw [wordTo_bit _ _ 8 k (Nat.le_refl _) hk] at hw ⊢
 rw [hb _ (by omega)]
 by_cases h17:j < 17
 · rw [if_pos (by omega),if_pos h17,BitVec.getLsbD_xor,← hw,wordTo_bit _ _ 8 k (Nat.le_refl _) hk,xor_bit,hp _ (by omega)]
   simp [hk]
 · rw [if_neg (by omega),if_neg h17,← hw]
theorem take_block (T:List UInt8) (i:Nat):T.take (136*(i+1))=T.take (136*i)++(T.drop (136*i)).take 136:=by
 rw [show 136*(i+1)=136*i+136 by omega,List.take_add]
theorem refSt_eq (T:List UInt8) (i:Nat) (h:136*i≤T.length):refSt T i=front (takeL S0 (T.take (136*i))).d 200:=by
 induction i with
 | zero =>
  rw [Nat.mul_zero,List.take_zero]
  exact zero_front.symm
 | succ i ih =>
  rw [refSt,ih (by omega),take_block T i,takeL_append]
  have hok:=takeL_ok S0_ok (T.take (136*i))
  have hh:(takeL S0 (T.take (136*i))).h=0:=by
   rw [takeL_h S0_ok,List.length_take,Nat.min_eq_left (by omega)]
   have:S0.h=0:=rfl
   omega
  generalize takeL S0 (T.take (136*i))=S at hok hh
  obtain ⟨d,p,q⟩:=S
  have hd:d.size=25:=hok.d25
  have hp:p.size=136:=hok.p136
  have hq:q=0:=hh
  subst hq
  have hl:((T.drop (136*i)).take 136).length=136:=by rw [List.length_take,List.length_drop];omega
  rw [takeL_chunk _ _ (by intro e;rw [e] at hl;simp at hl) (by rw [hl];exact Nat.le_refl _),hl,if_pos rfl,soak_mk]
  unfold permB
  rw [mix_xor d hd (splice p 0 ((T.drop (136*i)).take 136)) T (136*i)]
  intro j hj
  rw [splice_at _ _ _ _ (by rw [hl,hp];decide) (by omega),if_pos (by omega),Nat.sub_zero,getElem!_pos _ j (by rw [hl];exact hj),getElem!_pos T (136*i+j) (by omega)]
  rw [List.getElem_take,List.getElem_drop]
theorem refSt_total (l:List UInt8) (e:UInt8):refSt (total l e) (l.length / 136+1)=front (absorb l e) 200:=by
 have h:=total_length l e
 rw [refSt_eq _ _ (by omega),absorb_total,List.take_of_length_le (by omega)]
end Go.Proofs.YtmkllfekhehagafGreat.SP
namespace Go.Proofs.YtmkllfekhehagafGreat.SP
open Go.RowKit Go.Sort Go.Deep
theorem append_room {w:World} {g l cap r k n c:Nat} {cur bs:Bs} (hC:Holds encB w g 0 cur) (hs:cur.size=cap) (hB:Holds encB w r 0 bs) (hk:bs.size=n) (hk2:k=n) (hroom:l+n≤cap) (ty:TypeId) :
 (Builtin.append_ #[23,23] ty #[.slice (some ⟨g,0,none⟩) l cap,.slice (some ⟨r,0,none⟩) k c]).run Tryz.prog w=.ok (.slice (some ⟨g,0,none⟩) (l+n) cap) (w.setCells g l (bs.toList.map encB)):=by
 subst hk2
 obtain ⟨i,hi,_,hsz,_⟩:=info_parts info5
 have hlen:(bs.toList.map encB).length=k:=by rw [List.length_map,Array.length_toList,hk]
 have hsrc:Src Tryz.prog i.size 23 (.slice (some ⟨r,0,none⟩) k c) k (bs.toList.map encB) w:=by
  rw [hsz]
  refine Src.ofSlice w slice22 ⟨r,0,none⟩ k c _ (by rw [hlen,Nat.mul_one]) (fun j v hj=>?_) (fun v hv=>?_)
  · obtain ⟨h1,h2⟩:=List.getElem?_eq_some_iff.1 hj
    rw [hlen] at h1
    have hc:=(hB j (by omega)).1
    rw [getElem!_pos bs j (by omega)] at hc
    rw [List.getElem_map,Array.getElem_toList] at h2
    have e1:(⟨r,0,none⟩:Addr).add j=⟨r,0+j,none⟩:=by
     unfold Addr.add
     by_cases h0:j=0
     · subst h0;rw [if_pos rfl]
     · rw [if_neg h0]
    rw [e1,hc,h2]
  · obtain ⟨x,_,rfl⟩:=List.mem_map.1 hv
    rfl
 have h:=run_append_room_src (P:=Tryz.prog) w 23 23 ty 5 i slice22 hi g 0 l cap (.slice (some ⟨r,0,none⟩) k c) k _ hsrc hroom
  (fun j hj=>by
   rw [hlen] at hj
   rw [hsz,Nat.mul_one,Nat.add_assoc,(hC (l+j) (by omega)).1];rfl)
  (fun j hj=>by
   rw [hlen] at hj
   rw [hsz,Nat.mul_one,Nat.add_assoc]
   exact (hC (l+j) (by omega)).2)
 rw [hsz,Nat.mul_one,Nat.zero_add] at h
 exact h
end Go.Proofs.YtmkllfekhehagafGreat.SP
namespace Go.Proofs.YtmkllfekhehagafGreat.SP
open Go.RowKit Go.Sort Go.Deep
def spZero:Array Value:=Array.replicate 25 (.int .u64 0)++Array.replicate 136 (.int .u8 0)++#[.int .i64 0]
theorem zero68:∀ w:World,(zeroValue 295).run Tryz.prog w=.ok (.agg spZero) w:=fun _=>by kernel_rfl
theorem spZero_d (j:Nat) (hj:j < 25):spZero[j]? = some (.int .u64 0):=by
 have h1:j < (Array.replicate 25 (Value.int .u64 0)).size:=by rw [Array.size_replicate];exact hj
 unfold spZero
 rw [Array.append_assoc,Array.getElem?_append_left h1,Array.getElem?_eq_getElem h1,Array.getElem_replicate]
theorem spZero_p (j:Nat) (hj:j < 136):spZero[25+j]? = some (.int .u8 0):=by
 have h1:j < (Array.replicate 136 (Value.int .u8 0)).size:=by rw [Array.size_replicate];exact hj
 unfold spZero
 rw [Array.append_assoc,Array.getElem?_append_right (by rw [Array.size_replicate];omega),Array.size_replicate,Nat.add_sub_cancel_left,Array.getElem?_append_left h1,Array.getElem?_eq_getElem h1,Array.getElem_replicate]
theorem spZero_h:spZero[161]? = some (.int .i64 0):=by
 unfold spZero
 rw [Array.getElem?_append_right (by rw [Array.size_append,Array.size_replicate,Array.size_replicate];decide),Array.size_append,Array.size_replicate,Array.size_replicate]
 rfl
theorem hsp_new (w:World) (t:TypeId):HSp (w.alloc (.cells spZero t)) w.heap.size S0:=by
 refine ⟨fun j hj=>?_,fun j hj=>?_,?_,?_⟩
 · have hj':j < 25:=by simpa [S0,zero25] using hj
   rw [World.cell?_alloc_new,World.frozen?_alloc_new,Nat.zero_add,spZero_d j hj']
   refine ⟨?_,rfl⟩
   have e:S0.d[j]! = 0:=zero25_at j hj'
   rw [e]
   rfl
 · have hj':j < 136:=by simpa [S0] using hj
   rw [World.cell?_alloc_new,World.frozen?_alloc_new,spZero_p j hj']
   refine ⟨?_,rfl⟩
   have e:S0.p[j]! = 0:=rep_at 136 j hj'
   rw [e]
   rfl
 · rw [World.cell?_alloc_new,spZero_h];rfl
 · rw [World.frozen?_alloc_new]
end Go.Proofs.YtmkllfekhehagafGreat.SP
namespace Go.Proofs.YtmkllfekhehagafGreat.SP
open Go.RowKit Go.Sort Go.Deep
def Own (B:Nat) (w:World) (v:Value) (T:List UInt8):Prop :=
 ∃ g cap cur,v=.slice (some ⟨g,0,none⟩) T.length cap∧B≤g∧g < w.heap.size∧Array.size cur=cap∧T.length≤cap∧Holds encB w g 0 cur∧∀ j,j < T.length→cur[j]! = T[j]!
theorem Holds.front {α:Type} [Inhabited α] {f:α→Value} {w:World} {b o:Nat} {d e:Array α} (h:Holds f w b o d) (hs:e.size≤d.size) (he:∀ j,j < e.size→e[j]! = d[j]!):Holds f w b o e:=by
 intro j hj
 rw [he j hj]
 exact h j (by omega)
theorem list_arr_at (T:List UInt8) (j:Nat):T.toArray[j]! = T[j]!:=by
 by_cases h:j < T.length
 · rw [getElem!_pos T.toArray j (by simpa using h),getElem!_pos T j h]
   simp
 · rw [getElem!_neg T.toArray j (by simpa using h),getElem!_neg T j h]
theorem list_app_front (a b:List UInt8) (j:Nat) (h:j < a.length):(a++b)[j]! = a[j]!:=by
 rw [getElem!_pos (a++b) j (by rw [List.length_append];omega),getElem!_pos a j h,List.getElem_append_left h]
theorem list_app_back (a b:List UInt8) (j:Nat) (h:a.length≤j) (h2:j < a.length+b.length):(a++b)[j]! = b[j - a.length]!:=by
 rw [getElem!_pos (a++b) j (by rw [List.length_append];omega),getElem!_pos b (j - a.length) (by omega),List.getElem_append_right h]
variable {B:Nat} {w w1:World} {v:Value} {T:List UInt8}
theorem Own.holds {g cap n:Nat} (h:Own B w (.slice (some ⟨g,0,none⟩) n cap) T):B≤g∧n=T.length∧T.length≤cap∧Holds encB w g 0 T.toArray:=by
 obtain ⟨g',cap',cur,hv,hg,_,hs,hl,hH,hT⟩:=h
 injection hv with e1 e2 e3
 injection e1 with e1
 injection e1 with e1 _ _
 subst e1 e3
 exact ⟨hg,e2,hl,Holds.front hH (by simp;omega) (fun j hj=>by rw [list_arr_at];exact (hT j (by simpa using hj)).symm)⟩
theorem Own.below (h:Own B w v T) (k:Below w.heap.size w w1):Own B w1 v T:=by
 obtain ⟨g,cap,cur,hv,hg,hgl,hs,hl,hH,hT⟩:=h
 exact ⟨g,cap,cur,hv,hg,Nat.lt_of_lt_of_le hgl k.size,hs,hl,Holds.below hH k hgl,hT⟩
theorem conv_bytes (s:ByteArray) (hB:B≤w.heap.size) :
 ∃ v' w',(convert 9 23 (.string s)).run Tryz.prog w=.ok v' w'∧Own B w' v' s.data.toList∧Below w.heap.size w w'∧v'=.slice (some ⟨w.heap.size,0,none⟩) s.size (grownCap w s.size 0 5):=by
 have h:=Lib.run_convert_string_bytes (P:=Tryz.prog) w 9 23 5 s str9 slice22 int5
 have hcap:s.size≤grownCap w s.size 0 5:=by
  unfold grownCap Question.cut
  exact Nat.le_add_right _ _
 have hl:s.data.size=s.size:=rfl
 refine ⟨_,_,h,⟨w.heap.size,grownCap w s.size 0 5,s.data++Array.replicate (grownCap w s.size 0 5 - s.size) 0,?_,hB,by rw [Lib.bytesWorld_size];omega,?_,?_,?_,?_⟩,?_,rfl⟩
 · rw [Array.length_toList];rfl
 · rw [Array.size_append,Array.size_replicate];omega
 · rw [Array.length_toList];omega
 · intro j hj
   rw [Array.size_append,Array.size_replicate] at hj
   have hb:=Lib.bytesWorld_at_new w 5 s
   have hsz:(Lib.bytesCells w 5 s).size=grownCap w s.size 0 5:=by
    unfold Lib.bytesCells
    rw [Array.size_append,Array.size_map,Array.size_replicate]
    omega
   have hc:(Lib.bytesCells w 5 s)=(s.data++Array.replicate (grownCap w s.size 0 5 - s.size) 0).map encB:=by
    unfold Lib.bytesCells
    rw [Array.map_append,Array.map_replicate]
    rfl
   have hj2:j < (s.data++Array.replicate (grownCap w s.size 0 5 - s.size) 0).size:=by rw [Array.size_append,Array.size_replicate];exact hj
   constructor
   · unfold World.cell?
     rw [hb]
     simp only [Nat.zero_add]
     rw [if_neg (by decide),hc,Array.getElem?_map,Array.getElem?_eq_getElem hj2,Option.map_some,getElem!_pos _ j hj2]
   · unfold World.frozen?
     rw [hb]
     simp only [Nat.zero_add,hsz]
     simp
     omega
 · intro j hj
   rw [Array.length_toList] at hj
   rw [app_front _ _ j hj,getElem!_pos s.data.toList j (by rw [Array.length_toList];exact hj),Array.getElem_toList]
 · refine ⟨?_,?_,?_,?_,fun k hk=>Lib.bytesWorld_at_old w 5 s k hk⟩
   · unfold Lib.bytesWorld World.freeze
     rw [if_neg (by decide)]
     rfl
   · unfold Lib.bytesWorld World.freeze
     rw [if_neg (by decide)]
     rfl
   · unfold Lib.bytesWorld World.freeze
     rw [if_neg (by decide)]
     rfl
   · rw [Lib.bytesWorld_size];omega
theorem Holds.below' {α:Type} [Inhabited α] {f:α→Value} {w w1:World} {b o:Nat} {d:Array α} (h:Holds f w b o d) (k:Below w.heap.size w w1):Holds f w1 b o d:=by
 intro j hj
 have hlt:=Holds.lt h (by omega)
 exact Holds.below h k hlt j hj
theorem hashL_size (l:List UInt8):(hashL l).size=32:=by rw [hashL,front_size]
end Go.Proofs.YtmkllfekhehagafGreat.SP
namespace Go.Proofs.YtmkllfekhehagafGreat.SP
open Go.RowKit Go.Sort Go.Deep
def lenB (n d:Nat):UInt8:=UInt8.ofNat (n / d)
theorem lenB_int (n d:Nat):(n:Int) / (d:Int) % 256=ub (lenB n d):=by
 have e2:((n:Int) / (d:Int))=((n / d:Nat):Int):=by rw [Int.natCast_ediv]
 rw [e2]
 unfold ub lenB
 rw [UInt8.toNat_ofNat']
 omega
theorem lenB_one (n:Nat):(n:Int) % 256=ub (lenB n 1):=by
 have:=lenB_int n 1
 rw [show ((1:Nat):Int)=1 from rfl,Int.ediv_one] at this
 exact this
def frameL (l:List UInt8):List UInt8:=[lenB l.length 16777216,lenB l.length 65536,lenB l.length 256,lenB l.length 1]++l
theorem frameL_length (l:List UInt8):(frameL l).length=l.length+4:=by
 unfold frameL
 rw [List.length_append]
 simp only [List.length_cons,List.length_nil]
 omega
theorem holds_four (w:World) (x y z t:UInt8):Holds encB (w.alloc (.cells #[.int .u8 (ub x),.int .u8 (ub y),.int .u8 (ub z),.int .u8 (ub t)] 5)) w.heap.size 0 #[x,y,z,t]:=by
 have h:=Holds.new (enc:=encB) w 5 #[x,y,z,t]
 have e:Array.map encB #[x,y,z,t]=#[.int .u8 (ub x),.int .u8 (ub y),.int .u8 (ub z),.int .u8 (ub t)]:=by simp [encB]
 rw [e] at h
 exact h
set_option maxHeartbeats 1000000 in
set_option maxRecDepth 100000 in
theorem takeFrame_any (b:Nat) (S:Sp) (a:Option Addr) (sb so len cap:Nat) (bs:Bs) (w:World) (hok:Ok S) (hS:HSp w b S) (hl:bs.size=len) (hcap:len≤cap) (hbig:len≤1099511627776)
 (hsrc:len=0∨(a=some ⟨sb,so,none⟩∧sb≠b∧Holds encB w sb so bs)) :
 Calls Tryz.prog 222 #[.pointer (some ⟨b,0,none⟩),.slice a len cap] w fun e w'=>e=.returned (.tuple #[])∧Only b 0 162 w w'∧HSp w' b (takeL S (frameL bs.toList)):=by
 have hb:=hS.lt
 have b0:(len:Int) / 16777216 % 256=ub (lenB len 16777216):=lenB_int len 16777216
 have b1:(len:Int) / 65536 % 256=ub (lenB len 65536):=lenB_int len 65536
 have b2:(len:Int) / 256 % 256=ub (lenB len 256):=lenB_int len 256
 have b3:(len:Int) % 256=ub (lenB len 1):=lenB_one len
 have hF:Hid (frameL bs.toList=(#[lenB len 16777216,lenB len 65536,lenB len 256,lenB len 1]:Bs).toList++bs.toList):=by
  unfold frameL
  rw [Array.length_toList,hl]
  rfl
 have h4:=holds_four w (lenB len 16777216) (lenB len 65536) (lenB len 256) (lenB len 1)
 generalize lenB len 16777216=x0 at *
 generalize lenB len 65536=x1 at *
 generalize lenB len 256=x2 at *
 generalize lenB len 1=x3 at *
 have hb0:Below w.heap.size w (w.alloc (.cells #[.int .u8 (ub x0),.int .u8 (ub x1),.int .u8 (ub x2),.int .u8 (ub x3)] 5)):=(Below.refl _ _).alloc (Nat.le_refl _) _
 have hS1:=hS.below hb0 hb
 have hO0:Only b 0 162 w (w.alloc (.cells #[.int .u8 (ub x0),.int .u8 (ub x1),.int .u8 (ub x2),.int .u8 (ub x3)] 5)):=Only.of_below hb0 rfl hb
 have hsrc1:len=0∨(a=some ⟨sb,so,none⟩∧sb≠b∧Holds encB (w.alloc (.cells #[.int .u8 (ub x0),.int .u8 (ub x1),.int .u8 (ub x2),.int .u8 (ub x3)] 5)) sb so bs):=by
  by_cases h0:len=0
  · exact Or.inl h0
  · rcases hsrc with h | ⟨h1,h2,h3⟩
    · exact Or.inl h
    · exact Or.inr ⟨h1,h2,Holds.below h3 hb0 (Holds.lt h3 (by omega))⟩
 clear hsrc
 go_enter Tryz.func222,Tryz.ntmps222
 go_wp2_with fail
 generalize w.alloc (.cells #[.int .u8 (ub x0),.int .u8 (ub x1),.int .u8 (ub x2),.int .u8 (ub x3)] 5)=W1 at h4 hb0 hS1 hO0 hsrc1 ⊢
 refine (take_any b S (some ⟨w.heap.size,0,none⟩) w.heap.size 0 4 4 #[x0,x1,x2,x3] W1 hok hS1 rfl (Nat.le_refl _) (by decide) (Or.inr ⟨rfl,by omega,h4⟩)).mono ?_
 rintro e w2 ⟨rfl,hO2,hS2⟩
 have hsrc2:len=0∨(a=some ⟨sb,so,none⟩∧sb≠b∧Holds encB w2 sb so bs):=by
  by_cases h0:len=0
  · exact Or.inl h0
  · rcases hsrc1 with h | ⟨h1,h2,h3⟩
    · exact Or.inl h
    · exact Or.inr ⟨h1,h2,Holds.other h3 hO2 h2 (by omega)⟩
 go_wp2_with fail
 refine (take_any b _ a sb so len cap bs w2 (takeL_ok hok _) hS2 hl hcap hbig hsrc2).mono ?_
 rintro e w3 ⟨rfl,hO3,hS3⟩
 go_wp2
 go_end0
 refine ⟨rfl,(hO0.trans hO2).trans hO3,?_⟩
 rw [hF.out,takeL_append]
 exact hS3
set_option maxHeartbeats 1000000 in
theorem Frame_any (s:ByteArray) (w:World) (hs:s.size≤1048576) :
 Calls Tryz.prog 207 #[.string s] w fun e w'=>∃ o,e=.returned (.string o)∧o.data.toList=frameL s.data.toList∧Below w.heap.size w w':=by
 have b0:(s.size:Int) / 16777216 % 256=ub (lenB s.size 16777216):=lenB_int s.size 16777216
 have b1:(s.size:Int) / 65536 % 256=ub (lenB s.size 65536):=lenB_int s.size 65536
 have b2:(s.size:Int) / 256 % 256=ub (lenB s.size 256):=lenB_int s.size 256
 have b3:(s.size:Int) % 256=ub (lenB s.size 1):=lenB_one s.size
 have hF:Hid (frameL s.data.toList=(#[lenB s.size 16777216,lenB s.size 65536,lenB s.size 256,lenB s.size 1]:Bs).toList++s.data.toList):=by
  unfold frameL
  rw [Array.length_toList]
  rfl
 have h4:=holds_four w (lenB s.size 16777216) (lenB s.size 65536) (lenB s.size 256) (lenB s.size 1)
 generalize lenB s.size 16777216=x0 at *
 generalize lenB s.size 65536=x1 at *
 generalize lenB s.size 256=x2 at *
 generalize lenB s.size 1=x3 at *
 have kc:=conv_str Tryz.prog 23 9 5 slice22 int5 str9 _ w.heap.size 0 4 4 #[x0,x1,x2,x3] h4 rfl
 have c0:(s.size:Int) / 16777216=ub x0:=by omega
 have c1:(s.size:Int) / 65536=ub x1:=by omega
 go_enter Tryz.func207,Tryz.ntmps207
 go_wp2
 go_ret
 refine ⟨_,rfl,?_,(Below.refl _ _).alloc (Nat.le_refl _) _⟩
 rw [hF.out,ByteArray.data_append,Array.toList_append]
end Go.Proofs.YtmkllfekhehagafGreat.SP
namespace Go.Proofs.YtmkllfekhehagafGreat.SP
open Go.RowKit Go.Sort Go.Deep
def framesL (label:List UInt8) (ps:List (List UInt8)):List UInt8:=frameL label++ps.flatMap frameL
def tagL (label:List UInt8) (ps:List (List UInt8)):Bs:=hashL (framesL label ps)
theorem tagL_size (label:List UInt8) (ps:List (List UInt8)):(tagL label ps).size=32:=hashL_size _
theorem framesL_snoc (label:List UInt8) (ps:List (List UInt8)) (x:List UInt8):framesL label (ps++[x])=framesL label ps++frameL x:=by
 unfold framesL
 rw [List.flatMap_append,← List.append_assoc]
 simp
def PartOk (w:World) (v:Value) (x:List UInt8):Prop :=
 ∃ a sb so cap bs,v=.slice a (Array.size bs) cap∧bs.toList=x∧bs.size≤cap∧bs.size≤1099511627776∧(bs.size=0∨(a=some ⟨sb,so,none⟩∧Holds encB w sb so bs))
theorem PartOk.below {w w1:World} {v:Value} {x:List UInt8} (h:PartOk w v x) (k:Below w.heap.size w w1):PartOk w1 v x:=by
 obtain ⟨a,sb,so,cap,bs,h1,h2,h3,h4,h5⟩:=h
 refine ⟨a,sb,so,cap,bs,h1,h2,h3,h4,?_⟩
 rcases h5 with h5 | ⟨h5,h6⟩
 · exact Or.inl h5
 · exact Or.inr ⟨h5,Holds.below' h6 k⟩
def PartsOk (w:World) (pa:Option Addr) (ps:List (List UInt8)):Prop :=
 ps.length=0∨∃ pb po,pa=some ⟨pb,po,none⟩∧∀ j,j < ps.length→∃ v,w.cell? ⟨pb,po+j,none⟩=some v∧PartOk w v ps[j]!
theorem framesL_take (label:List UInt8) (ps:List (List UInt8)) (k:Nat):(framesL label (ps.take k)).length≤(framesL label ps).length:=by
 have e:framesL label ps=framesL label (ps.take k)++(ps.drop k).flatMap frameL:=by
  unfold framesL
  rw [List.append_assoc,← List.flatMap_append,List.take_append_drop]
 rw [e,List.length_append]
 omega
theorem take_snoc_getD {α:Type} [Inhabited α] (l:List α) (k:Nat) (h:k < l.length):l.take (k+1)=l.take k++[l[k]!]:=by
 rw [List.take_succ_eq_append_getElem h,getElem!_pos l k h]
set_option maxHeartbeats 2000000 in
set_option maxRecDepth 100000 in
theorem Tag_any (label:ByteArray) (pa:Option Addr) (pcap:Nat) (ps:List (List UInt8)) (w:World) (hlab:label.size≤1048576) (hpl:ps.length≤1048576) (hP:PartsOk w pa ps) :
 Calls Tryz.prog 158 #[.string label,.slice pa ps.length pcap] w fun e w'=>∃ r,e=.returned (.slice (some ⟨r,0,none⟩) 32 32)∧w.heap.size≤r∧Below w.heap.size w w'∧Holds encB w' r 0 (tagL label.data.toList ps):=by
 have hS0:=hsp_new w 295
 have hb0:Below w.heap.size w (w.alloc (.cells spZero 295)):=(Below.refl _ _).alloc (Nat.le_refl _) _
 have hs0:(w.alloc (.cells spZero 295)).heap.size=w.heap.size+1:=by simp
 have zv:=zero68
 generalize hW1:w.alloc (.cells spZero 295)=W1 at hS0 hb0 hs0
 obtain ⟨v2,W2,hcv,own2,hb2,hv2⟩:=conv_bytes (w:=W1) (B:=0) label (Nat.zero_le _)
 rw [hv2] at hcv own2
 obtain ⟨hq0,hq1,hle2,hH2⟩:=own2.holds
 rw [← hq1] at hle2
 clear hq0 hq1
 have hH2':Holds encB W2 W1.heap.size 0 label.data:=by simpa using hH2
 have hS2:=hS0.below hb2 hS0.lt
 have hsz2:=hb2.size
 obtain ⟨n,hn⟩:∃ n,ps.length=n:=⟨_,rfl⟩
 rw [hn]
 have Hn:Hid (ps.length=n):=hn
 have hn20:n≤1048576:=by omega
 rw [hs0] at hcv hH2'
 generalize hc2:grownCap W1 label.size 0 5=c2 at *
 clear own2 hv2 hH2 hn hc2
 have hcv':(convert 9 23 (.string label)).run Tryz.prog (w.alloc (.cells spZero 295))=.ok (.slice (some ⟨w.heap.size+1,0,none⟩) label.size c2) W2:=by rw [hW1];exact hcv
 clear hW1 hcv
 go_enter Tryz.func158,Tryz.ntmps158
 go_wp2_with fail
 refine (takeFrame_any w.heap.size S0 (some ⟨w.heap.size+1,0,none⟩) (w.heap.size+1) 0 label.size c2 label.data W2 S0_ok hS2 rfl (by omega) (by omega) (Or.inr ⟨rfl,by omega,hH2'⟩)).mono ?_
 rintro e w3 ⟨rfl,hO3,hS3⟩
 have hb3:Below w.heap.size w w3:=(hb0.trans (hb2.mono (by omega))).trans (hO3.below (by omega) (Nat.le_refl _))
 have hz3:w.heap.size < w3.heap.size:=hS3.lt
 clear hcv' hH2' hO3 zv hS2
 go_wp2
 go_loopg [13] n (fun g s13 wr=>∃ (k:Nat) (Sk:Sp),k+g=n∧s13=.int .i64 k∧HSp wr w.heap.size Sk∧Below w.heap.size w wr∧Ok Sk∧Hid (Sk=takeL S0 (framesL label.data.toList (ps.take k))))
 case atStart =>
  refine ⟨0,_,by omega,rfl,hS3,hb3,takeL_ok S0_ok _,?_⟩
  rw [List.take_zero]
  unfold framesL
  rw [List.flatMap_nil,List.append_nil]
  rfl
 case round =>
  clear hS3 hb3 hz3
  obtain ⟨k,Sk,hk,rfl,hSk,hb,hok,HE⟩:=hrel
  by_cases hlt:k < n
  · obtain ⟨pb,po,rfl,hPj⟩:∃ pb po,pa=some ⟨pb,po,none⟩∧∀ j,j < ps.length→∃ v,w.cell? ⟨pb,po+j,none⟩=some v∧PartOk w v ps[j]!:=by
     rcases hP with h | h
     · have:=Hn.out;omega
     · exact h
    obtain ⟨v,hvc,hvp⟩:=hPj k (by have:=Hn.out;omega)
    have hpb:=World.block_lt_of_cell? _ _ hvc
    have hvc':wr.cell? ⟨pb,po+k,none⟩=some v:=by rw [hb.cell (p:=⟨pb,po+k,none⟩) hpb];exact hvc
    obtain ⟨a,sb,so,cap,bs,rfl,hbl,hbc,hbb,hsrc⟩:=hvp
    have hsrc':bs.size=0∨(a=some ⟨sb,so,none⟩∧sb≠w.heap.size∧Holds encB wr sb so bs):=by
     by_cases h0:bs.size=0
     · exact Or.inl h0
     · rcases hsrc with h | ⟨h1,h2⟩
       · exact Or.inl h
       · have:=Holds.lt h2 (by omega)
         exact Or.inr ⟨h1,by omega,Holds.below h2 hb this⟩
    have HB:Hid (bs.toList=ps[k]!):=hbl
    have l1:(k:Int) < (n:Int):=by omega
    generalize hbz:bs.size=bz at *
    clear hvc hsrc hPj hbl
    go_wp2_with fail
    refine (takeFrame_any w.heap.size Sk a sb so bz cap bs wr hok hSk hbz hbc hbb hsrc').mono ?_
    rintro e w4 ⟨rfl,hO4,hS4⟩
    go_wp2
    go_roundg (gk - 1)
    case measure=>omega
    case rel =>
     refine ⟨k+1,_,by omega,by go_num,hS4,hb.trans (hO4.below hb.size (Nat.le_refl _)),takeL_ok hok _,?_⟩
     rw [take_snoc_getD ps k (by have:=Hn.out;omega),framesL_snoc,takeL_append,← HE.out,HB.out]
     rfl
  · have hkn:k=n:=by omega
    have l1:(n:Int)≤(k:Int):=by omega
    have HE2:Hid (Sk=takeL S0 (framesL label.data.toList ps)):=by
     have e1:ps.take k=ps:=List.take_of_length_le (by have:=Hn.out;omega)
     rw [e1] at HE
     exact HE
    clear HE
    go_wp2_with fail
    refine (end_any w.heap.size Sk 6 wr hok hSk).mono ?_
    rintro e w5 ⟨rfl,hO5,hS5⟩
    have hD5:Holds enc w5 w.heap.size 0 (absorb (framesL label.data.toList ps) 6):=by
     have:=hS5.d
     rw [HE2.out] at this
     exact this
    clear hS5
    go_wp2_with fail
    refine (front_any w.heap.size 0 32 _ _ (absorb_size _ _) hD5 (by decide)).mono ?_
    rintro e w6 ⟨rfl,hb6,hF6⟩
    have hs5:=hO5.size
    have hs4:=hb.size
    go_wp2
    go_ret
    exact ⟨w5.heap.size,rfl,by omega,(hb.trans (hO5.below hb.size (Nat.le_refl _))).trans (hb6.mono (by omega)),hF6⟩
end Go.Proofs.YtmkllfekhehagafGreat.SP
namespace Go.Proofs.YtmkllfekhehagafGreat.SP
open Go.RowKit Go.Sort Go.Deep
variable {B:Nat} {w w1:World} {v:Value} {T:List UInt8}
set_option maxRecDepth 4000
theorem append_own {r c:Nat} {xs:Bs} (h:Own B w v T) (hX:Holds encB w r 0 xs) (hB:B≤w.heap.size) (hbig:T.length+xs.size≤1099511627776) (k:Nat) (hk:k=xs.size) :
 ∃ v' w',(Builtin.append_ #[23,23] 23 #[v,.slice (some ⟨r,0,none⟩) k c]).run Tryz.prog w=.ok v' w'∧Own B w' v' (T++xs.toList)∧Below B w w':=by
 subst hk
 obtain ⟨g,cap,cur,rfl,hg,hgl,hs,hl,hH,hTc⟩:=h
 obtain ⟨i,hi,hz,hsz,hby⟩:=info_parts info5
 have hxl0:xs.toList.length=xs.size:=Array.length_toList
 have hlen:(T++xs.toList).length=T.length+xs.size:=by rw [List.length_append,hxl0]
 by_cases hroom:T.length+xs.size≤cap
 · have hap:=append_room (l:=T.length) (k:=xs.size) (n:=xs.size) (c:=c) hH hs hX rfl rfl hroom 23
   have hH3:=holds_splice hH T.length xs.toList (by rw [hxl0];omega)
   rw [Nat.zero_add] at hH3
   refine ⟨_,_,hap,⟨g,cap,splice cur T.length xs.toList,by rw [hlen],hg,Nat.lt_of_lt_of_le hgl (below_setCells (B:=0) (b:=g) (Nat.zero_le _) _ _ _ (Below.refl 0 w)).size,by rw [splice_size,hs],by omega,hH3,fun j hj=>?_⟩,?_⟩
   · rw [hlen] at hj
     rw [splice_at _ _ _ _ (by rw [hxl0];omega) (by omega),hxl0]
     by_cases h1:j < T.length
     · rw [if_neg (by omega),list_app_front _ _ _ h1,hTc j h1]
     · rw [if_pos (by omega),list_app_back _ _ _ (by omega) (by rw [hxl0];omega)]
   · exact below_setCells hg _ _ _ (Below.refl _ _)
 · have hold:(Builtin.firstCells i.size T.length (.slice (some ⟨g,0,none⟩) T.length cap)).run Tryz.prog w.drew=.ok (T.map encB).toArray w.drew:=by
    rw [hsz]
    refine run_firstCells_some w.drew 1 T.length ⟨g,0,none⟩ T.length cap (T.map encB) (by rw [List.length_map,Nat.mul_one]) (fun j u hj=>?_)
    obtain ⟨h1,h2⟩:=List.getElem?_eq_some_iff.1 hj
    rw [List.length_map] at h1
    have hc:=(hH j (by omega)).1
    rw [hTc j h1,getElem!_pos T j h1] at hc
    rw [List.getElem_map] at h2
    have e1:(⟨g,0,none⟩:Addr).add j=⟨g,0+j,none⟩:=by
     unfold Addr.add
     by_cases h0:j=0
     · subst h0;rw [if_pos rfl]
     · rw [if_neg h0]
    rw [e1,World.cell?_drew,hc,h2]
   have hxl:(xs.toList.map encB).length=xs.size:=by rw [List.length_map,hxl0]
   have hsrc:Src Tryz.prog i.size 23 (.slice (some ⟨r,0,none⟩) xs.size c) xs.size (xs.toList.map encB) w:=by
    rw [hsz]
    refine Src.ofSlice w slice22 ⟨r,0,none⟩ xs.size c _ (by rw [hxl,Nat.mul_one]) (fun j u hj=>?_) (fun u hu=>?_)
    · obtain ⟨h1,h2⟩:=List.getElem?_eq_some_iff.1 hj
      rw [hxl] at h1
      have hc:=(hX j (by omega)).1
      rw [getElem!_pos xs j (by omega)] at hc
      rw [List.getElem_map,Array.getElem_toList] at h2
      have e1:(⟨r,0,none⟩:Addr).add j=⟨r,0+j,none⟩:=by
       unfold Addr.add
       by_cases h0:j=0
       · subst h0;rw [if_pos rfl]
       · rw [if_neg h0]
      rw [e1,hc,h2]
    · obtain ⟨x,_,rfl⟩:=List.mem_map.1 hu
      rfl
   have hnc:Builtin.nextslicecap (T.length+xs.size) cap≤2*(T.length+xs.size)+768:=by
    unfold Builtin.nextslicecap
    split
    · omega
    · split
      · omega
      · simp only [Builtin.growBy]
        repeat' split
        all_goals omega
   have hap:=run_append_grow_src (P:=Tryz.prog) w 23 23 23 5 i (.int .u8 0) slice22 hi hz (some ⟨g,0,none⟩) T.length cap (T.map encB) hold _ xs.size (xs.toList.map encB) hsrc (by omega) (by omega) (by rw [hby];omega)
   generalize hG:grownCap w (T.length+xs.size) cap 5=G at hap
   have hGl:T.length+xs.size≤G:=by
    rw [← hG]
    unfold grownCap Question.cut
    exact Nat.le_add_right _ _
   have hcells:(T.map encB++xs.toList.map encB).toArray++Builtin.zeroCells (Value.int .u8 0).cells (G - (T.length+xs.size))=((T++xs.toList).toArray++Array.replicate (G - (T.length+xs.size)) (0:UInt8)).map encB:=by
    rw [Array.map_append,Array.map_replicate,← List.map_append]
    congr 1
    · simp
    · unfold Builtin.zeroCells
      have e:(Value.int .u8 0).cells=#[Value.int .u8 0]:=rfl
      rw [e]
      apply Array.ext
      · simp
      · intro k h1 h2
        simp [Nat.mod_one]
        rfl
   rw [hcells] at hap
   refine ⟨_,_,hap,⟨w.heap.size,G,(T++xs.toList).toArray++Array.replicate (G - (T.length+xs.size)) 0,by rw [hlen],hB,by simp,?_,by omega,?_,fun j hj=>?_⟩,?_⟩
   · rw [Array.size_append,Array.size_replicate,List.size_toArray,hlen];omega
   · exact Holds.new (enc:=encB) w.drew 5 _
   · rw [app_front _ _ j (by simpa using hj)]
     rw [getElem!_pos (T++xs.toList) j hj]
     simp
   · exact ((Below.refl B w).drew).alloc (by exact hB) _
end Go.Proofs.YtmkllfekhehagafGreat.SP
namespace Go.Proofs.YtmkllfekhehagafGreat.SP
open Go.RowKit Go.Sort Go.Deep
end Go.Proofs.YtmkllfekhehagafGreat.SP
namespace Go.Proofs.YtmkllfekhehagafGreat.SP
open Go.RowKit Go.Sort Go.Deep
end Go.Proofs.YtmkllfekhehagafGreat.SP
namespace Go.Proofs.YtmkllfekhehagafGreat.SP
open Go.RowKit Go.Sort Go.Deep
end Go.Proofs.YtmkllfekhehagafGreat.SP
namespace Go.Proofs.YtmkllfekhehagafGreat
open Go.RowKit Go.Sort
variable {P:Nat} [NeZero P]
def F72a_0 (x:Fin P):List RG.It:=[.x 2 [] (.slice none 0 0),.x 3 [] (.int .i64 0)]
def F72a_1 (q:Option Addr) (n cap:Nat) (x:Fin P):List RG.It:=[.x 9 [] (.slice q n cap),.x 10 [(9,0)] (.int .i64 (n:Int)),⟨some 11,[(10,1)],(.s 0 n n),.make 0⟩,.s 4 [(11,2)] (.s 0 n n)]
def F72a_2 (q:Option Addr) (n cap:Nat) (x:Fin P):List RG.It:=[.x 12 [] (.slice q n cap),.x 13 [(12,0)] (.int .i64 (n:Int)),.x 14 [] (.int .i64 0)]
def F72b_3 (x:Fin P):List RG.It:=[.x 15 [] (.bool true)]
def F72b_4 (gg i:Nat) (v:Value) (x:Fin P):List RG.It:=[.x 16 [] (.int .i64 (i:Int)),.x 17 [] (.pointer (some ⟨gg,(0+i),none⟩)),.x 18 [(17,1)] v,.x 5 [(16,0)] (.int .i64 (i:Int)),.x 6 [(18,2)] v]
def F72b_5 (m:Nat) (v:Value) (x y:Fin P):List RG.It:=[.x 20 [] v,.c 21 [(20,0)] (.tuple #[(pv x y),(.bool true)]),.x 19 [(21,1)] (.tuple #[(pv x y),(.bool true)]),.x 22 [(19,2)] (pv x y),.x 23 [(19,2)] (.bool true),.m 7 [] 1,.u [(7,5),(22,3)] 1,.x 8 [(23,4)] (.bool true)]
def F72b_6 (x:Fin P):List RG.It:=[.x 24 [] (.bool true),.x 25 [(24,0)] (.bool false)]
def F72b_8 (n i:Nat) (x y:Fin P):List RG.It:=[.s 26 [] (.s 0 n n),.x 27 [] (.int .i64 (i:Int)),.x 28 [] (pv x y),.s 29 [(26,0),(27,1)] (.p 0 (0+8*i)),.u [(29,3),(28,2)] 0]
def F72b_9 (i:Nat) (x:Fin P):List RG.It:=[.x 30 [] (.int .i64 ((i+1:Nat):Int)),.x 14 [(30,0)] (.int .i64 ((i+1:Nat):Int))]
def F72f_3 (x:Fin P):List RG.It:=[.x 15 [] (.bool true)]
def F72f_4 (gg i:Nat) (v:Value) (x:Fin P):List RG.It:=[.x 16 [] (.int .i64 (i:Int)),.x 17 [] (.pointer (some ⟨gg,(0+i),none⟩)),.x 18 [(17,1)] v,.x 5 [(16,0)] (.int .i64 (i:Int)),.x 6 [(18,2)] v]
def F72f_5 (m:Nat) (v:Value) (x:Fin P):List RG.It:=[.x 20 [] v,.c 21 [(20,0)] (.tuple #[(pv (0:Fin P) (0:Fin P)),(.bool false)]),.x 19 [(21,1)] (.tuple #[(pv (0:Fin P) (0:Fin P)),(.bool false)]),.x 22 [(19,2)] (pv (0:Fin P) (0:Fin P)),.x 23 [(19,2)] (.bool false),.m 7 [] 1,.u [(7,5),(22,3)] 1,.x 8 [(23,4)] (.bool false)]
def F72f_6 (x:Fin P):List RG.It:=[.x 24 [] (.bool false),.x 25 [(24,0)] (.bool true)]
def F72f_7 (x:Fin P):List RG.It:=[.x 2 [] (.slice none 0 0),.x 3 [] (.int .i64 4)]
def F72e_3 (x:Fin P):List RG.It:=[.x 15 [] (.bool false)]
def F72e_10 (n:Nat) (x:Fin P):List RG.It:=[.s 31 [] (.s 0 n n),.s 2 [(31,0)] (.s 0 n n),.x 3 [] (.int .i64 0)]
def ArgsPts (w:World) (q:Option Addr) (n:Nat) (L:Nat→Bs):Prop:=0 < n→∃ gg,q=some ⟨gg,0,none⟩∧gg < w.heap.size∧∀ j,j < n→∃ v,w.cell? ⟨gg,j,none⟩=some v∧Arg33 w v (L j)
def PtsR (P:Nat) [NeZero P] (w:World) (n:Nat) (L:Nat→Bs) (e:Value) (w':World):Prop :=
 (∃ k,w.heap.size≤k∧k < w'.heap.size∧e=.tuple #[.slice (some ⟨k,0,none⟩) n n,.int .i64 0]∧∀ j,j < n→∃ p,rd P (L j)=some p∧w'.rangeAt k (8*j) (ws p.1++ws p.2)) ∨
 ((∃ j,j < n∧rd P (L j)=none)∧e=.tuple #[.slice none 0 0,.int .i64 4])
set_option maxHeartbeats 4000000 in
set_option maxRecDepth 100000 in
theorem Pts_c (F:Fld P) (n cap:Nat) (hn:n≤512) (q:Option Addr) (L:Nat→Bs) (w:World) (hA:ArgsPts w q n L):Calls Tryz.prog 230 #[.slice q n cap] w (Ret fun e w'=>Below w.heap.size w w'∧PtsR P w n L e w'):=by
 obtain ⟨C,hCl,hmk⟩:=mk112 n hn
 obtain ⟨i,-⟩:∃ i:Nat,i=0:=⟨_,rfl⟩
 obtain ⟨gg,-⟩:∃ i:Nat,i=0:=⟨_,rfl⟩
 obtain ⟨m,-⟩:∃ i:Nat,i=0:=⟨_,rfl⟩
 obtain ⟨v,-⟩:∃ v:Value,v=.bool true:=⟨_,rfl⟩
 obtain ⟨x,-⟩:∃ x:Fin P,x=0:=⟨_,rfl⟩
 obtain ⟨y,-⟩:∃ x:Fin P,x=0:=⟨_,rfl⟩
 obtain ⟨C2,-⟩:∃ c:List Value,c=C:=⟨_,rfl⟩
 go_enter Tryz.func230,Tryz.ntmps230
 refine RG.var1 (v0:=.slice q n cap) (n:=32) (by kernel_rfl) (by kernel_rfl) (by kernel_rfl) ?_
 intro a0 sl0 f0
 have hS0:=RG.St.begin w
 have M0:RG.M w w.heap.size [] 32 [] [] [(0,(.v (.slice q n cap)))] a0 _:=⟨hS0,sl0,⟨f0,trivial⟩⟩
 repeat refine wp_seq ?_
 refine M0.tx0 (F72a_0 x) [(0,(.v (.slice q n cap))),(2,(.v (.slice none 0 0))),(3,(.v (.int .i64 0)))] (by kernel_rfl) ⟨RG.st fun _ _=>by kernel_rfl,RG.st fun _ _=>by kernel_rfl,trivial⟩ ?_
 intro a1 w1 M1
 repeat refine wp_seq ?_
 refine M1.tx (F72a_1 q n cap x) [(2,C)] [] [C] [(0,(.v (.slice q n cap))),(2,(.v (.slice none 0 0))),(3,(.v (.int .i64 0))),(4,(.s 0 n n))] (by kernel_rfl) (by kernel_rfl) ⟨RG.st fun _ _=>by kernel_rfl,RG.cert_one rfl 9 (.v (.slice q n cap)) (.int .i64 (n:Int)) rfl (RG.sx fun _=>by kernel_rfl) (fun a w=>by kernel_rfl) (fun μ w=>by kernel_rfl),RG.cert_makes 0 rfl _ rfl 146 139 10 10 n rfl rfl (RG.sx fun _=>by kernel_rfl) (RG.sx fun _=>by kernel_rfl) (hmk),RG.st fun _ _=>by kernel_rfl,trivial⟩ ?_
 intro j2 a2 w2 M2
 repeat refine wp_seq ?_
 refine M2.tx0 (F72a_2 q n cap x) [(2,(.v (.slice none 0 0))),(3,(.v (.int .i64 0))),(4,(.s 0 n n)),(12,(.v (.slice q n cap))),(13,(.v (.int .i64 (n:Int)))),(14,(.v (.int .i64 0)))] (by kernel_rfl) ⟨RG.st fun _ _=>by kernel_rfl,RG.cert_one rfl 12 (.v (.slice q n cap)) (.int .i64 (n:Int)) rfl (RG.sx fun _=>by kernel_rfl) (fun a w=>by kernel_rfl) (fun μ w=>by kernel_rfl),RG.st fun _ _=>by kernel_rfl,trivial⟩ ?_
 intro a3 w3 M3
 have hS3:RG.St w w.heap.size [] [C] [j2] _:=M3.st
 have sl3:=M3.sl
 have f2_3:a3.tmps[2]? = some (.slice none 0 0):=M3.at (s:=(.v (.slice none 0 0))) (by kernel_rfl)
 have f3_3:a3.tmps[3]? = some (.int .i64 0):=M3.at (s:=(.v (.int .i64 0))) (by kernel_rfl)
 have f4_3:a3.tmps[4]? = some (.slice (some ⟨j2,0,none⟩) n n):=M3.at (s:=(.s 0 n n)) (by kernel_rfl)
 have f12_3:a3.tmps[12]? = some (.slice q n cap):=M3.at (s:=(.v (.slice q n cap))) (by kernel_rfl)
 have f13_3:a3.tmps[13]? = some (.int .i64 (n:Int)):=M3.at (s:=(.v (.int .i64 (n:Int)))) (by kernel_rfl)
 have f14_3:a3.tmps[14]? = some (.int .i64 0):=M3.at (s:=(.v (.int .i64 0))) (by kernel_rfl)
 repeat refine wp_seq ?_
 refine wp_block ?_
 refine wp_loop_ghost (fun m a wr=>∃ (i:Nat) (C:List Value),i+m=n∧(∀ j,j < i→(rd P (L j)).isSome=true)∧Rows 8 n (fun j=>match rd P (L j) with | some p=>ws p.1++ws p.2 | none=>[]) i C∧RG.Sl a 32∧a.tmps[4]? = some (.slice (some ⟨j2,0,none⟩) n n)∧a.tmps[12]? = some (.slice q n cap)∧a.tmps[13]? = some (.int .i64 (n:Int))∧a.tmps[14]? = some (.int .i64 (i:Int))∧RG.St w w.heap.size [] [C] [j2] wr) n ⟨0,C,by omega,fun j hj=>by omega,⟨hCl,fun j r hj=>by omega⟩,sl3,f4_3,f12_3,f13_3,f14_3,hS3⟩ ?_
 intro m' a wr
 rintro ⟨i,C,him,hall,hR,sl,p4,p12,p13,p14,hSp⟩
 generalize j2=kt at p4 hSp
 by_cases hi:i < n
 · obtain ⟨gg,hqe,hgg,hc⟩:=hA (by omega)
   rw [hqe] at p12
   obtain ⟨v,hv,harg⟩:=hc i hi
   have hcell:w.cell? ⟨gg,0+i,none⟩=some v:=by rw [Nat.zero_add];exact hv
   cases hrdv:rd P (L i) with
   | some pp =>
    obtain ⟨x,y⟩:=pp
    have hrd:∀ w',RG.BelX w.heap.size [] w w'→Calls Tryz.prog 168 #[v] w' (Ret fun e w''=>Below w'.heap.size w' w''∧e=.tuple #[pv x y,.bool true]):=fun w' hb=>by
     have:=readPoint_c F v (L i) w' (harg.below hb.below)
     rw [hrdv] at this
     exact this
    have hlen:=hR.len
    have hoff:0+8*i+(ws x++ws y).length≤C.length:=by rw [hlen];show 0+8*i+8≤8*n;omega
    obtain ⟨C2,hC2e⟩:∃ c,RG.rep C (0+8*i) (ws x++ws y)=c:=⟨_,rfl⟩
    have hC2:=hC2e ▸ RG.rep_at hoff
    have hcl:C2.length=C.length:=hC2e ▸ RG.rep_length hoff
    have hR2:Rows 8 n (fun j=>match rd P (L j) with | some p=>ws p.1++ws p.2 | none=>[]) (i+1) C2:=by
     have:=hR.next hi (by show List.length (match rd P (L i) with | some p=>_ | none=>_)=_;rw [hrdv];rfl)
     rw [← hC2e]
     have e:(fun j=>match rd P (L j) with | some p=>ws p.1++ws p.2 | none=>[]) i=(ws x++ws y):=by show (match rd P (L i) with | some p=>_ | none=>_)=_;rw [hrdv]
     rw [← e]
     exact this
    have M10:RG.M w w.heap.size [] 32 [C] [kt] [(4,(.s 0 n n)),(12,(.v (.slice (some ⟨gg,0,none⟩) n cap))),(13,(.v (.int .i64 (n:Int)))),(14,(.v (.int .i64 (i:Int))))] a _:=⟨hSp,sl,⟨p4,p12,p13,p14,trivial⟩⟩
    repeat refine wp_seq ?_
    refine M10.tx0 (F72b_3 x) [(4,(.s 0 n n)),(12,(.v (.slice (some ⟨gg,0,none⟩) n cap))),(13,(.v (.int .i64 (n:Int)))),(14,(.v (.int .i64 (i:Int)))),(15,(.v (.bool true)))] (by kernel_rfl) ⟨RG.cert_bin rfl .lss 3 3 14 13 (.int .i64 (i:Int)) (.int .i64 (n:Int)) (.bool true) rfl rfl (RG.sx fun _=>by kernel_rfl) (RG.sx fun _=>by kernel_rfl) (fun w=>by kernel_rfl) (lssn_t hi),trivial⟩ ?_
    intro a11 w11 M11
    repeat refine wp_seq ?_
    refine wp_cond_true (M11.ev (by kernel_rfl)) ?_
    refine wp_skip ?_
    refine wp_seq ?_
    refine wp_block ?_
    repeat refine wp_seq ?_
    refine M11.tx0 (F72b_4 gg i v x) [(4,(.s 0 n n)),(5,(.v (.int .i64 (i:Int)))),(6,(.v v)),(12,(.v (.slice (some ⟨gg,0,none⟩) n cap))),(13,(.v (.int .i64 (n:Int)))),(14,(.v (.int .i64 (i:Int))))] (by kernel_rfl) ⟨RG.st fun _ _=>by kernel_rfl,RG.cert_idx rfl 22 12 14 rfl (.v (.slice (some ⟨gg,0,none⟩) n cap)) (.int .i64 (i:Int)) (RG.sx fun _=>by kernel_rfl) (RG.sx fun _=>by kernel_rfl) (fun μ w=>at46 _ 0 _ _ i hi w),RG.cert_load1B rfl gg (0+i) hgg List.not_mem_nil 23 17 rfl v rfl (RG.sx fun _=>by kernel_rfl) hcell u23,RG.st fun _ _=>by kernel_rfl,RG.st fun _ _=>by kernel_rfl,trivial⟩ ?_
    intro a12 w12 M12
    repeat refine wp_seq ?_
    refine M12.tx (F72b_5 m v x y) [(5,(RG.z 8))] [(1,6,(ws x++(ws y)))] [C,(ws x++(ws y))] [(4,(.s 0 n n)),(5,(.v (.int .i64 (i:Int)))),(7,(.p 1 0)),(8,(.v (.bool true))),(12,(.v (.slice (some ⟨gg,0,none⟩) n cap))),(13,(.v (.int .i64 (n:Int)))),(14,(.v (.int .i64 (i:Int))))] (by kernel_rfl) (by kernel_rfl) ⟨RG.st fun _ _=>by kernel_rfl,RG.cert_callB1 rfl 168 20 v (.tuple #[(pv x y),(.bool true)]) rfl (fun a w=>by kernel_rfl) (RG.sx fun _=>by kernel_rfl) hrd,RG.st fun _ _=>by kernel_rfl,RG.st fun _ _=>by kernel_rfl,RG.st fun _ _=>by kernel_rfl,RG.mk 1 139 fun _ _=>by kernel_rfl,RG.pt i109 (by kernel_rfl),RG.st fun _ _=>by kernel_rfl,trivial⟩ ?_
    intro j13 a13 w13 M13
    repeat refine wp_seq ?_
    refine M13.tx0 (F72b_6 x) [(4,(.s 0 n n)),(5,(.v (.int .i64 (i:Int)))),(7,(.p 1 0)),(12,(.v (.slice (some ⟨gg,0,none⟩) n cap))),(13,(.v (.int .i64 (n:Int)))),(14,(.v (.int .i64 (i:Int)))),(25,(.v (.bool false)))] (by kernel_rfl) ⟨RG.st fun _ _=>by kernel_rfl,RG.st fun _ _=>by kernel_rfl,trivial⟩ ?_
    intro a14 w14 M14
    repeat refine wp_seq ?_
    refine wp_cond_false (M14.ev (by kernel_rfl)) ?_
    refine wp_skip ?_
    repeat refine wp_seq ?_
    refine M14.tx (F72b_8 n i x y) [] [(0,4,C2)] [C2,(ws x++(ws y))] [(4,(.s 0 n n)),(12,(.v (.slice (some ⟨gg,0,none⟩) n cap))),(13,(.v (.int .i64 (n:Int)))),(14,(.v (.int .i64 (i:Int))))] (by kernel_rfl) (congrArg (fun n=>[n]) hcl) ⟨RG.st fun _ _=>by kernel_rfl,RG.st fun _ _=>by kernel_rfl,RG.ld u109 i109 (by kernel_rfl),RG.cert_idx rfl 146 26 27 rfl (.s 0 n n) (.int .i64 (i:Int)) (RG.sx fun _=>by kernel_rfl) (RG.sx fun _=>by kernel_rfl) (fun μ w=>at112 _ 0 _ _ i hi w),RG.cert_putAt 0 (0+8*i) rfl _ rfl 139 (.tmp 29) (.tmp 28) (ws x++ws y) rfl rfl (RG.sx fun _=>by kernel_rfl) (RG.sx fun _=>by kernel_rfl) hoff hC2 i109 rfl,trivial⟩ ?_
    intro a15 w15 M15
    repeat refine wp_seq ?_
    refine M15.tx0 (F72b_9 i x) [(4,(.s 0 n n)),(12,(.v (.slice (some ⟨gg,0,none⟩) n cap))),(13,(.v (.int .i64 (n:Int)))),(14,(.v (.int .i64 ((i+1:Nat):Int))))] (by kernel_rfl) ⟨RG.cert_binc rfl .add 3 3 14 (.int .i64 (i:Int)) (.int .i64 1) (.int .i64 ((i+1:Nat):Int)) rfl rfl (RG.sx fun _=>by kernel_rfl) (fun w=>by kernel_rfl) (addn i 1 (by omega) (by omega)),RG.st fun _ _=>by kernel_rfl,trivial⟩ ?_
    intro a16 w16 M16
    have hS16:RG.St w w.heap.size [] [C2,(ws x++(ws y))] [kt,j13] _:=M16.st
    have sl16:=M16.sl
    have f4_16:a16.tmps[4]? = some (.slice (some ⟨kt,0,none⟩) n n):=M16.at (s:=(.s 0 n n)) (by kernel_rfl)
    have f12_16:a16.tmps[12]? = some (.slice (some ⟨gg,0,none⟩) n cap):=M16.at (s:=(.v (.slice (some ⟨gg,0,none⟩) n cap))) (by kernel_rfl)
    have f13_16:a16.tmps[13]? = some (.int .i64 (n:Int)):=M16.at (s:=(.v (.int .i64 (n:Int)))) (by kernel_rfl)
    have f14_16:a16.tmps[14]? = some (.int .i64 ((i+1:Nat):Int)):=M16.at (s:=(.v (.int .i64 ((i+1:Nat):Int)))) (by kernel_rfl)
    show ∃ n',_
    exact ⟨m' - 1,by omega,i+1,C2,by omega,fun j hj=>(by
     by_cases hji:j=i
     · rw [hji,hrdv];rfl
     · exact hall j (by omega)),hR2,sl16,f4_16,(by rw [hqe];exact f12_16),f13_16,f14_16,RG.St.init (cs:=[C2]) (ks:=[kt]) hS16⟩
   | none =>
    have hrd:∀ w',RG.BelX w.heap.size [] w w'→Calls Tryz.prog 168 #[v] w' (Ret fun e w''=>Below w'.heap.size w' w''∧e=.tuple #[pv (0:Fin P) 0,.bool false]):=fun w' hb=>by
     have:=readPoint_c F v (L i) w' (harg.below hb.below)
     rw [hrdv] at this
     exact this
    have M20:RG.M w w.heap.size [] 32 [C] [kt] [(4,(.s 0 n n)),(12,(.v (.slice (some ⟨gg,0,none⟩) n cap))),(13,(.v (.int .i64 (n:Int)))),(14,(.v (.int .i64 (i:Int))))] a _:=⟨hSp,sl,⟨p4,p12,p13,p14,trivial⟩⟩
    repeat refine wp_seq ?_
    refine M20.tx0 (F72f_3 x) [(12,(.v (.slice (some ⟨gg,0,none⟩) n cap))),(14,(.v (.int .i64 (i:Int)))),(15,(.v (.bool true)))] (by kernel_rfl) ⟨RG.cert_bin rfl .lss 3 3 14 13 (.int .i64 (i:Int)) (.int .i64 (n:Int)) (.bool true) rfl rfl (RG.sx fun _=>by kernel_rfl) (RG.sx fun _=>by kernel_rfl) (fun w=>by kernel_rfl) (lssn_t hi),trivial⟩ ?_
    intro a21 w21 M21
    repeat refine wp_seq ?_
    refine wp_cond_true (M21.ev (by kernel_rfl)) ?_
    refine wp_skip ?_
    refine wp_seq ?_
    refine wp_block ?_
    repeat refine wp_seq ?_
    refine M21.tx0 (F72f_4 gg i v x) [(6,(.v v))] (by kernel_rfl) ⟨RG.st fun _ _=>by kernel_rfl,RG.cert_idx rfl 22 12 14 rfl (.v (.slice (some ⟨gg,0,none⟩) n cap)) (.int .i64 (i:Int)) (RG.sx fun _=>by kernel_rfl) (RG.sx fun _=>by kernel_rfl) (fun μ w=>at46 _ 0 _ _ i hi w),RG.cert_load1B rfl gg (0+i) hgg List.not_mem_nil 23 17 rfl v rfl (RG.sx fun _=>by kernel_rfl) hcell u23,RG.st fun _ _=>by kernel_rfl,RG.st fun _ _=>by kernel_rfl,trivial⟩ ?_
    intro a22 w22 M22
    repeat refine wp_seq ?_
    refine M22.tx (F72f_5 m v x) [(5,(RG.z 8))] [(1,6,(ws (0:Fin P)++(ws (0:Fin P))))] [C,(ws (0:Fin P)++(ws (0:Fin P)))] [(8,(.v (.bool false)))] (by kernel_rfl) (by kernel_rfl) ⟨RG.st fun _ _=>by kernel_rfl,RG.cert_callB1 rfl 168 20 v (.tuple #[(pv (0:Fin P) (0:Fin P)),(.bool false)]) rfl (fun a w=>by kernel_rfl) (RG.sx fun _=>by kernel_rfl) hrd,RG.st fun _ _=>by kernel_rfl,RG.st fun _ _=>by kernel_rfl,RG.st fun _ _=>by kernel_rfl,RG.mk 1 139 fun _ _=>by kernel_rfl,RG.pt i109 (by kernel_rfl),RG.st fun _ _=>by kernel_rfl,trivial⟩ ?_
    intro j23 a23 w23 M23
    repeat refine wp_seq ?_
    refine M23.tx0 (F72f_6 x) [(25,(.v (.bool true)))] (by kernel_rfl) ⟨RG.st fun _ _=>by kernel_rfl,RG.st fun _ _=>by kernel_rfl,trivial⟩ ?_
    intro a24 w24 M24
    repeat refine wp_seq ?_
    refine wp_cond_true (M24.ev (by kernel_rfl)) ?_
    repeat refine wp_seq ?_
    refine M24.tx0 (F72f_7 x) [(2,(.v (.slice none 0 0))),(3,(.v (.int .i64 4)))] (by kernel_rfl) ⟨RG.st fun _ _=>by kernel_rfl,RG.st fun _ _=>by kernel_rfl,trivial⟩ ?_
    intro a25 w25 M25
    have hS25:RG.St w w.heap.size [] [C,(ws (0:Fin P)++(ws (0:Fin P)))] [kt,j23] _:=M25.st
    have sl25:=M25.sl
    have f2_25:a25.tmps[2]? = some (.slice none 0 0):=M25.at (s:=(.v (.slice none 0 0))) (by kernel_rfl)
    have f3_25:a25.tmps[3]? = some (.int .i64 4):=M25.at (s:=(.v (.int .i64 4))) (by kernel_rfl)
    refine wp_ret ?_
    refine bodyPost_ret (v:=.tuple #[.slice none 0 0,.int .i64 4]) (RG.results_tt 2 3 rfl _ _ f2_25 f3_25) sl25.defers ?_
    exact ⟨_,rfl,hS25.bel.below,Or.inr ⟨⟨i,hi,hrdv⟩,rfl⟩⟩
 · have hiN:i=n:=by omega
   have M30:RG.M w w.heap.size [] 32 [C] [kt] [(4,(.s 0 n n)),(12,(.v (.slice q n cap))),(13,(.v (.int .i64 (n:Int)))),(14,(.v (.int .i64 (i:Int))))] a _:=⟨hSp,sl,⟨p4,p12,p13,p14,trivial⟩⟩
   repeat refine wp_seq ?_
   refine M30.tx0 (F72e_3 x) [(4,(.s 0 n n)),(15,(.v (.bool false)))] (by kernel_rfl) ⟨RG.cert_bin rfl .lss 3 3 14 13 (.int .i64 (i:Int)) (.int .i64 (n:Int)) (.bool false) rfl rfl (RG.sx fun _=>by kernel_rfl) (RG.sx fun _=>by kernel_rfl) (fun w=>by kernel_rfl) (lssn_f hi),trivial⟩ ?_
   intro a31 w31 M31
   repeat refine wp_seq ?_
   refine wp_cond_false (M31.ev (by kernel_rfl)) ?_
   refine wp_exit ?_
   dsimp only [Exit.then,Exit.inBlock]
   rw [if_pos rfl]
   repeat refine wp_seq ?_
   refine M31.tx0 (F72e_10 n x) [(2,(.s 0 n n)),(3,(.v (.int .i64 0)))] (by kernel_rfl) ⟨RG.st fun _ _=>by kernel_rfl,RG.st fun _ _=>by kernel_rfl,RG.st fun _ _=>by kernel_rfl,trivial⟩ ?_
   intro a32 w32 M32
   have hS32:RG.St w w.heap.size [] [C] [kt] _:=M32.st
   have sl32:=M32.sl
   have f2_32:a32.tmps[2]? = some (.slice (some ⟨kt,0,none⟩) n n):=M32.at (s:=(.s 0 n n)) (by kernel_rfl)
   have f3_32:a32.tmps[3]? = some (.int .i64 0):=M32.at (s:=(.v (.int .i64 0))) (by kernel_rfl)
   refine wp_ret ?_
   refine bodyPost_ret (v:=.tuple #[.slice (some ⟨kt,0,none⟩) n n,.int .i64 0]) (RG.results_tt 2 3 rfl _ _ f2_32 f3_32) sl32.defers ?_
   refine ⟨_,rfl,hS32.bel.below,Or.inl ⟨kt,?_,?_,rfl,fun j hj=>?_⟩⟩
   · exact (hS32.has 0 C rfl).2.2.2.elim id (fun h=>absurd h List.not_mem_nil)
   · exact (hS32.has 0 C rfl).2.2.1
   · obtain ⟨pp,hpp⟩:=Option.isSome_iff_exists.1 (hall j (by omega))
     refine ⟨pp,hpp,RG.range_sub (hS32.has 0 C rfl).1 (fun r hr=>?_)⟩
     have h5:=hR.row j r (by omega) hr
     rw [h5]
     show (match rd P (L j) with | some p=>_ | none=>_)[r]? = _
     rw [hpp]
def F81a_0:List RG.It:=[.x 2 [] (.slice none 0 0),.x 3 [] (.int .i64 0)]
def F81a_1 (q:Option Addr) (n cap:Nat):List RG.It:=[.x 9 [] (.slice q n cap),.x 10 [(9,0)] (.int .i64 (n:Int)),⟨some 11,[(10,1)],(.s 0 n n),.make 0⟩,.s 4 [(11,2)] (.s 0 n n)]
def F81a_2 (q:Option Addr) (n cap:Nat):List RG.It:=[.x 12 [] (.slice q n cap),.x 13 [(12,0)] (.int .i64 (n:Int)),.x 14 [] (.int .i64 0)]
def F81b_3:List RG.It:=[.x 15 [] (.bool true)]
def F81b_4 (gg i:Nat) (v:Value):List RG.It:=[.x 16 [] (.int .i64 (i:Int)),.x 17 [] (.pointer (some ⟨gg,(0+i),none⟩)),.x 18 [(17,1)] v,.x 5 [(16,0)] (.int .i64 (i:Int)),.x 6 [(18,2)] v]
def F81b_5 (m:Nat) (v:Value):List RG.It:=[.c 20 [] gv1,.x 21 [] v,.c 22 [(20,0),(21,1)] (.tuple #[(nv m),(.bool true)]),.x 19 [(22,2)] (.tuple #[(nv m),(.bool true)]),.x 23 [(19,3)] (nv m),.x 24 [(19,3)] (.bool true),.m 7 [] 1,.u [(7,6),(23,4)] 1,.x 8 [(24,5)] (.bool true)]
def F81b_6:List RG.It:=[.x 25 [] (.bool true),.x 26 [(25,0)] (.bool false)]
def F81b_8 (n i m:Nat):List RG.It:=[.s 27 [] (.s 0 n n),.x 28 [] (.int .i64 (i:Int)),.x 29 [] (nv m),.s 30 [(27,0),(28,1)] (.p 0 (0+4*i)),.u [(30,3),(29,2)] 0]
def F81b_9 (i:Nat):List RG.It:=[.x 31 [] (.int .i64 ((i+1:Nat):Int)),.x 14 [(31,0)] (.int .i64 ((i+1:Nat):Int))]
def F81f_3:List RG.It:=[.x 15 [] (.bool true)]
def F81f_4 (gg i:Nat) (v:Value):List RG.It:=[.x 16 [] (.int .i64 (i:Int)),.x 17 [] (.pointer (some ⟨gg,(0+i),none⟩)),.x 18 [(17,1)] v,.x 5 [(16,0)] (.int .i64 (i:Int)),.x 6 [(18,2)] v]
def F81f_5 (m:Nat) (v:Value):List RG.It:=[.c 20 [] gv1,.x 21 [] v,.c 22 [(20,0),(21,1)] (.tuple #[(nv 0),(.bool false)]),.x 19 [(22,2)] (.tuple #[(nv 0),(.bool false)]),.x 23 [(19,3)] (nv 0),.x 24 [(19,3)] (.bool false),.m 7 [] 1,.u [(7,6),(23,4)] 1,.x 8 [(24,5)] (.bool false)]
def F81f_6:List RG.It:=[.x 25 [] (.bool false),.x 26 [(25,0)] (.bool true)]
def F81f_7:List RG.It:=[.x 2 [] (.slice none 0 0),.x 3 [] (.int .i64 3)]
def F81e_3:List RG.It:=[.x 15 [] (.bool false)]
def F81e_10 (n:Nat):List RG.It:=[.s 32 [] (.s 0 n n),.s 2 [(32,0)] (.s 0 n n),.x 3 [] (.int .i64 0)]
def ArgsScs (w:World) (q:Option Addr) (n:Nat) (L:Nat→Bs):Prop:=0 < n→∃ gg,q=some ⟨gg,0,none⟩∧gg < w.heap.size∧∀ j,j < n→∃ v,w.cell? ⟨gg,j,none⟩=some v∧Arg w v (L j)
def ScsR (N:Nat) (w:World) (n:Nat) (L:Nat→Bs) (e:Value) (w':World):Prop :=
 (∃ k,w.heap.size≤k∧k < w'.heap.size∧e=.tuple #[.slice (some ⟨k,0,none⟩) n n,.int .i64 0]∧∀ j,j < n→∃ p,rq N (L j)=some p∧w'.rangeAt k (4*j) (wn p)) ∨
 ((∃ j,j < n∧rq N (L j)=none)∧e=.tuple #[.slice none 0 0,.int .i64 3])
set_option maxHeartbeats 4000000 in
set_option maxRecDepth 100000 in
theorem Scs_c {N:Nat} (hG:Gap 4624529908474429119 4994812053365940164 1 N) (n cap:Nat) (hn:n≤512) (q:Option Addr) (L:Nat→Bs) (w:World) (hA:ArgsScs w q n L):Calls Tryz.prog 78 #[.slice q n cap] w (Ret fun e w'=>Below w.heap.size w w'∧ScsR N w n L e w'):=by
 obtain ⟨C,hCl,hmk⟩:=mk82 n hn
 obtain ⟨i,-⟩:∃ i:Nat,i=0:=⟨_,rfl⟩
 obtain ⟨gg,-⟩:∃ i:Nat,i=0:=⟨_,rfl⟩
 obtain ⟨m,-⟩:∃ i:Nat,i=0:=⟨_,rfl⟩
 obtain ⟨v,-⟩:∃ v:Value,v=.bool true:=⟨_,rfl⟩
 obtain ⟨C2,-⟩:∃ c:List Value,c=C:=⟨_,rfl⟩
 go_enter Tryz.func78,Tryz.ntmps78
 refine RG.var1 (v0:=.slice q n cap) (n:=33) (by kernel_rfl) (by kernel_rfl) (by kernel_rfl) ?_
 intro a0 sl0 f0
 have hS0:=RG.St.begin w
 have M0:RG.M w w.heap.size [] 33 [] [] [(0,(.v (.slice q n cap)))] a0 _:=⟨hS0,sl0,⟨f0,trivial⟩⟩
 repeat refine wp_seq ?_
 refine M0.tx0 F81a_0 [(0,(.v (.slice q n cap))),(2,(.v (.slice none 0 0))),(3,(.v (.int .i64 0)))] (by kernel_rfl) ⟨RG.st fun _ _=>by kernel_rfl,RG.st fun _ _=>by kernel_rfl,trivial⟩ ?_
 intro a1 w1 M1
 repeat refine wp_seq ?_
 refine M1.tx (F81a_1 q n cap) [(2,C)] [] [C] [(0,(.v (.slice q n cap))),(2,(.v (.slice none 0 0))),(3,(.v (.int .i64 0))),(4,(.s 0 n n))] (by kernel_rfl) (by kernel_rfl) ⟨RG.st fun _ _=>by kernel_rfl,RG.cert_one rfl 9 (.v (.slice q n cap)) (.int .i64 (n:Int)) rfl (RG.sx fun _=>by kernel_rfl) (fun a w=>by kernel_rfl) (fun μ w=>by kernel_rfl),RG.cert_makes 0 rfl _ rfl 135 70 10 10 n rfl rfl (RG.sx fun _=>by kernel_rfl) (RG.sx fun _=>by kernel_rfl) (hmk),RG.st fun _ _=>by kernel_rfl,trivial⟩ ?_
 intro j2 a2 w2 M2
 repeat refine wp_seq ?_
 refine M2.tx0 (F81a_2 q n cap) [(2,(.v (.slice none 0 0))),(3,(.v (.int .i64 0))),(4,(.s 0 n n)),(12,(.v (.slice q n cap))),(13,(.v (.int .i64 (n:Int)))),(14,(.v (.int .i64 0)))] (by kernel_rfl) ⟨RG.st fun _ _=>by kernel_rfl,RG.cert_one rfl 12 (.v (.slice q n cap)) (.int .i64 (n:Int)) rfl (RG.sx fun _=>by kernel_rfl) (fun a w=>by kernel_rfl) (fun μ w=>by kernel_rfl),RG.st fun _ _=>by kernel_rfl,trivial⟩ ?_
 intro a3 w3 M3
 have hS3:RG.St w w.heap.size [] [C] [j2] _:=M3.st
 have sl3:=M3.sl
 have f2_3:a3.tmps[2]? = some (.slice none 0 0):=M3.at (s:=(.v (.slice none 0 0))) (by kernel_rfl)
 have f3_3:a3.tmps[3]? = some (.int .i64 0):=M3.at (s:=(.v (.int .i64 0))) (by kernel_rfl)
 have f4_3:a3.tmps[4]? = some (.slice (some ⟨j2,0,none⟩) n n):=M3.at (s:=(.s 0 n n)) (by kernel_rfl)
 have f12_3:a3.tmps[12]? = some (.slice q n cap):=M3.at (s:=(.v (.slice q n cap))) (by kernel_rfl)
 have f13_3:a3.tmps[13]? = some (.int .i64 (n:Int)):=M3.at (s:=(.v (.int .i64 (n:Int)))) (by kernel_rfl)
 have f14_3:a3.tmps[14]? = some (.int .i64 0):=M3.at (s:=(.v (.int .i64 0))) (by kernel_rfl)
 repeat refine wp_seq ?_
 refine wp_block ?_
 refine wp_loop_ghost (fun m a wr=>∃ (i:Nat) (C:List Value),i+m=n∧(∀ j,j < i→(rq N (L j)).isSome=true)∧Rows 4 n (fun j=>match rq N (L j) with | some k=>wn k | none=>[]) i C∧RG.Sl a 33∧a.tmps[4]? = some (.slice (some ⟨j2,0,none⟩) n n)∧a.tmps[12]? = some (.slice q n cap)∧a.tmps[13]? = some (.int .i64 (n:Int))∧a.tmps[14]? = some (.int .i64 (i:Int))∧RG.St w w.heap.size [] [C] [j2] wr) n ⟨0,C,by omega,fun j hj=>by omega,⟨hCl,fun j r hj=>by omega⟩,sl3,f4_3,f12_3,f13_3,f14_3,hS3⟩ ?_
 intro m' a wr
 rintro ⟨i,C,him,hall,hR,sl,p4,p12,p13,p14,hSp⟩
 generalize j2=kt at p4 hSp
 by_cases hi:i < n
 · obtain ⟨gg,hqe,hgg,hc⟩:=hA (by omega)
   rw [hqe] at p12
   obtain ⟨v,hv,harg⟩:=hc i hi
   have hcell:w.cell? ⟨gg,0+i,none⟩=some v:=by rw [Nat.zero_add];exact hv
   cases hrdv:rq N (L i) with
   | some pp =>
    obtain ⟨m,rfl⟩:∃ m,m=pp:=⟨_,rfl⟩
    have hrd:∀ w',RG.BelX w.heap.size [] w w'→Calls Tryz.prog 117 #[gv1,v] w' (Ret fun e w''=>Below w'.heap.size w' w''∧e=.tuple #[nv m,.bool true]):=fun w' hb=>by
     have:=readQ_c hG v (L i) w' (harg.below hb.below)
     rw [hrdv] at this
     exact this
    have hlen:=hR.len
    have hoff:0+4*i+(wn m).length≤C.length:=by rw [hlen];show 0+4*i+4≤4*n;omega
    obtain ⟨C2,hC2e⟩:∃ c,RG.rep C (0+4*i) (wn m)=c:=⟨_,rfl⟩
    have hC2:=hC2e ▸ RG.rep_at hoff
    have hcl:C2.length=C.length:=hC2e ▸ RG.rep_length hoff
    have hR2:Rows 4 n (fun j=>match rq N (L j) with | some k=>wn k | none=>[]) (i+1) C2:=by
     have:=hR.next hi (by show List.length (match rq N (L i) with | some p=>_ | none=>_)=_;rw [hrdv];rfl)
     rw [← hC2e]
     have e:(fun j=>match rq N (L j) with | some k=>wn k | none=>[]) i=(wn m):=by show (match rq N (L i) with | some p=>_ | none=>_)=_;rw [hrdv]
     rw [← e]
     exact this
    have M10:RG.M w w.heap.size [] 33 [C] [kt] [(4,(.s 0 n n)),(12,(.v (.slice (some ⟨gg,0,none⟩) n cap))),(13,(.v (.int .i64 (n:Int)))),(14,(.v (.int .i64 (i:Int))))] a _:=⟨hSp,sl,⟨p4,p12,p13,p14,trivial⟩⟩
    repeat refine wp_seq ?_
    refine M10.tx0 F81b_3 [(4,(.s 0 n n)),(12,(.v (.slice (some ⟨gg,0,none⟩) n cap))),(13,(.v (.int .i64 (n:Int)))),(14,(.v (.int .i64 (i:Int)))),(15,(.v (.bool true)))] (by kernel_rfl) ⟨RG.cert_bin rfl .lss 3 3 14 13 (.int .i64 (i:Int)) (.int .i64 (n:Int)) (.bool true) rfl rfl (RG.sx fun _=>by kernel_rfl) (RG.sx fun _=>by kernel_rfl) (fun w=>by kernel_rfl) (lssn_t hi),trivial⟩ ?_
    intro a11 w11 M11
    repeat refine wp_seq ?_
    refine wp_cond_true (M11.ev (by kernel_rfl)) ?_
    refine wp_skip ?_
    refine wp_seq ?_
    refine wp_block ?_
    repeat refine wp_seq ?_
    refine M11.tx0 (F81b_4 gg i v) [(4,(.s 0 n n)),(5,(.v (.int .i64 (i:Int)))),(6,(.v v)),(12,(.v (.slice (some ⟨gg,0,none⟩) n cap))),(13,(.v (.int .i64 (n:Int)))),(14,(.v (.int .i64 (i:Int))))] (by kernel_rfl) ⟨RG.st fun _ _=>by kernel_rfl,RG.cert_idx rfl 22 12 14 rfl (.v (.slice (some ⟨gg,0,none⟩) n cap)) (.int .i64 (i:Int)) (RG.sx fun _=>by kernel_rfl) (RG.sx fun _=>by kernel_rfl) (fun μ w=>at46 _ 0 _ _ i hi w),RG.cert_load1B rfl gg (0+i) hgg List.not_mem_nil 23 17 rfl v rfl (RG.sx fun _=>by kernel_rfl) hcell u23,RG.st fun _ _=>by kernel_rfl,RG.st fun _ _=>by kernel_rfl,trivial⟩ ?_
    intro a12 w12 M12
    repeat refine wp_seq ?_
    refine M12.tx (F81b_5 m v) [(6,(RG.z 4))] [(1,7,(wn m))] [C,(wn m)] [(4,(.s 0 n n)),(5,(.v (.int .i64 (i:Int)))),(7,(.p 1 0)),(8,(.v (.bool true))),(12,(.v (.slice (some ⟨gg,0,none⟩) n cap))),(13,(.v (.int .i64 (n:Int)))),(14,(.v (.int .i64 (i:Int))))] (by kernel_rfl) (by kernel_rfl) ⟨RG.cl (Scalars_c) fun _ _=>by kernel_rfl,RG.st fun _ _=>by kernel_rfl,RG.cert_callB2 rfl 117 20 21 gv1 v (.tuple #[(nv m),(.bool true)]) rfl (fun a w=>by kernel_rfl) (RG.sx fun _=>by kernel_rfl) (RG.sx fun _=>by kernel_rfl) hrd,RG.st fun _ _=>by kernel_rfl,RG.st fun _ _=>by kernel_rfl,RG.st fun _ _=>by kernel_rfl,RG.mk 1 70 fun _ _=>by kernel_rfl,RG.pt i85 (by kernel_rfl),RG.st fun _ _=>by kernel_rfl,trivial⟩ ?_
    intro j13 a13 w13 M13
    repeat refine wp_seq ?_
    refine M13.tx0 F81b_6 [(4,(.s 0 n n)),(5,(.v (.int .i64 (i:Int)))),(7,(.p 1 0)),(12,(.v (.slice (some ⟨gg,0,none⟩) n cap))),(13,(.v (.int .i64 (n:Int)))),(14,(.v (.int .i64 (i:Int)))),(26,(.v (.bool false)))] (by kernel_rfl) ⟨RG.st fun _ _=>by kernel_rfl,RG.st fun _ _=>by kernel_rfl,trivial⟩ ?_
    intro a14 w14 M14
    repeat refine wp_seq ?_
    refine wp_cond_false (M14.ev (by kernel_rfl)) ?_
    refine wp_skip ?_
    repeat refine wp_seq ?_
    refine M14.tx (F81b_8 n i m) [] [(0,4,C2)] [C2,(wn m)] [(4,(.s 0 n n)),(12,(.v (.slice (some ⟨gg,0,none⟩) n cap))),(13,(.v (.int .i64 (n:Int)))),(14,(.v (.int .i64 (i:Int))))] (by kernel_rfl) (congrArg (fun n=>[n]) hcl) ⟨RG.st fun _ _=>by kernel_rfl,RG.st fun _ _=>by kernel_rfl,RG.ld u85 i85 (by kernel_rfl),RG.cert_idx rfl 135 27 28 rfl (.s 0 n n) (.int .i64 (i:Int)) (RG.sx fun _=>by kernel_rfl) (RG.sx fun _=>by kernel_rfl) (fun μ w=>at82 _ 0 _ _ i hi w),RG.cert_putAt 0 (0+4*i) rfl _ rfl 70 (.tmp 30) (.tmp 29) (wn m) rfl rfl (RG.sx fun _=>by kernel_rfl) (RG.sx fun _=>by kernel_rfl) hoff hC2 i85 rfl,trivial⟩ ?_
    intro a15 w15 M15
    repeat refine wp_seq ?_
    refine M15.tx0 (F81b_9 i) [(4,(.s 0 n n)),(12,(.v (.slice (some ⟨gg,0,none⟩) n cap))),(13,(.v (.int .i64 (n:Int)))),(14,(.v (.int .i64 ((i+1:Nat):Int))))] (by kernel_rfl) ⟨RG.cert_binc rfl .add 3 3 14 (.int .i64 (i:Int)) (.int .i64 1) (.int .i64 ((i+1:Nat):Int)) rfl rfl (RG.sx fun _=>by kernel_rfl) (fun w=>by kernel_rfl) (addn i 1 (by omega) (by omega)),RG.st fun _ _=>by kernel_rfl,trivial⟩ ?_
    intro a16 w16 M16
    have hS16:RG.St w w.heap.size [] [C2,(wn m)] [kt,j13] _:=M16.st
    have sl16:=M16.sl
    have f4_16:a16.tmps[4]? = some (.slice (some ⟨kt,0,none⟩) n n):=M16.at (s:=(.s 0 n n)) (by kernel_rfl)
    have f12_16:a16.tmps[12]? = some (.slice (some ⟨gg,0,none⟩) n cap):=M16.at (s:=(.v (.slice (some ⟨gg,0,none⟩) n cap))) (by kernel_rfl)
    have f13_16:a16.tmps[13]? = some (.int .i64 (n:Int)):=M16.at (s:=(.v (.int .i64 (n:Int)))) (by kernel_rfl)
    have f14_16:a16.tmps[14]? = some (.int .i64 ((i+1:Nat):Int)):=M16.at (s:=(.v (.int .i64 ((i+1:Nat):Int)))) (by kernel_rfl)
    show ∃ n',_
    exact ⟨m' - 1,by omega,i+1,C2,by omega,fun j hj=>(by
     by_cases hji:j=i
     · rw [hji,hrdv];rfl
     · exact hall j (by omega)),hR2,sl16,f4_16,(by rw [hqe];exact f12_16),f13_16,f14_16,RG.St.init (cs:=[C2]) (ks:=[kt]) hS16⟩
   | none =>
    have hrd:∀ w',RG.BelX w.heap.size [] w w'→Calls Tryz.prog 117 #[gv1,v] w' (Ret fun e w''=>Below w'.heap.size w' w''∧e=.tuple #[nv 0,.bool false]):=fun w' hb=>by
     have:=readQ_c hG v (L i) w' (harg.below hb.below)
     rw [hrdv] at this
     exact this
    have M20:RG.M w w.heap.size [] 33 [C] [kt] [(4,(.s 0 n n)),(12,(.v (.slice (some ⟨gg,0,none⟩) n cap))),(13,(.v (.int .i64 (n:Int)))),(14,(.v (.int .i64 (i:Int))))] a _:=⟨hSp,sl,⟨p4,p12,p13,p14,trivial⟩⟩
    repeat refine wp_seq ?_
    refine M20.tx0 F81f_3 [(12,(.v (.slice (some ⟨gg,0,none⟩) n cap))),(14,(.v (.int .i64 (i:Int)))),(15,(.v (.bool true)))] (by kernel_rfl) ⟨RG.cert_bin rfl .lss 3 3 14 13 (.int .i64 (i:Int)) (.int .i64 (n:Int)) (.bool true) rfl rfl (RG.sx fun _=>by kernel_rfl) (RG.sx fun _=>by kernel_rfl) (fun w=>by kernel_rfl) (lssn_t hi),trivial⟩ ?_
    intro a21 w21 M21
    repeat refine wp_seq ?_
    refine wp_cond_true (M21.ev (by kernel_rfl)) ?_
    refine wp_skip ?_
    refine wp_seq ?_
    refine wp_block ?_
    repeat refine wp_seq ?_
    refine M21.tx0 (F81f_4 gg i v) [(6,(.v v))] (by kernel_rfl) ⟨RG.st fun _ _=>by kernel_rfl,RG.cert_idx rfl 22 12 14 rfl (.v (.slice (some ⟨gg,0,none⟩) n cap)) (.int .i64 (i:Int)) (RG.sx fun _=>by kernel_rfl) (RG.sx fun _=>by kernel_rfl) (fun μ w=>at46 _ 0 _ _ i hi w),RG.cert_load1B rfl gg (0+i) hgg List.not_mem_nil 23 17 rfl v rfl (RG.sx fun _=>by kernel_rfl) hcell u23,RG.st fun _ _=>by kernel_rfl,RG.st fun _ _=>by kernel_rfl,trivial⟩ ?_
    intro a22 w22 M22
    repeat refine wp_seq ?_
    refine M22.tx (F81f_5 m v) [(6,(RG.z 4))] [(1,7,(wn 0))] [C,(wn 0)] [(8,(.v (.bool false)))] (by kernel_rfl) (by kernel_rfl) ⟨RG.cl (Scalars_c) fun _ _=>by kernel_rfl,RG.st fun _ _=>by kernel_rfl,RG.cert_callB2 rfl 117 20 21 gv1 v (.tuple #[(nv 0),(.bool false)]) rfl (fun a w=>by kernel_rfl) (RG.sx fun _=>by kernel_rfl) (RG.sx fun _=>by kernel_rfl) hrd,RG.st fun _ _=>by kernel_rfl,RG.st fun _ _=>by kernel_rfl,RG.st fun _ _=>by kernel_rfl,RG.mk 1 70 fun _ _=>by kernel_rfl,RG.pt i85 (by kernel_rfl),RG.st fun _ _=>by kernel_rfl,trivial⟩ ?_
    intro j23 a23 w23 M23
    repeat refine wp_seq ?_
    refine M23.tx0 F81f_6 [(26,(.v (.bool true)))] (by kernel_rfl) ⟨RG.st fun _ _=>by kernel_rfl,RG.st fun _ _=>by kernel_rfl,trivial⟩ ?_
    intro a24 w24 M24
    repeat refine wp_seq ?_
    refine wp_cond_true (M24.ev (by kernel_rfl)) ?_
    repeat refine wp_seq ?_
    refine M24.tx0 F81f_7 [(2,(.v (.slice none 0 0))),(3,(.v (.int .i64 3)))] (by kernel_rfl) ⟨RG.st fun _ _=>by kernel_rfl,RG.st fun _ _=>by kernel_rfl,trivial⟩ ?_
    intro a25 w25 M25
    have hS25:RG.St w w.heap.size [] [C,(wn 0)] [kt,j23] _:=M25.st
    have sl25:=M25.sl
    have f2_25:a25.tmps[2]? = some (.slice none 0 0):=M25.at (s:=(.v (.slice none 0 0))) (by kernel_rfl)
    have f3_25:a25.tmps[3]? = some (.int .i64 3):=M25.at (s:=(.v (.int .i64 3))) (by kernel_rfl)
    refine wp_ret ?_
    refine bodyPost_ret (v:=.tuple #[.slice none 0 0,.int .i64 3]) (RG.results_tt 2 3 rfl _ _ f2_25 f3_25) sl25.defers ?_
    exact ⟨_,rfl,hS25.bel.below,Or.inr ⟨⟨i,hi,hrdv⟩,rfl⟩⟩
 · have hiN:i=n:=by omega
   have M30:RG.M w w.heap.size [] 33 [C] [kt] [(4,(.s 0 n n)),(12,(.v (.slice q n cap))),(13,(.v (.int .i64 (n:Int)))),(14,(.v (.int .i64 (i:Int))))] a _:=⟨hSp,sl,⟨p4,p12,p13,p14,trivial⟩⟩
   repeat refine wp_seq ?_
   refine M30.tx0 F81e_3 [(4,(.s 0 n n)),(15,(.v (.bool false)))] (by kernel_rfl) ⟨RG.cert_bin rfl .lss 3 3 14 13 (.int .i64 (i:Int)) (.int .i64 (n:Int)) (.bool false) rfl rfl (RG.sx fun _=>by kernel_rfl) (RG.sx fun _=>by kernel_rfl) (fun w=>by kernel_rfl) (lssn_f hi),trivial⟩ ?_
   intro a31 w31 M31
   repeat refine wp_seq ?_
   refine wp_cond_false (M31.ev (by kernel_rfl)) ?_
   refine wp_exit ?_
   dsimp only [Exit.then,Exit.inBlock]
   rw [if_pos rfl]
   repeat refine wp_seq ?_
   refine M31.tx0 (F81e_10 n) [(2,(.s 0 n n)),(3,(.v (.int .i64 0)))] (by kernel_rfl) ⟨RG.st fun _ _=>by kernel_rfl,RG.st fun _ _=>by kernel_rfl,RG.st fun _ _=>by kernel_rfl,trivial⟩ ?_
   intro a32 w32 M32
   have hS32:RG.St w w.heap.size [] [C] [kt] _:=M32.st
   have sl32:=M32.sl
   have f2_32:a32.tmps[2]? = some (.slice (some ⟨kt,0,none⟩) n n):=M32.at (s:=(.s 0 n n)) (by kernel_rfl)
   have f3_32:a32.tmps[3]? = some (.int .i64 0):=M32.at (s:=(.v (.int .i64 0))) (by kernel_rfl)
   refine wp_ret ?_
   refine bodyPost_ret (v:=.tuple #[.slice (some ⟨kt,0,none⟩) n n,.int .i64 0]) (RG.results_tt 2 3 rfl _ _ f2_32 f3_32) sl32.defers ?_
   refine ⟨_,rfl,hS32.bel.below,Or.inl ⟨kt,?_,?_,rfl,fun j hj=>?_⟩⟩
   · exact (hS32.has 0 C rfl).2.2.2.elim id (fun h=>absurd h List.not_mem_nil)
   · exact (hS32.has 0 C rfl).2.2.1
   · obtain ⟨pp,hpp⟩:=Option.isSome_iff_exists.1 (hall j (by omega))
     refine ⟨pp,hpp,RG.range_sub (hS32.has 0 C rfl).1 (fun r hr=>?_)⟩
     have h5:=hR.row j r (by omega) hr
     rw [h5]
     show (match rq N (L j) with | some p=>_ | none=>_)[r]? = _
     rw [hpp]
end Go.Proofs.YtmkllfekhehagafGreat
set_option linter.unusedVariables false
set_option linter.unusedSimpArgs false
namespace Go.Proofs.YtmkllfekhehagafGreat
open Go.RowKit Go.Sort Go.Deep
variable {P:Nat} [NeZero P]
def OutE (c:Int) (e:Value):Prop:=e=.tuple #[.slice none 0 0,.int .i64 c]
def OutP (w:World) (T:Bs) (e:Value) (w':World):Prop:=∃ g cap,e=.tuple #[.slice (some ⟨g,0,none⟩) 33 cap,.int .i64 0]∧33≤cap∧w.heap.size≤g∧g < w'.heap.size∧Holds encB w' g 0 T
def ptP (s:T3 P):Fin P × Fin P:=(s.1*(EC.inv s.2.2*EC.inv s.2.2),s.2.1*(EC.inv s.2.2*EC.inv s.2.2)*EC.inv s.2.2)
end Go.Proofs.YtmkllfekhehagafGreat
namespace Go.Proofs.YtmkllfekhehagafGreat
open Go.RowKit Go.Sort Go.Deep
variable {P:Nat} [NeZero P]
theorem cell_below {w w1:World} {k j:Nat} {v:Value} (h:w.cell? ⟨k,j,none⟩=some v) (hb:Below w.heap.size w w1) (hk:k < w.heap.size):w1.cell? ⟨k,j,none⟩=some v:=by
 have h1:w.rangeAt k j [v]:=fun i u hu=>by
  cases i with
  | zero =>
   obtain rfl:v=u:=Option.some.inj hu
   exact h
  | succ i=>exact absurd hu (by simp)
 exact RG.range_below h1 hb hk 0 v rfl
theorem ArgsPts.below {w w1:World} {q:Option Addr} {n:Nat} {L:Nat→Bs} (h:ArgsPts w q n L) (hb:Below w.heap.size w w1):ArgsPts w1 q n L:=fun hn=>by
 obtain ⟨gg,hq,hlt,hc⟩:=h hn
 refine ⟨gg,hq,Nat.lt_of_lt_of_le hlt hb.size,fun j hj=>?_⟩
 obtain ⟨v,hv,ha⟩:=hc j hj
 exact ⟨v,cell_below hv hb hlt,ha.below hb⟩
def SumR (P:Nat) [NeZero P] (N:Nat) (w:World) (n a:Nat) (L M:Nat→Bs) (e:Value) (w':World):Prop :=
 (n≠a∧OutE 2 e)∨(n=a∧512 < n∧OutE 1 e)∨(n=a∧n≤512∧(((∃ j,j < n∧rq N (L j)=none)∧OutE 3 e) ∨
  ∃ ns:Nat→Nat,(∀ j,j < n→rq N (L j)=some (ns j))∧(((∃ j,j < n∧rd P (M j)=none)∧OutE 4 e) ∨
   ∃ xs ys:Nat→Fin P,(∀ j,j < n→rd P (M j)=some (xs j,ys j))∧OutP w (by33 (ptP (sumJ ns xs ys n 257)).1 (ptP (sumJ ns xs ys n 257)).2) e w')))
theorem choose_nat {A:Type} [Inhabited A] {n:Nat} {p:Nat→A→Prop} (h:∀ j,j < n→∃ a,p j a):∃ f:Nat→A,∀ j,j < n→p j (f j) :=
 ⟨fun j=>if hj:j < n then (h j hj).choose else default,fun j hj=>by
  show p j (if hj:j < n then (h j hj).choose else default)
  rw [dif_pos hj]
  exact (h j hj).choose_spec⟩
theorem rq_top {N:Nat} (hN:N≤top) {bs:Bs} {m:Nat} (h:rq N bs=some m):m < top:=by
 unfold rq at h
 split at h
 · rename_i h1
   obtain rfl:beV bs.toList=m:=Option.some.inj h
   exact Nat.lt_of_lt_of_le h1.2 hN
 · exact absurd h (by simp)
set_option maxHeartbeats 4000000 in
set_option maxRecDepth 100000 in
theorem gSum_c {N:Nat} (C:Fld P) (hG:Gap 4624529908474429119 4994812053365940164 1 N) (hN:N≤top) (q q':Option Addr) (n cap a cap':Nat) (L M:Nat→Bs) (w:World) (hL:ArgsScs w q n L) (hM:ArgsPts w q' a M) :
 Calls Tryz.prog 167 #[.slice q n cap,.slice q' a cap'] w (Ret fun e w'=>Below w.heap.size w w'∧SumR P N w n a L M e w'):=by
 have HL:Hid (ArgsScs w q n L):=hL
 have HM:Hid (ArgsPts w q' a M):=hM
 clear hL hM
 by_cases hna:n=a
 · subst hna
   by_cases h512:512 < n
   · go_enter Tryz.func167,Tryz.ntmps167
     go_wp2
     go_ret2
     exact ⟨_,rfl,RowKit.Below.refl _ _,Or.inr (Or.inl ⟨rfl,h512,rfl⟩)⟩
   · have H5:n≤512:=by omega
     go_enter Tryz.func167,Tryz.ntmps167
     go_wp2_with fail
     refine (Scs_c hG n cap H5 q L w HL.out).mono ?_
     rintro e w1 ⟨v,rfl,hb1,⟨k,hk1,hk2,rfl,hrow⟩ | ⟨hno,rfl⟩⟩
     · obtain ⟨ns,hns⟩:=choose_nat hrow
       have HB:Hid (Below w.heap.size w w1):=hb1
       have HS:Hid (k < w1.heap.size∧∀ j,j < n→w1.rangeAt k (4*j) (wn (ns j))):=⟨hk2,fun j hj=>(hns j hj).2⟩
       have HN:Hid (∀ j,j < n→rq N (L j)=some (ns j)):=fun j hj=>(hns j hj).1
       clear hrow hns hk1 hk2 hb1
       go_wp2_with fail
       refine (Pts_c C n cap' H5 q' M w1 (HM.out.below HB.out)).mono ?_
       rintro e w2 ⟨v,rfl,hb2,⟨k',hk1,hk2,rfl,hrow⟩ | ⟨hno,rfl⟩⟩
       · obtain ⟨ps,hps⟩:=choose_nat hrow
         have HB2:Hid (Below w.heap.size w w2):=HB.out.trans (hb2.mono HB.out.size)
         have HS2:Hid (k < w2.heap.size∧∀ j,j < n→w2.rangeAt k (4*j) (wn (ns j))):=⟨Nat.lt_of_lt_of_le HS.out.1 hb2.size,fun j hj=>RG.range_below (HS.out.2 j hj) hb2 HS.out.1⟩
         have HP:Hid (k' < w2.heap.size∧∀ j,j < n→w2.rangeAt k' (8*j) (ws (ps j).1++ws (ps j).2)):=⟨hk2,fun j hj=>(hps j hj).2⟩
         have HM2:Hid (∀ j,j < n→rd P (M j)=some ((ps j).1,(ps j).2)):=fun j hj=>(hps j hj).1
         clear hrow hps hk1 hk2 hb2
         have hBt:∀ w,Calls Tryz.prog 83 #[pv (ptP (sumJ ns (fun j=>(ps j).1) (fun j=>(ps j).2) n 257)).1 (ptP (sumJ ns (fun j=>(ps j).1) (fun j=>(ps j).2) n 257)).2] w (Ret fun e w'=>Below w.heap.size w w'∧BytesR w (by33 (ptP (sumJ ns (fun j=>(ps j).1) (fun j=>(ps j).2) n 257)).1 (ptP (sumJ ns (fun j=>(ps j).1) (fun j=>(ps j).2) n 257)).2) e w'):=bytes_c C _ _
         have hS:Calls Tryz.prog 79 #[.slice (some ⟨k,0,none⟩) n n,.slice (some ⟨k',0,none⟩) n n] w2 (Ret fun e w'=>Below w2.heap.size w2 w'∧e=pv (ptP (sumJ ns (fun j=>(ps j).1) (fun j=>(ps j).2) n 257)).1 (ptP (sumJ ns (fun j=>(ps j).1) (fun j=>(ps j).2) n 257)).2):=by
          refine (sums_c C n H5 ns (fun j=>(ps j).1) (fun j=>(ps j).2) (fun i hi=>rq_top hN (HN.out i hi)) k k' w2 HS2.out.1 HP.out.1 HS2.out.2 HP.out.2).mono ?_
          rintro e w' ⟨v,rfl,hb,s,rfl,rfl⟩
          exact ⟨_,rfl,hb,rfl⟩
         generalize hz:ptP (sumJ ns (fun j=>(ps j).1) (fun j=>(ps j).2) n 257)=z at hS hBt
         have HZ:Hid (ptP (sumJ ns (fun j=>(ps j).1) (fun j=>(ps j).2) n 257)=z):=hz
         clear hz
         generalize pv z.1 z.2=v4 at hS hBt
         go_wp2_with fail
         refine hS.mono ?_
         rintro e w3 ⟨v,rfl,hb3,rfl⟩
         have HB3:Hid (Below w.heap.size w w3):=HB2.out.trans (hb3.mono HB2.out.size)
         clear hb3
         go_wp2_with fail
         refine (hBt _).mono ?_
         rintro e w4 ⟨v,rfl,hb4,g,cap3,rfl,hc3,hg3,hlt3,hH3⟩
         have HB4:Hid (Below w.heap.size w w4):=HB3.out.trans (hb4.mono HB3.out.size)
         have HO:Hid (OutP w (by33 z.1 z.2) (.tuple #[.slice (some ⟨g,0,none⟩) 33 cap3,.int .i64 0]) w4):=⟨g,cap3,rfl,hc3,Nat.le_trans HB3.out.size hg3,hlt3,hH3⟩
         clear hb4 hH3
         go_wp2
         go_ret2
         refine ⟨_,rfl,HB4.out,Or.inr (Or.inr ⟨rfl,H5,Or.inr ⟨ns,HN.out,Or.inr ⟨_,_,HM2.out,?_⟩⟩⟩)⟩
         rw [HZ.out]
         exact HO.out
       · have HB2:Hid (Below w.heap.size w w2):=HB.out.trans (hb2.mono HB.out.size)
         have HO:Hid (∃ j,j < n∧rd P (M j)=none):=hno
         clear hb2 hno
         go_wp2
         go_ret2
         exact ⟨_,rfl,HB2.out,Or.inr (Or.inr ⟨rfl,H5,Or.inr ⟨ns,HN.out,Or.inl ⟨HO.out,rfl⟩⟩⟩)⟩
     · have HB:Hid (Below w.heap.size w w1):=hb1
       have HO:Hid (∃ j,j < n∧rq N (L j)=none):=hno
       clear hb1 hno
       go_wp2
       go_ret2
       exact ⟨_,rfl,HB.out,Or.inr (Or.inr ⟨rfl,H5,Or.inl ⟨HO.out,rfl⟩⟩)⟩
 · go_enter Tryz.func167,Tryz.ntmps167
   go_wp2
   go_ret2
   exact ⟨_,rfl,RowKit.Below.refl _ _,Or.inl ⟨hna,rfl⟩⟩
end Go.Proofs.YtmkllfekhehagafGreat
namespace Go.Proofs.YtmkllfekhehagafGreat
open Go.RowKit Go.Sort Go.Deep
variable {P:Nat} [NeZero P]
def zs33:Bs:=Array.replicate 33 0
theorem sq_mod (r d:Nat):d*d % (r+d)=r*r % (r+d):=by
 have h:d*d+(r+d)*r=r*r+(r+d)*d:=by
  rw [Nat.add_mul,Nat.add_mul,Nat.mul_comm d r]
  omega
 have h1:=congrArg (· % (r+d)) h
 simp only [Nat.add_mul_mod_self_left] at h1
 exact h1
theorem rt_sq {m y:Fin P} (h:rt m=some y):y*y=m:=by
 have h0:=rt_yes h
 unfold rt at h
 rw [if_pos h0] at h
 obtain rfl:=Option.some.inj h
 have hP:=Nat.pos_of_neZero P
 have hr:m.val ^ (P / 4+1) % P < P:=Nat.mod_lt _ hP
 generalize m.val ^ (P / 4+1) % P=r at h0 hr
 apply Fin.ext
 rw [Fin.val_mul]
 show (even P r % P)*(even P r % P) % P=m.val
 rw [Nat.mod_eq_of_lt (even_lt hP hr),← h0]
 unfold even
 split
 · have h2:=sq_mod r (P - r)
   rw [show r+(P - r)=P by omega] at h2
   exact h2
 · rfl
theorem zero33_iff {bs:Bs} (hs:bs.size=33):Zero33 bs↔bs=zs33:=by
 constructor
 · intro h
   apply Array.ext
   · rw [hs];rfl
   · intro i h1 h2
     have:=h i (List.mem_range.2 (by omega))
     rw [getElem!_pos bs i h1] at this
     have h3:bs[i].toNat=0:=by
      have h4:ub bs[i]=(bs[i].toNat:Int):=rfl
      rw [h4] at this
      omega
     have h5:(zs33)[i]=0:=by
      have h6:(Array.replicate 33 (0:UInt8))[i]'h2=0:=Array.getElem_replicate _
      exact h6
     rw [h5]
     exact UInt8.toNat_inj.1 h3
 · rintro rfl i hi
   have hi:=List.mem_range.1 hi
   unfold zs33
   rw [getElem!_pos _ i (by rw [Array.size_replicate];exact hi),Array.getElem_replicate]
   rfl
theorem on_of {x y:Fin P} (h:y*y=x*x*x+7):EC.On (.some (x,y):EC.Pt P):=by
 show y ^ 2=x ^ 3+7
 grobner
theorem on_neg {x y:Fin P} (h:y*y=x*x*x+7):EC.On (.some (x,0 - y):EC.Pt P):=by
 show (0 - y) ^ 2=x ^ 3+7
 grobner
def wr:EC.Pt P→Bs
 | none=>zs33
 | some (x,y)=>#[mark y.val]++bx x.val
theorem by33_wr (C:Fld P) {x y:Fin P} {p:EC.Pt P} (h:EC.Pair x y p) (ho:EC.On p):by33 x y=wr p:=by
 unfold by33
 match p,h,ho with
 | none,h,_=>rw [if_pos (show x=0∧y=0 from h)];rfl
 | some (a,b),h,ho =>
  obtain ⟨rfl,rfl⟩:=h
  rw [if_neg (fun e=>C.cur.y_ne ho e.2)]
  rfl
def pt (p:Fin P × Fin P):EC.Pt P:=if p.1=0∧p.2=0 then none else some p
theorem pair_pt (C:Fld P) {x y:Fin P} {q:EC.Pt P} (h:EC.Pair x y q) (ho:EC.On q):q=pt (x,y):=by
 unfold pt
 match q,h,ho with
 | none,h,_=>rw [if_pos (show x=0∧y=0 from h)]
 | some (a,b),h,ho =>
  obtain ⟨rfl,rfl⟩:=h
  rw [if_neg (fun e=>C.cur.y_ne ho e.2)]
theorem rd_on (C:Fld P) {bs:Bs} {p:Fin P × Fin P} (h:rd P bs=some p):EC.Pair p.1 p.2 (pt p)∧EC.On (pt p):=by
 have key:∃ q:EC.Pt P,EC.Pair p.1 p.2 q∧EC.On q:=by
  unfold rd at h
  split at h
  · split at h
    · obtain rfl:=Option.some.inj h
      exact ⟨none,⟨rfl,rfl⟩,EC.none_on⟩
    · split at h
      · split at h
        · obtain ⟨y,hr,rfl⟩:=Option.map_eq_some_iff.1 h
          have hsq:=rt_sq hr
          refine ⟨some (rdx P bs,if ub bs[0]! = 3 then 0 - y else y),⟨rfl,rfl⟩,?_⟩
          split
          · exact on_neg hsq
          · exact on_of hsq
        · cases h
      · cases h
  · cases h
 obtain ⟨q,h1,h2⟩:=key
 have:=pair_pt C h1 h2
 rw [show pt p=q from this.symm]
 exact ⟨h1,h2⟩
omit [NeZero P] in
theorem wr_size (p:EC.Pt P):(wr p).size=33:=by
 match p with
 | none=>rfl
 | some (x,y) =>
  show (#[mark y.val]++bx x.val).size=33
  rw [Array.size_append,bx_size]
  rfl
end Go.Proofs.YtmkllfekhehagafGreat
namespace Go.Proofs.YtmkllfekhehagafGreat
theorem root_mod {a P:Nat} (h:NT.IsP P) (h4:P % 4=3):(a*a % P) ^ (P / 4+1) % P*((a*a % P) ^ (P / 4+1) % P) % P=a*a % P:=by
 rw [← Nat.mul_mod,← Nat.pow_add,← Nat.pow_mod,← Nat.pow_two,← Nat.pow_mul,show 2*(P / 4+1+(P / 4+1))=P+1 by omega,Nat.pow_succ,Nat.mul_mod,h.fermat a,← Nat.mul_mod,Nat.pow_two]
theorem root_is {a R P:Nat} (h:NT.IsP P) (ha:a < P) (hR:R < P) (he:R*R % P=a*a % P):R=a∨R+a=P:=by
 have key:∀ x y:Nat,x < P→y < P→y≤x→x*x % P=y*y % P→x=y∨x+y=P:=by
  intro x y hx hy hxy hxe
  have hd:P ∣ x*x - y*y:=by
   refine Nat.dvd_of_mod_eq_zero ?_
   exact Nat.sub_mod_eq_zero_of_mod_eq hxe
  have hf:x*x - y*y=(x - y)*(x+y):=by
   rw [Nat.mul_comm (x - y),Nat.mul_self_sub_mul_self_eq]
  rw [hf] at hd
  rcases h.euclid hd with h1 | h1
  · left
    have:=Nat.eq_zero_of_dvd_of_lt h1 (by omega)
    omega
  · obtain ⟨k,hk⟩:=h1
    have:k=0∨k=1∨2≤k:=by omega
    rcases this with rfl | rfl | h2
    · left;omega
    · right;omega
    · have:=Nat.mul_le_mul_left P h2
      omega
 rcases Nat.le_total a R with h1 | h1
 · exact key R a hR ha h1 he
 · rcases key a R ha hR h1 he.symm with h2 | h2
   · left;exact h2.symm
   · right;omega
end Go.Proofs.YtmkllfekhehagafGreat
namespace Go.Proofs.YtmkllfekhehagafGreat
open Go.RowKit Go.Sort Go.Deep
theorem w8_be8 (x:Nat) (hx:x < 18446744073709551616) :
 w8 (UInt8.ofNat (x / 72057594037927936)) (UInt8.ofNat (x / 281474976710656)) (UInt8.ofNat (x / 1099511627776)) (UInt8.ofNat (x / 4294967296)) (UInt8.ofNat (x / 16777216)) (UInt8.ofNat (x / 65536)) (UInt8.ofNat (x / 256)) (UInt8.ofNat x)=x:=by
 unfold w8
 simp only [UInt8.toNat_ofNat']
 omega
theorem be32_list (a b c d:Nat):(be32 a b c d).toList=[UInt8.ofNat (d / 72057594037927936),UInt8.ofNat (d / 281474976710656),UInt8.ofNat (d / 1099511627776),UInt8.ofNat (d / 4294967296),UInt8.ofNat (d / 16777216),UInt8.ofNat (d / 65536),UInt8.ofNat (d / 256),UInt8.ofNat d,UInt8.ofNat (c / 72057594037927936),UInt8.ofNat (c / 281474976710656),UInt8.ofNat (c / 1099511627776),UInt8.ofNat (c / 4294967296),UInt8.ofNat (c / 16777216),UInt8.ofNat (c / 65536),UInt8.ofNat (c / 256),UInt8.ofNat c,UInt8.ofNat (b / 72057594037927936),UInt8.ofNat (b / 281474976710656),UInt8.ofNat (b / 1099511627776),UInt8.ofNat (b / 4294967296),UInt8.ofNat (b / 16777216),UInt8.ofNat (b / 65536),UInt8.ofNat (b / 256),UInt8.ofNat b,UInt8.ofNat (a / 72057594037927936),UInt8.ofNat (a / 281474976710656),UInt8.ofNat (a / 1099511627776),UInt8.ofNat (a / 4294967296),UInt8.ofNat (a / 16777216),UInt8.ofNat (a / 65536),UInt8.ofNat (a / 256),UInt8.ofNat a]:=by
 simp only [be32,be8,Array.toList_append,List.cons_append,List.nil_append]
theorem val_congr {a b c d p q r s:Nat} (h1:a=p) (h2:b=q) (h3:c=r) (h4:d=s):val a b c d=val p q r s:=by subst h1 h2 h3 h4;rfl
theorem beV_be32 (a b c d:Nat) (ha:a < 18446744073709551616) (hb:b < 18446744073709551616) (hc:c < 18446744073709551616) (hd:d < 18446744073709551616):beV (be32 a b c d).toList=val a b c d :=
 (congrArg beV (be32_list a b c d)).trans ((beV_32 _ _ _ _ _ _ _ _ _ _ _ _ _ _ _ _ _ _ _ _ _ _ _ _ _ _ _ _ _ _ _ _).trans (val_congr (w8_be8 a ha) (w8_be8 b hb) (w8_be8 c hc) (w8_be8 d hd)))
theorem bx_val {n:Nat} (hn:n < top):beV (bx n).toList=n:=by
 unfold bx
 rw [beV_be32 _ _ _ _ (by omega) (by omega) (by omega) (by omega)]
 unfold val
 unfold top at hn
 omega
variable {P:Nat} [NeZero P]
theorem rt_of (C:Fld P) {y m:Fin P} (h:y*y=m):rt m=some (if y.val % 2=1 then 0 - y else y):=by
 have hm:y.val*y.val % P=m.val:=by rw [← h,Fin.val_mul]
 have h1:=root_mod (a:=y.val) C.cur.pr C.p3
 rw [hm] at h1
 unfold rt
 rw [if_pos h1]
 have hP:=Nat.pos_of_neZero P
 have hr:m.val ^ (P / 4+1) % P < P:=Nat.mod_lt _ hP
 generalize m.val ^ (P / 4+1) % P=r at h1 hr
 have hy:=y.isLt
 have h3:=C.p3
 have hor:=root_is C.cur.pr hy hr (h1.trans hm.symm)
 congr 1
 apply Fin.ext
 show even P r % P=_
 unfold even
 have h0:(0 - y:Fin P).val=(P - y.val) % P:=by rw [← sub_fin,EC.val_zero,Nat.zero_add]
 by_cases ho:y.val % 2=1
 · rw [if_pos ho,h0]
   rcases hor with e | e
   · rw [e,if_pos ho]
   · rw [if_neg (by omega),show P - y.val=r by omega]
 · rw [if_neg ho]
   rcases hor with e | e
   · rw [e,if_neg ho,Nat.mod_eq_of_lt hy]
   · by_cases hz:y.val=0
     · omega
     · rw [if_pos (by omega),show P - r=y.val by omega,Nat.mod_eq_of_lt hy]
theorem ub_mark (n:Nat):ub (mark n)=if n % 2=1 then 3 else 2:=by
 unfold mark
 split <;> rfl
theorem tl_mark {m:UInt8} {b:Bs} (h:b.size=32):tl33 (#[m]++b)=b:=by
 unfold tl33
 rw [Array.extract_append]
 have h1:(#[m]:Bs).extract 1 33=#[]:=by rfl
 rw [h1]
 simp [h]
theorem mark_0 (m:UInt8) (b:Bs):(#[m]++b)[0]! = m:=by
 rw [getElem!_pos _ 0 (by rw [Array.size_append];simp;omega),Array.getElem_append_left (by simp)]
 rfl
theorem rd_of (C:Fld P) {b:Bs} (hs:b.size=33) {x y:Fin P} (hm:ub b[0]! = if y.val % 2=1 then 3 else 2) (hv:beV (tl33 b).toList=x.val) (h:EC.On (some (x,y):EC.Pt P)):rd P b=some (x,y):=by
 have hz:¬ Zero33 b:=fun hz=>by
  have:=hz 0 (List.mem_range.2 (by decide))
  rw [hm] at this
  split at this <;> omega
 have hx:rdx P b=x:=by
  unfold rdx
  rw [hv]
  exact Fin.ext (Nat.mod_eq_of_lt x.isLt)
 have hy:y*y=x*x*x+7:=by
  have:y ^ 2=x ^ 3+7:=h
  grobner
 unfold rd
 rw [if_pos hs,if_neg hz,hm,hv,if_pos x.isLt,hx,rt_of C hy]
 by_cases ho:y.val % 2=1
 · rw [if_pos ho,if_pos (Or.inr rfl),if_pos ho,Option.map_some,if_pos rfl]
   have e:0 - (0 - y)=y:=by grobner
   rw [e]
 · rw [if_neg ho,if_pos (Or.inl rfl),if_neg ho,Option.map_some,if_neg (by decide)]
theorem rd_wr (C:Fld P) {X:EC.Pt P} (h:EC.On X):∃ p,rd P (wr X)=some p∧pt p=X:=by
 match X,h with
 | none,_ =>
  refine ⟨(0,0),?_,by unfold pt;rw [if_pos ⟨rfl,rfl⟩]⟩
  have h1:(wr (none:EC.Pt P)).size=33:=wr_size _
  have h2:Zero33 (wr (none:EC.Pt P)):=(zero33_iff h1).2 rfl
  generalize wr (none:EC.Pt P)=b at h1 h2
  unfold rd
  rw [if_pos h1,if_pos h2]
 | some (x,y),h =>
  have hs:=wr_size (P:=P) (some (x,y))
  have hb0:(wr (some (x,y):EC.Pt P))[0]! = mark y.val:=mark_0 _ _
  have ht:tl33 (wr (some (x,y):EC.Pt P))=bx x.val:=tl_mark (bx_size _)
  refine ⟨(x,y),rd_of C hs (by rw [hb0,ub_mark]) (by rw [ht,bx_val (C.top x)]) h,by unfold pt;rw [if_neg (fun e=>C.cur.y_ne h e.2)]⟩
end Go.Proofs.YtmkllfekhehagafGreat
namespace Go.Proofs.YtmkllfekhehagafGreat
open Go.RowKit Go.Sort Go.Deep
variable {P:Nat} [NeZero P]
def gxl:List Value:=[.int .u64 6481385041966929816,.int .u64 188021827762530521,.int .u64 6170039885052185351,.int .u64 8772561819708210092]
def gyl:List Value:=[.int .u64 11261198710074299576,.int .u64 18237243440184513561,.int .u64 6747795201694173352,.int .u64 5204712524664259685]
def gX (P:Nat) [NeZero P]:Fin P:=Fin.ofNat P 55066263022277343669578718895168534326250603453777594175500187360389116729240
def gY (P:Nat) [NeZero P]:Fin P:=Fin.ofNat P 32670510020758816978083085130507043184471273380659243275938904335757337482424
def gG (P:Nat) [NeZero P]:EC.Pt P:=some (gX P,gY P)
theorem Fld.eq (C:Fld P):P=115792089237316195423570985008687907853269984665640564039457584007908834671663:=by
 have h:=C.gap.hP
 have e:val 4294968273 0 0 0=4294968273:=by decide
 rw [e] at h
 unfold Go.Proofs.YtmkllfekhehagafGreat.top at h
 omega
theorem gX_val (C:Fld P):(gX P).val=55066263022277343669578718895168534326250603453777594175500187360389116729240:=by
 have h:=C.eq
 exact Nat.mod_eq_of_lt (by omega)
theorem gY_val (C:Fld P):(gY P).val=32670510020758816978083085130507043184471273380659243275938904335757337482424:=by
 have h:=C.eq
 exact Nat.mod_eq_of_lt (by omega)
theorem gxl_ws (C:Fld P):gxl=ws (gX P):=by
 show _=wn (gX P).val
 rw [gX_val C]
 kernel_rfl
theorem gyl_ws (C:Fld P):gyl=ws (gY P):=by
 show _=wn (gY P).val
 rw [gY_val C]
 kernel_rfl
theorem gG_on (C:Fld P):EC.On (gG P):=by
 refine on_of (Fin.ext ?_)
 have h7:(7:Fin P).val=7:=Nat.mod_eq_of_lt C.p7
 rw [Fin.val_mul,Fin.val_add,Fin.val_mul,Fin.val_mul,gX_val C,gY_val C,h7]
 have h:=C.eq
 rw [h]
set_option maxHeartbeats 2000000 in
set_option maxRecDepth 100000 in
theorem base_v:Gives 82 #[] (.agg (gxl++gyl).toArray):=by
 intro w
 go_enter Tryz.func82,Tryz.ntmps82
 refine RG.M.enter [] 4 (by kernel_rfl) ?_
 intro a0 M0
 repeat refine wp_seq ?_
 refine M0.tx [.m 0 [] 0] [(0,RG.z 8)] [] [RG.z 8] [(0,.p 0 0)] (by kernel_rfl) (by kernel_rfl) ⟨RG.mk 0 139 fun _ _=>by kernel_rfl,trivial⟩ ?_
 intro j1 a1 w1 M1
 repeat refine wp_seq ?_
 refine M1.tx [.x 1 [] (.agg gxl.toArray),.x 2 [] (.agg gyl.toArray),.x 3 [(1,0),(2,1)] (.agg (gxl++gyl).toArray),.u [(3,2)] 0] [] [(0,3,gxl++gyl)] [gxl++gyl] [(0,.p 0 0)] (by kernel_rfl) (by kernel_rfl) ⟨RG.st fun _ _=>by kernel_rfl,RG.st fun _ _=>by kernel_rfl,RG.st fun _ _=>by kernel_rfl,RG.pt i109 (by kernel_rfl),trivial⟩ ?_
 intro a2 w2 M2
 refine wp_ret ?_
 refine bodyPost_ret (v:=.agg (gxl++gyl).toArray) (RG.results_row M2.st 0 139 rfl 0 _ rfl (M2.at (s:=.p 0 0) (by kernel_rfl)) u109 i109) M2.sl.defers ?_
 exact ⟨_,rfl,M2.st.bel.below,rfl⟩
theorem base_c (C:Fld P):Gives 82 #[] (pv (gX P) (gY P)):=by
 unfold pv
 rw [← gxl_ws C,← gyl_ws C]
 exact base_v
theorem gG_wr (C:Fld P):by33 (gX P) (gY P)=wr (gG P):=by33_wr C ⟨rfl,rfl⟩ (gG_on C)
set_option maxHeartbeats 1000000 in
theorem Base_c (C:Fld P) (w:World):Calls Tryz.prog 164 #[] w (Ret fun e w'=>Below w.heap.size w w'∧BytesR w (wr (gG P)) e w'):=by
 have HC:Hid (Fld P):=C
 clear C
 go_enter Tryz.func164,Tryz.ntmps164
 go_wp2_with fail
 refine (base_c HC.out _).mono ?_
 rintro e w1 ⟨v,rfl,hb1,rfl⟩
 go_wp2_with fail
 refine (bytes_c HC.out (gX P) (gY P) _).mono ?_
 rintro e w2 ⟨v,rfl,hb2,g,cap,rfl,h1,h2,h3,h4⟩
 rw [gG_wr HC.out] at h4
 have HB:Hid (Below w.heap.size w w2∧BytesR w (wr (gG P)) (.slice (some ⟨g,0,none⟩) 33 cap) w2):=⟨hb1.trans (hb2.mono hb1.size),g,cap,rfl,h1,Nat.le_trans hb1.size h2,h3,h4⟩
 clear hb1 hb2 h1 h2 h3 h4
 go_wp2
 go_ret
 exact ⟨_,rfl,HB.out⟩
end Go.Proofs.YtmkllfekhehagafGreat
namespace Go.Proofs.YtmkllfekhehagafGreat
open Go.RowKit Go.Sort Go.Deep Go.Shelf
attribute [local go_sem] Oper.semAt_some
section
variable {F:Fence} {n:Nat} {P:Program} {ops:Array Oper} {rest:List Oper} {op:Oper} {a:Act} {w:World} {Q:Exit→Act→World→Prop}
theorem wpListIn_load_mid (hgd:op.guard=none) (ty:TypeId) (x:Operand) (ho:op.op=.load ty x) (b o:Nat) (hx:a.eval x=.pointer (some ⟨b,o,none⟩)) (cs:List Value) (d:TypeDesc) (hc:w.rangeAt b o cs)
 (hu:P.underlying ty=some d) (hd:d.isRow=true) (hi:(P.info? ty).map (·.size)=some cs.length) (h:wpListIn F n P ops Q rest (a.put op.dst (.agg cs.toArray)) w):wpListIn F n P ops Q (op :: rest) a w :=
 wpListIn_plain hgd fun K hK=>by
  refine ⟨fun f hf=>(by unfold Oper.about at hf;rw [ho] at hf;cases hf),?_⟩
  rw [Oper.semAt_eq _ _ _ (fun c=>by rw [ho];intro e;cases e)]
  unfold execOp
  simp only [ho,hx,Instr.loadAt,Instr.sureAddr,Sem.run_bind,Sem.run_pure,Result.andThen_ok,run_loadVar_mid w b o ty cs d hc hu hd hi]
  exact hK _ _ h
theorem wpListIn_store_mid (hgd:op.guard=none) (ty:TypeId) (x y:Operand) (ho:op.op=.store ty x y) (b o:Nat) (cells:Array Value) (hx:a.eval x=.pointer (some ⟨b,o,none⟩)) (hy:a.eval y=.agg cells)
 (ht:w.there b o cells.size) (hi:(P.info? ty).map (·.size)=some cells.size) (h1:cells.all (·.oneCell')=true)
 (h:wpListIn F n P ops Q rest (a.put op.dst undef) (w.setCells b o cells.toList)):wpListIn F n P ops Q (op :: rest) a w :=
 wpListIn_plain hgd fun K hK=>by
  refine ⟨fun f hf=>(by unfold Oper.about at hf;rw [ho] at hf;cases hf),?_⟩
  rw [Oper.semAt_eq _ _ _ (fun c=>by rw [ho];intro e;cases e)]
  unfold execOp
  simp only [ho,hx,hy,Instr.storeAt,Instr.sureAddr,Sem.run_bind,Sem.run_pure,Result.andThen_ok,run_storeVar_mid w b o ty cells ht hi h1]
  exact hK _ _ h
end
def Row (W:World) (k:Nat) (vs:List Value):Prop:=k < W.heap.size∧W.rangeAt k 0 vs∧W.there k 0 vs.length
theorem row_own (k:Nat) (vs:List Value):Own (fun (_:Unit) W=>Row W k vs):=fun s A B row hs hg hr=>by
 refine ⟨Nat.lt_of_lt_of_le hs.1 hg.size,fun j v hj=>?_,fun j hj=>?_⟩
 · exact cell_kept (hs.2.1 j v hj) hg hr
 · have h1:=hs.2.1 j vs[j] (List.getElem?_eq_getElem hj)
   have h2:=cell_kept h1 hg hr
   exact ⟨by rw [h2];rfl,(frozen_kept h1 hg hr).trans (hs.2.2 j hj).2⟩
theorem ko_setCells (k:Nat):∀ (vs:List Value) (o:Nat) (W:World),KeepsOthers W (W.setCells k o vs)
 | [],_,W=>KeepsOthers.refl W
 | v :: vs,o,W=>(KeepsOthers.setCell W ⟨k,o,none⟩ v).trans (ko_setCells k vs (o+1) _)
theorem Row.alloc {W:World} {k:Nat} {vs:List Value} (h:Row W k vs) (o:Obj):Row (W.alloc o) k vs :=
 row_own k vs () W (W.alloc o) none h (World.grownBy_alloc W o none) (fun _ e=>by cases e)
theorem Row.putObj {W:World} {k D:Nat} {vs:List Value} (h:Row W k vs) {o:Obj} (hD:W.heap[D]? = some o) (ho:o.isCells=false) (o':Obj):Row (W.putObj D o') k vs :=
 row_own k vs () W (W.putObj D o') (some D) h (grownBy_putObj' W D o') (fun r e=>by cases e;exact ⟨_,hD,ho⟩)
theorem Row.below {W W':World} {k:Nat} {vs:List Value} (h:Row W k vs) (hb:Below W.heap.size W W'):Row W' k vs:=by
 have e:=hb.block k h.1
 refine ⟨Nat.lt_of_lt_of_le h.1 hb.size,fun j v hj=>?_,fun j hj=>?_⟩
 · exact (World.cell?_of_block e).trans (h.2.1 j v hj)
 · have h1:=h.2.2 j hj
   exact ⟨by rw [World.cell?_of_block e];exact h1.1,(World.frozen?_of_block e).trans h1.2⟩
theorem results_cell {P:Program} {fn:Func} {tmps:Array Value} {W:World} {k:Nat} {vs:List Value} (t:Tmp) (T:TypeId) (hr:fn.results=#[.cell t T]) (h:Row W k vs) (ht:tmps[t]? = some (.pointer (some ⟨k,0,none⟩)))
 (hu:(P.underlying T).map (·.isRow)=some true) (hi:(P.info? T).map (·.size)=some vs.length):(results fn tmps).run P W=.ok (.agg vs.toArray) W:=by
 obtain ⟨d,hu,hd⟩:=Option.map_eq_some_iff.1 hu
 have h1:=run_loadVar_mid (P:=P) W k 0 T vs d h.2.1 hu hd hi
 have h2:tmps.getD t undef=.pointer (some ⟨k,0,none⟩):=by rw [Array.getD_eq_getD_getElem?,ht];rfl
 unfold results
 rw [hr]
 simp only [Array.mapM_eq_mapM_toList,List.mapM_cons,List.mapM_nil,h2,asAddr]
 simp [Sem.run_bind,h1]
theorem Row.put {W:World} {k:Nat} {vs us:List Value} (h:Row W k vs) (hl:us.length=vs.length):Row (W.setCells k 0 us) k us :=
 ⟨by rw [RG.setCells_size];exact h.1,World.rangeAt_setCells_same W k 0 us (by rw [hl];exact h.2.2),by rw [hl];exact World.there_setCells h.2.2 _ _ _⟩
theorem Row.other {W:World} {k j:Nat} {vs us:List Value} (h:Row W k vs) (hne:k≠j):Row (W.setCells j 0 us) k vs :=
 ⟨by rw [RG.setCells_size];exact h.1,World.rangeAt_setCells_apart h.2.1 j 0 us (Or.inl hne),World.there_setCells h.2.2 _ _ _⟩
variable {P:Nat} [NeZero P]
set_option maxHeartbeats 4000000 in
set_option maxRecDepth 100000 in
theorem first_c (C:Fld P) (lb:Array Value) (L:List (Fin P × Fin P)) (N:Nat) (w:World)
 (hseq:∀ n,SeqStopsK Fence.wide n Tryz.prog 157 lb (fun x:Fin P × Fin P=>#[pv x.1 x.2]) (Below w.heap.size) (fun xs=>xs=L) (fun pre=>pre <+: L) N w) :
 Calls Tryz.prog 80 #[.func (.func 157) #[] lb] w (Ret fun e w'=>Below w.heap.size w w'∧e=pv (L.headD (gX P,gY P)).1 (L.headD (gX P,gY P)).2):=by
 refine (callsIn_wide (n:=5)).1 ?_
 refine callsIn_of_wp_marks Tryz.func80 rfl trivial ?_ rfl
 simp only [Tryz.ntmps80,List.size_toArray,List.length_cons,List.length_nil,Nat.reduceAdd,Nat.reduceSub,Array.replicate_succ,Array.replicate_zero,List.push_toArray,List.append_toArray,List.nil_append,List.cons_append]
 gi_wp2
 have hM:=RG.Made.alloc w [.int .u64 0,.int .u64 0,.int .u64 0,.int .u64 0,.int .u64 0,.int .u64 0,.int .u64 0,.int .u64 0] 139
 have hR0:Row (w.alloc (.cells #[.int .u64 0,.int .u64 0,.int .u64 0,.int .u64 0,.int .u64 0,.int .u64 0,.int .u64 0,.int .u64 0] 139)) w.heap.size [.int .u64 0,.int .u64 0,.int .u64 0,.int .u64 0,.int .u64 0,.int .u64 0,.int .u64 0,.int .u64 0]:=⟨hM.lt,hM.range,hM.there⟩
 have hB0:Below w.heap.size w (w.alloc (.cells #[.int .u64 0,.int .u64 0,.int .u64 0,.int .u64 0,.int .u64 0,.int .u64 0,.int .u64 0,.int .u64 0] 139)):=hM.bel
 clear hM
 obtain ⟨W0,hW0⟩:∃ W0,W0=w.alloc (.cells #[.int .u64 0,.int .u64 0,.int .u64 0,.int .u64 0,.int .u64 0,.int .u64 0,.int .u64 0,.int .u64 0] 139):=⟨_,rfl⟩
 have hsz:W0.heap.size=w.heap.size+1:=by rw [hW0,World.size_alloc]
 rw [← hW0] at hR0 hB0 ⊢
 clear hW0
 refine wpIn_rangeFunc_ownH (α:=Fin P × Fin P) rfl (by decide) (gf:=157) (lb:=lb) rfl trivial (enters_of Tryz.func157 (by kernel_rfl) rfl) (hseq 4) belowK_t (belowK_b (by omega)) hB0 (fun _=>rfl)
  (fun pre W=>(pre=[]∧Row W w.heap.size [.int .u64 0,.int .u64 0,.int .u64 0,.int .u64 0,.int .u64 0,.int .u64 0,.int .u64 0,.int .u64 0])∧Below w.heap.size w W)
  (fun c pre W=>(c=.ret∧∃ x:Fin P × Fin P,pre=[x]∧Row W w.heap.size (ws x.1++ws x.2))∧Below w.heap.size w W)
  (OwnFrom.and (Own.from (fun s A B row hs hg hr=>⟨hs.1,row_own _ _ () A B row hs.2 hg hr⟩) _) (ownFrom_below (Nat.le_refl _) (by omega)))
  (fun c=>OwnFrom.and (Own.from (fun s A B row hs hg hr=>⟨hs.1,hs.2.imp fun x hx=>⟨hx.1,row_own _ _ () A B row hx.2 hg hr⟩⟩) _) (ownFrom_below (Nat.le_refl _) (by omega)))
  ⟨⟨rfl,hR0⟩,hB0⟩
  (fun x a' W=>∃ Bx,w.heap.size < Bx∧Row W Bx (ws x.1++ws x.2)∧a' = { tmps:=#[.func (.func 157) #[] lb,undef,.pointer (some ⟨w.heap.size,0,none⟩),.pointer (some ⟨Bx,0,none⟩),.func (.func 157) #[] lb,pv x.1 x.2,undef,undef],defers:=[] })
  (fun x a'=>Own.from (fun s A B row hs hg hr=>hs.imp fun Bx hx=>⟨hx.1,row_own _ _ () A B row hx.2.1 hg hr,hx.2.2⟩) _) ?assign ?body ?done ?stop
 case assign =>
  intro l pre x W K hI hK
  have hMx:=RG.Made.alloc W [.int .u64 0,.int .u64 0,.int .u64 0,.int .u64 0,.int .u64 0,.int .u64 0,.int .u64 0,.int .u64 0] 139
  have hth:=hMx.there
  gi_wp2_with (refine wpListIn_store_mid rfl 139 _ _ rfl W.heap.size 0 (ws x.1++ws x.2).toArray rfl rfl hth i109 (by kernel_rfl) ?_)
  have hle:=hI.1.2.1
  have hbl:Below w.heap.size W ((W.alloc (.cells #[.int .u64 0,.int .u64 0,.int .u64 0,.int .u64 0,.int .u64 0,.int .u64 0,.int .u64 0,.int .u64 0] 139)).setCells W.heap.size 0 (ws x.1++ws x.2)) :=
   RG.below_setCells (Nat.le_of_lt hle) _ _ _ ((Below.refl _ W).alloc (Nat.le_of_lt hle) _)
  exact hK _ _ (((KeepsOthers.alloc W _).trans (ko_setCells _ _ _ _)).from _) hbl ⟨⟨hI.1.1,(hI.1.2.alloc _).other (Nat.ne_of_lt hle)⟩,hI.2.trans hbl⟩
   ⟨W.heap.size,hle,Row.put (vs:=[.int .u64 0,.int .u64 0,.int .u64 0,.int .u64 0,.int .u64 0,.int .u64 0,.int .u64 0,.int .u64 0]) ⟨hMx.lt,hMx.range,hMx.there⟩ rfl,rfl⟩
 case body =>
  rintro l pre x a' W hl ⟨r,hr⟩ ⟨⟨rfl,hRow⟩,hB⟩ ⟨Bx,hBx,hX,rfl⟩ hlt
  obtain ⟨d,hd1,hd2⟩:=Option.map_eq_some_iff.1 u109
  have hXr:=hX.2.1
  have hth:=hRow.2.2
  gi_wp2_with (first | refine wpListIn_load_mid rfl 139 _ rfl Bx 0 rfl (ws x.1++ws x.2) d hXr hd1 hd2 i109 ?_ | refine wpListIn_store_mid rfl 139 _ _ rfl w.heap.size 0 (ws x.1++ws x.2).toArray rfl rfl hth i109 (by kernel_rfl) ?_)
  exact ⟨(ko_setCells _ _ _ _).from _,⟨rfl,x,rfl,hRow.put rfl⟩,RG.below_setCells (Nat.le_refl _) _ _ _ hB⟩
 case done =>
  rintro D ys W hD rfl ⟨⟨rfl,hRow⟩,hB⟩ hK
  have hth:=hRow.2.2
  gi_wp2_with fail
  refine ⟨trivial,(callsIn_wide.2 (base_c C _)).mono ?_⟩
  rintro e w2 ⟨v,rfl,hb2,rfl⟩
  have hRow2:Row w2 w.heap.size [.int .u64 0,.int .u64 0,.int .u64 0,.int .u64 0,.int .u64 0,.int .u64 0,.int .u64 0,.int .u64 0]:=hRow.below hb2
  have hth2:=hRow2.2.2
  gi_wp2_with (refine wpListIn_store_mid rfl 139 _ _ rfl w.heap.size 0 (ws (gX P)++ws (gY P)).toArray rfl rfl hth2 i109 (by kernel_rfl) ?_)
  have hK2:(w2.setCells w.heap.size 0 (ws (gX P)++ws (gY P))).heap[D]? = some (.deferred (some [])):=by
   rw [RG.setCells_other _ _ _ _ _ (by omega),hb2.block D (Array.getElem?_eq_some_iff.1 hK).1]
   exact hK
  have hB2:Below w.heap.size w (w2.setCells w.heap.size 0 (ws (gX P)++ws (gY P))):=RG.below_setCells (Nat.le_refl _) _ _ _ (hB.trans (hb2.mono hB.size))
  have hRow3:Row (w2.setCells w.heap.size 0 (ws (gX P)++ws (gY P))) w.heap.size (ws (gX P)++ws (gY P)):=hRow2.put rfl
  refine ⟨by simp,.inl ⟨_,_,rfl,run_takeDeferred hK2,?_⟩⟩
  exact ⟨_,results_cell 2 139 rfl (hRow3.putObj hK2 rfl _) rfl u109 i109,_,rfl,hB2.trans (belowK_b (w:=W0) (by omega) _ D _ _ hD hK2 rfl rfl),rfl⟩
 case stop =>
  rintro D c pre W hD hpre ⟨⟨rfl,x,rfl,hRow⟩,hB⟩ hK
  gi_wp2
  obtain ⟨L',hL⟩:=hpre
  have hL2:L=x :: L':=hL.symm
  rw [hL2]
  refine ⟨by simp,.inl ⟨_,_,rfl,run_takeDeferred hK,?_⟩⟩
  exact ⟨_,results_cell 2 139 rfl (hRow.putObj hK rfl _) rfl u109 i109,_,rfl,hB.trans (belowK_b (w:=W0) (by omega) _ D _ _ hD hK rfl rfl),rfl⟩
end Go.Proofs.YtmkllfekhehagafGreat
namespace Go.Proofs.YtmkllfekhehagafGreat
open Go.RowKit Go.Sort Go.Deep
end Go.Proofs.YtmkllfekhehagafGreat
namespace Go.Proofs.YtmkllfekhehagafGreat
open Go.RowKit Go.Sort Go.Deep
variable {N:Nat}
def sPl (N a b:Nat):Nat:=(a+b) % N
theorem sPlus_c (O:Ord N) {a b:Nat} (ha:a < N) (hb:b < N):Gives 200 #[gv1,nv a,nv b] (nv (sPl N a b)):=fun w =>
 (Plus_any _ _ _ N _ _ a b O.gap (O.four ha) (O.four hb) ha hb w).mono (by rintro e w' ⟨v,rfl,hb,hF⟩;exact ⟨_,rfl,hb,hF.nv⟩)
def FSP_0:List RG.It:=[.m 2 [] 0,.m 3 [] 1,.m 4 [] 2]
def FSP_1 (N a b:Nat):List RG.It:=[.c 5 [] gv1,.s 6 [] (.p 0 0),.x 7 [(6,1)] (nv a),.s 8 [] (.p 1 0),.x 9 [(8,3)] (nv b),.c 10 [(5,0),(7,2),(9,4)] (nv (sPl N a b)),.x 11 [(10,5)] (nv (sPl N a b)),.u [(11,6)] 2]
set_option maxHeartbeats 2000000 in
set_option maxRecDepth 100000 in
theorem sPlu_c (O:Ord N) (a b:Nat) (ha:a < N) (hb:b < N):Gives 131 #[(nv a),(nv b)] (nv (sPl N a b)):=by
 intro w
 go_enter Tryz.func131,Tryz.ntmps131
 refine RG.M.enter [(0,(.v (nv a))),(1,(.v (nv b)))] 12 (by kernel_rfl) ?_
 intro a0 M0
 repeat refine wp_seq ?_
 refine M0.tx FSP_0 [(0,(wn a)),(1,(wn b)),(2,(RG.z 4))] [] [(wn a),(wn b),(RG.z 4)] [(2,(.p 0 0)),(3,(.p 1 0)),(4,(.p 2 0))] (by kernel_rfl) (by kernel_rfl) ⟨RG.mk 0 72 fun _ _=>by kernel_rfl,RG.mk 1 72 fun _ _=>by kernel_rfl,RG.mk 2 72 fun _ _=>by kernel_rfl,trivial⟩ ?_
 intro j1 i1 m1 a1 w1 M1
 repeat refine wp_seq ?_
 refine M1.dr (by kernel_rfl) (FSP_1 N a b) [] [(2,7,(wn (sPl N a b)))] [(wn a),(wn b),(wn (sPl N a b))] [(4,(.p 2 0))] (by kernel_rfl) (by kernel_rfl) ⟨RG.cl (Scalars_c) fun _ _=>by kernel_rfl,RG.st fun _ _=>by kernel_rfl,RG.ld u38 i38 (by kernel_rfl),RG.st fun _ _=>by kernel_rfl,RG.ld u38 i38 (by kernel_rfl),RG.cl (sPlus_c O ha hb) fun _ _=>by kernel_rfl,RG.st fun _ _=>by kernel_rfl,RG.pt i40 (by kernel_rfl),trivial⟩ ?_
 intro a2 w2 M2
 refine wp_ret ?_
 refine bodyPost_ret (v:=(nv (sPl N a b))) (RG.results_row M2.st 4 72 rfl 2 _ rfl (M2.at (s:=(.p 2 0)) (by kernel_rfl)) u40 i40) M2.sl.defers ?_
 exact ⟨_,rfl,M2.st.bel.below,rfl⟩
theorem row_new (w:World) (c:List Value) (T:TypeId):Row (w.alloc (.cells c.toArray T)) w.heap.size c :=
 have h:=RG.Made.alloc w c T
 ⟨h.lt,h.range,h.there⟩
theorem wn_one (n:Nat):(wn n).toArray.all (·.oneCell')=true:=by kernel_rfl
end Go.Proofs.YtmkllfekhehagafGreat
namespace Go.Proofs.YtmkllfekhehagafGreat
open Go.RowKit Go.Sort Go.Deep
section
variable {P:Program} {ops:Array Oper} {rest:List Oper} {op:Oper} {a:Act} {w w':World} {v:Value} {Q:Exit→Act→World→Prop}
theorem wpList_op (hgd:op.guard=none) (X:Op) (_:op.op=X) (hr:(execOp a.eval op).run P w=.ok (.value v) w') (h:wpList P ops Q rest (a.put op.dst v) w'):wpList P ops Q (op :: rest) a w :=
 wpList_plain hgd fun K hK=>by
  unfold Oper.wp
  rw [hr]
  exact hK _ _ h
end
variable {N:Nat}
theorem Hid.mk' {p:Prop} (h:p):Hid p:=h
end Go.Proofs.YtmkllfekhehagafGreat
namespace Go.Proofs.YtmkllfekhehagafGreat.SP
open Go.RowKit Go.Sort Go.Deep
attribute [local go_sem] bits_xor64 bits_and64 bits_or64 wrap_u
theorem place_any (a b:Int) (n:Nat) (w:World) (ha:0≤a∧a≤1000) (hb:0≤b∧b≤1000) (h:a % 5+5*(b % 5)=(n:Int)) :
 Calls Tryz.prog 271 #[.int .i64 a,.int .i64 b] w fun e w'=>e=.returned (.int .i64 (n:Int))∧w'=w:=by
 obtain ⟨a1,a2⟩:=ha
 obtain ⟨b1,b2⟩:=hb
 rw [← h]
 clear h
 go_enter Tryz.func271,Tryz.ntmps271
 go_wp2
 go_ret
 exact ⟨rfl,rfl⟩
theorem left_any (x:BitVec 64) (k:Nat) (w:World) (hk:k < 64) :
 Calls Tryz.prog 272 #[.int .u64 (u x),.int .i64 (k:Int)] w fun e w'=>e=.returned (.int .u64 (u (rol x k)))∧∃ n,w'=w.drewN n:=by
 have h1:(0:Int)≤64 - (k:Int):=by omega
 have h2:(64:Int) - (k:Int)≤64:=by omega
 have h3:(k:Int)≤64:=by omega
 have h4:IntKind.i64.wrap (64 - (k:Int))=64 - (k:Int):=IntWalk.i64_in _ (by omega)
 have h5:((64:Int) - (k:Int)).toNat=64 - k:=by omega
 have s1:=shl64 x k
 have s2:=shr64 x (64 - k)
 go_enter Tryz.func272,Tryz.ntmps272
 go_wp2
 go_quiet (fail)
 go_wp2
 go_ret
 refine ⟨ret_int ?_,_,rfl⟩
 rfl
set_option maxHeartbeats 1000000 in
theorem bit_any (t:Nat) (w:World) (ht:t≤1000) :
 Calls Tryz.prog 273 #[.int .i64 (t:Int)] w fun e w'=>e=.returned (.int .u64 (u (bitL t)))∧w'=w:=by
 go_enter Tryz.func273,Tryz.ntmps273
 go_wp2
 go_loop [3,4] (fun s3 s4=>∃ (i q:Nat),i≤t∧s4=.int .i64 i∧s3=.int .i64 q∧q < 256∧Hid (regTo i=q)) (fun _ s4=>t - (intOf s4).toNat)
 case atStart=>exact ⟨0,1,by omega,rfl,rfl,by decide,rfl⟩
 case round =>
  obtain ⟨i,q,hi,rfl,rfl,hq,HE⟩:=hrel
  by_cases hlt:i < t
  · have a2:=rc_xor q hq
    rw [Int.mul_comm] at a2
    have hlt2:=rcReg_lt q hq
    have HC:Hid (regTo (i+1)=rcReg q):=by show rcReg (regTo i)=_;rw [HE.out]
    by_cases h255:255 < 2*q
    · have HR:Hid (rcReg q=2*q ^^^ 369):=if_pos h255
      rw [HR.out] at hlt2
      generalize 2*q ^^^ 369=q2 at *
      go_wp2
      go_round
      case rel=>exact ⟨i+1,q2,by omega,by go_num,rfl,hlt2,by rw [HC.out,HR.out];rfl⟩
      case measure=>simp [intOf];omega
    · have HR:Hid (rcReg q=2*q):=if_neg h255
      go_wp2
      go_round
      case rel=>exact ⟨i+1,2*q,by omega,by go_num,by go_num,by omega,by rw [HC.out,HR.out];rfl⟩
      case measure=>simp [intOf];omega
  · have a1:=rc_and q hq
    have hit:i=t:=by omega
    subst hit
    go_wp2
    go_ret
    unfold bitL
    rw [HE.out]
    exact ⟨rfl,rfl⟩
end Go.Proofs.YtmkllfekhehagafGreat.SP
namespace Go.Proofs.YtmkllfekhehagafGreat.SP
open Go.RowKit Go.Sort Go.Deep
attribute [local go_sem] bits_xor64 bits_and64 bits_or64 wrap_u
theorem place_uint (j:Nat) (hj:j < 7):min (IntKind.u64.wrap (IntKind.u64.wrap ((2:Int) ^ j) - 1)).toNat 64=2 ^ j - 1:=by
 have H:∀ j:Fin 7,min (IntKind.u64.wrap (IntKind.u64.wrap ((2:Int) ^ j.val) - 1)).toNat 64=2 ^ j.val - 1:=by decide +kernel
 exact H ⟨j,hj⟩
set_option maxHeartbeats 1000000 in
theorem constant_any (r:Nat) (w:World) (hr:r < 24) :
 Calls Tryz.prog 263 #[.int .i64 (r:Int)] w fun e w'=>e=.returned (.int .u64 (u (conL r)))∧w'=w:=by
 go_enter Tryz.func263,Tryz.ntmps263
 go_wp2
 go_loop [3,4] (fun s3 s4=>∃ (j:Nat) (c:BitVec 64),j≤7∧s4=.int .i64 j∧s3=.int .u64 (u c)∧Hid (conTo r j=c)) (fun _ s4=>7 - (intOf s4).toNat)
 case atStart=>exact ⟨0,0,by omega,rfl,rfl,rfl⟩
 case round =>
  obtain ⟨j,c,hj,rfl,rfl,HE⟩:=hrel
  by_cases hlt:j < 7
  · have hj6:(j:Int)≤6:=by omega
    go_wp2_with fail
    rw [show (j:Int)+7*(r:Int)=((j+7*r:Nat):Int) from by omega]
    refine (bit_any (j+7*r) _ (by omega)).mono ?_
    rintro e w' ⟨rfl,rfl⟩
    go_wp2
    go_round
    case rel =>
     refine ⟨j+1,conTo r (j+1),by omega,by go_num,?_,rfl⟩
     rw [place_uint j hlt,shl64,bits_or64]
     show _=Value.int .u64 (u (conTo r j ||| bitL (j+7*r) <<< (2 ^ j - 1)))
     rw [HE.out]
    case measure=>simp [intOf];omega
  · have hj6:¬ (j:Int)≤6:=by omega
    have hj7:j=7:=by omega
    subst hj7
    go_wp2
    go_ret
    unfold conL
    rw [HE.out]
    exact ⟨rfl,rfl⟩
theorem slice62:Tryz.prog.underlying 324=some (.slice 3):=by kernel_rfl
theorem info3:(Tryz.prog.info? 3).map (fun i=>(i.zero,i.size,i.bytes))=some (some (.int .i64 0),1,8):=by kernel_rfl
theorem at_int {w:World} {b off:Nat} {d:Array Nat} (h:Holds encI w b off d) (i:Nat) (hi:i < d.size) {x:Nat} (hx:d[i]! = x) :
 w.cell? ⟨b,off+i,none⟩=some (.int .i64 (x:Int))∧w.frozen? ⟨b,off+i,none⟩=false:=by
 rw [← hx];exact h i hi
theorem offs_int' (t:Nat) (h:t < 24):(wrap64 ((wrap64 (((t:Int)+1)*((t:Int)+2))).tdiv 2)).tmod 64=(offs t:Int):=by
 have H:∀ j:Fin 24,(wrap64 ((wrap64 (((j.val:Int)+1)*((j.val:Int)+2))).tdiv 2)).tmod 64=(offs j.val:Int):=by decide +kernel
 exact H ⟨t,h⟩
set_option maxHeartbeats 1000000 in
set_option maxRecDepth 100000 in
theorem offsets_any (w:World) :
 Calls Tryz.prog 261 #[] w fun e w'=>e=.returned (.slice (some ⟨w.heap.size,0,none⟩) 25 25)∧Below w.heap.size w w'∧Holds encI w' w.heap.size 0 offsetsL:=by
 have hmk:∀ w:World,(Instr.makeSlice 324 (.int .i64 25) (.int .i64 25)).run Tryz.prog w=.ok (.slice (some ⟨w.heap.size,0,none⟩) 25 25) (w.alloc (.cells (madeCells #[.int .i64 0] 25) 3)) :=
  run_make_row' (P:=Tryz.prog) 324 3 (.int .i64 0) 8 slice62 info3 rfl .i64 .i64 25 (by omega) (by omega)
 go_enter Tryz.func261,Tryz.ntmps261
 go_wp2
 generalize hW1:(w.alloc _)=W1
 go_loopg [2,3,4] 24 (fun g sx sy st wr=>∃ t T,t+g=24∧st=.int .i64 (t:Nat)∧sx=.int .i64 (T.x:Nat)∧sy=.int .i64 (T.y:Nat)∧Holds encI wr w.heap.size 0 T.o∧Only w.heap.size 0 25 W1 wr∧Hid (T=ofTo t))
 case atStart =>
  refine ⟨0,ofTo 0,rfl,rfl,rfl,rfl,?_,Only.refl _ _ _ _,rfl⟩
  rw [← hW1]
  exact Holds.made (enc:=encI) w 3 25 0
 case round =>
  obtain ⟨t,⟨x,y,o⟩,ht,rfl,rfl,rfl,hD,hO,HE⟩:=hrel
  have hok:=ofTo_ok t
  rw [← HE.out] at hok
  obtain ⟨hx,hy,hs⟩:=hok
  dsimp only at hx hy hs hD
  by_cases hlt:t < 24
  · obtain ⟨i,hi⟩:∃ i,x % 5+5*(y % 5)=i:=⟨_,rfl⟩
    have hib:i < 25:=by omega
    obtain ⟨c,f⟩:=hD i (by omega)
    rw [Nat.zero_add] at c f
    have Hi:Hid (x % 5+5*(y % 5)=i):=hi
    have l24:(t:Int) < 24:=by omega
    clear hi
    go_wp2_with fail
    refine (place_any (x:Int) (y:Int) i _ (by omega) (by omega) (by have:=Hi.out;omega)).mono ?_
    rintro e w' ⟨rfl,rfl⟩
    have hoff:=offs_int' t hlt
    have i25:(i:Int) < 25:=by omega
    go_wp2
    go_roundg (gk - 1)
    case measure=>omega
    case rel =>
     refine ⟨t+1,⟨y,(2*x+3*y) % 5,o.setIfInBounds i (offs t)⟩,by omega,by go_num,rfl,by go_num,?_,?_,?_⟩
     · have:=Holds.set hD (i:=i) (by omega) (offs t)
       rw [Nat.zero_add] at this
       exact this
     · exact hO.setCell (o:=i) (by omega) (by omega) _
     · show _=(Of.mk (ofTo t).y ((2*(ofTo t).x+3*(ofTo t).y) % 5) ((ofTo t).o.setIfInBounds ((ofTo t).x % 5+5*((ofTo t).y % 5)) (offs t)))
       rw [← HE.out]
       dsimp only
       rw [Hi.out]
  · have ht24:t=24:=by omega
    subst ht24
    go_wp2
    go_ret
    refine ⟨rfl,?_,?_⟩
    · rw [← hW1] at hO
      exact hO.fresh
    · unfold offsetsL
      rw [← HE.out]
      exact hD
end Go.Proofs.YtmkllfekhehagafGreat.SP
namespace Go.Proofs.YtmkllfekhehagafGreat.SP
open Go.RowKit Go.Sort Go.Deep
attribute [local go_sem] bits_xor64 bits_and64 bits_or64 bits_not64 wrap_u
theorem slice61:Tryz.prog.underlying 323=some (.slice 31):=by kernel_rfl
theorem info56:(Tryz.prog.info? 31).map (fun i=>(i.zero,i.size,i.bytes))=some (some (.int .u64 0),1,8):=by kernel_rfl
set_option maxHeartbeats 2000000 in
set_option maxRecDepth 100000 in
theorem round_any (ab tb:Nat) (a:St) (tn:Array Nat) (c:BitVec 64) (w:World) (ha:a.size=25) (ht:tn.size=25) (hA:Holds enc w ab 0 a) (hT:Holds encI w tb 0 tn) (h64:∀ i,i < 25→tn[i]! < 64) :
 Calls Tryz.prog 262 #[.slice (some ⟨ab,0,none⟩) 25 25,.slice (some ⟨tb,0,none⟩) 25 25,.int .u64 (u c)] w fun e w'=>∃ r,e=.returned (.slice (some ⟨r,0,none⟩) 25 25)∧w.heap.size≤r∧Below w.heap.size w w'∧Holds enc w' r 0 (refRound a tn c):=by
 have hab:=Holds.lt hA (by omega)
 have htb:=Holds.lt hT (by omega)
 have hmk5:∀ w:World,(Instr.makeSlice 323 (.int .i64 5) (.int .i64 5)).run Tryz.prog w=.ok (.slice (some ⟨w.heap.size,0,none⟩) 5 5) (w.alloc (.cells (madeCells #[.int .u64 0] 5) 31)) :=
  run_make_row' (P:=Tryz.prog) 323 31 (.int .u64 0) 8 slice61 info56 rfl .i64 .i64 5 (by omega) (by omega)
 have hmk25:∀ w:World,(Instr.makeSlice 323 (.int .i64 25) (.int .i64 25)).run Tryz.prog w=.ok (.slice (some ⟨w.heap.size,0,none⟩) 25 25) (w.alloc (.cells (madeCells #[.int .u64 0] 25) 31)) :=
  run_make_row' (P:=Tryz.prog) 323 31 (.int .u64 0) 8 slice61 info56 rfl .i64 .i64 25 (by omega) (by omega)
 have HM25:Hid _:=hmk25
 clear hmk25
 go_enter Tryz.func262,Tryz.ntmps262
 go_wp2
 clear hmk5
 have hC1:Holds enc (w.alloc (.cells (madeCells #[.int .u64 0] 5) 31)) w.heap.size 0 (colTo a 0):=Holds.made (enc:=enc) w 31 5 0
 have hb1:Below w.heap.size w (w.alloc (.cells (madeCells #[.int .u64 0] 5) 31)):=(Below.refl _ _).alloc (Nat.le_refl _) _
 generalize hW1:(w.alloc _)=W1 at hC1 hb1 ⊢
 have hs1:w.heap.size < W1.heap.size:=by rw [← hW1];simp
 have hA1:=Holds.below hA hb1 hab
 have hT1:=Holds.below hT hb1 htb
 clear hW1
 go_loopg [8] 5 (fun g s8 wr=>∃ (x:Nat) (ck:St),x+g=5∧s8=.int .i64 x∧Holds enc wr w.heap.size 0 ck∧Only w.heap.size 0 5 W1 wr∧Hid (ck=colTo a x))
 case atStart=>exact ⟨0,_,rfl,rfl,hC1,Only.refl _ _ _ _,rfl⟩
 case round =>
  obtain ⟨x,ck,hx,rfl,hC,hO,HE⟩:=hrel
  have hcs:ck.size=5:=by rw [HE.out,colTo_size]
  by_cases hlt:x < 5
  · have l5:(x:Int) < 5:=by omega
    go_wp2
    go_loopg [9] 5 (fun g s9 wq=>∃ (y:Nat) (cy:St),y+g=5∧s9=.int .i64 y∧Holds enc wq w.heap.size 0 cy∧Only w.heap.size 0 5 W1 wq∧Hid (cy=colIn a x ck y))
    case atStart=>exact ⟨0,ck,rfl,rfl,hC,hO,rfl⟩
    case round =>
     obtain ⟨y,cy,hy,rfl,hCy,hOy,HEy⟩:=hrel
     have hcys:cy.size=5:=by rw [HEy.out,colIn_size,hcs]
     by_cases hlty:y < 5
     · have hAy:=Holds.other hA1 hOy (by omega) (by omega)
       obtain ⟨z,hz⟩:∃ z,a[x+5*y]! = z:=⟨_,rfl⟩
       obtain ⟨v,hv⟩:∃ z,cy[x]! = z:=⟨_,rfl⟩
       obtain ⟨c0,f0⟩:=at_word hAy (x+5*y) (by omega) hz
       obtain ⟨c1,f1⟩:=at_word hCy x (by omega) hv
       rw [Nat.zero_add] at c0 c1 f1
       have HZ:Hid (a[x+5*y]! = z):=hz
       have HV:Hid (cy[x]! = v):=hv
       obtain ⟨i,hi⟩:∃ i,x+5*y=i:=⟨_,rfl⟩
       rw [hi] at c0
       have Hi:Hid (x+5*y=i):=hi
       have i25:i < 25:=by omega
       have i25':(i:Int) < 25:=by omega
       have y5:(y:Int) < 5:=by omega
       clear hz hv hi f0
       go_wp2_with fail
       refine wp_region_still_tail 14 mixed (by kernel_rfl) ?_
       simp only [List.take_succ_cons,List.take_zero,List.drop_succ_cons,List.drop_zero]
       repeat still_step
       still_call (place_any (x:Int) (y:Int) i _ (by omega) (by omega) (by have:=Hi.out;omega))
       repeat still_step
       refine wpStill_nil ?_
       go_wp2
       go_roundg (gk - 1)
       case measure=>omega
       case rel =>
        refine ⟨y+1,xorAt cy x z,by omega,by go_num,?_,?_,?_⟩
        · have:=Holds.xor hCy (i:=x) (by omega) HV.out z
          rw [Nat.zero_add] at this
          exact Holds.drew this
        · exact (hOy.setCell (o:=x) (by omega) (by omega) _).drew
        · show _=xorAt (colIn a x ck y) x a[x+5*y]!
          rw [HZ.out,HEy.out]
     · have hy5:y=5:=by omega
       subst hy5
       go_wp2
       go_roundg (4 - x)
       case measure=>omega
       case rel =>
        refine ⟨x+1,cy,by omega,by go_num,hCy,hOy,?_⟩
        show _=colIn a x (colTo a x) 5
        rw [HEy.out,HE.out]
  · have hx5:x=5:=by omega
    subst hx5
    have hb2:Below w.heap.size w wr:=hb1.trans (hO.below (by omega) (Nat.le_refl _))
    have hs2:w.heap.size < wr.heap.size:=Nat.lt_of_lt_of_le hs1 hO.size
    clear hlt hx hC1 hb1 hs1 hA1 hT1 hO
    have hmk:=HM25.out
    go_wp2
    clear hmk
    have hM3:Holds enc (wr.alloc (.cells (madeCells #[.int .u64 0] 25) 31)) wr.heap.size 0 (movTo a tn ck 0):=Holds.made (enc:=enc) wr 31 25 0
    have hb3':Below wr.heap.size wr (wr.alloc (.cells (madeCells #[.int .u64 0] 25) 31)):=(Below.refl _ _).alloc (Nat.le_refl _) _
    generalize hW3:(wr.alloc _)=W3 at hM3 hb3' ⊢
    have hs3:wr.heap.size < W3.heap.size:=by rw [← hW3];simp
    have hC3:=Holds.below hC hb3' hs2
    have hb3:=hb2.trans (hb3'.mono (by omega))
    have hA3:=Holds.below hA hb3 hab
    have hT3:=Holds.below hT hb3 htb
    clear hW3 hb3' hb2 hC
    generalize hMB:wr.heap.size=MB at *
    go_loopg [11] 5 (fun g s11 wr=>∃ (x:Nat) (mk:St),x+g=5∧s11=.int .i64 x∧Holds enc wr MB 0 mk∧Only MB 0 25 W3 wr∧Hid (mk=movTo a tn ck x))
    case atStart=>exact ⟨0,_,rfl,rfl,hM3,Only.refl _ _ _ _,rfl⟩
    case round =>
     obtain ⟨x,mk,hx,rfl,hM,hO,HEx⟩:=hrel
     have hms:mk.size=25:=by rw [HEx.out,movTo_size]
     by_cases hlt:x < 5
     · have hCw:=Holds.other hC3 hO (by omega) (by omega)
       obtain ⟨y0,hy0⟩:∃ z,ck[(x+4) % 5]! = z:=⟨_,rfl⟩
       obtain ⟨y1,hy1⟩:∃ z,ck[(x+1) % 5]! = z:=⟨_,rfl⟩
       obtain ⟨c0,f0⟩:=at_word hCw ((x+4) % 5) (by omega) hy0
       obtain ⟨c1,f1⟩:=at_word hCw ((x+1) % 5) (by omega) hy1
       rw [Nat.zero_add] at c0 c1
       have HD:Hid (dcol ck x=y0 ^^^ rol y1 1):=by rw [← hy0,← hy1];rfl
       clear hy0 hy1 f0 f1
       have l5:(x:Int) < 5:=by omega
       have q1:0≤((x:Int)+4) % 5:=by omega
       have q2:((x:Int)+4) % 5 < 5:=by omega
       have q3:(((x:Int)+4) % 5).toNat=(x+4) % 5:=by omega
       have q4:0≤((x:Int)+1) % 5:=by omega
       have q5:((x:Int)+1) % 5 < 5:=by omega
       have q6:(((x:Int)+1) % 5).toNat=(x+1) % 5:=by omega
       go_wp2_with fail
       go_quiet ((go_at_call 272;exact Calls.quiet_of (left_any _ 1 _ (by decide))))
       clear c0 c1 q1 q2 q3 q4 q5 q6
       go_wp2
       have hM1:=Holds.drewN hM nq
       have hO1:=hO.drewN nq
       generalize y0 ^^^ rol y1 1=dv at *
       go_loopg [13] 5 (fun g s13 wq=>∃ (y:Nat) (my:St),y+g=5∧s13=.int .i64 y∧Holds enc wq MB 0 my∧Only MB 0 25 W3 wq∧Hid (my=movIn a tn x dv mk y))
       case atStart=>exact ⟨0,mk,rfl,rfl,hM1,hO1,rfl⟩
       case round =>
        obtain ⟨y,my,hy,rfl,hMy,hOy,HEy⟩:=hrel
        have hmys:my.size=25:=by rw [HEy.out,movIn_size,hms]
        by_cases hlty:y < 5
        · have hAy:=Holds.other hA3 hOy (by omega) (by omega)
          have hTy:=Holds.other hT3 hOy (by omega) (by omega)
          obtain ⟨z,hz⟩:∃ z,a[x+5*y]! = z:=⟨_,rfl⟩
          obtain ⟨tv,htv⟩:∃ z,tn[x+5*y]! = z:=⟨_,rfl⟩
          obtain ⟨c0,f0⟩:=at_word hAy (x+5*y) (by omega) hz
          obtain ⟨c1,f1⟩:=at_int hTy (x+5*y) (by omega) htv
          have t64:tv < 64:=by rw [← htv];exact h64 _ (by omega)
          obtain ⟨i,hi⟩:∃ i,x+5*y=i:=⟨_,rfl⟩
          obtain ⟨j,hj⟩:∃ j,y % 5+5*((2*x+3*y) % 5)=j:=⟨_,rfl⟩
          obtain ⟨c2,f2⟩:=hMy j (by omega)
          rw [Nat.zero_add] at c0 c1 c2 f2
          rw [hi] at c0 c1
          have Hi:Hid (x+5*y=i):=hi
          have Hj:Hid (y % 5+5*((2*x+3*y) % 5)=j):=hj
          have HZ:Hid (a[x+5*y]! = z):=hz
          have HT:Hid (tn[x+5*y]! = tv):=htv
          have i25:i < 25:=by omega
          have j25:j < 25:=by omega
          have i25':(i:Int) < 25:=by omega
          have j25':(j:Int) < 25:=by omega
          have y5:(y:Int) < 5:=by omega
          have s1:IntKind.i64.wrap (2*(x:Int))=2*(x:Int):=IntWalk.i64_in _ (by omega)
          have s2:IntKind.i64.wrap (3*(y:Int))=3*(y:Int):=IntWalk.i64_in _ (by omega)
          have s3:IntKind.i64.wrap (2*(x:Int)+3*(y:Int))=2*(x:Int)+3*(y:Int):=IntWalk.i64_in _ (by omega)
          clear hz htv hi hj f0 f1
          go_wp2_with fail
          have P1:∀ w,Hid (Calls Tryz.prog 271 #[.int .i64 (y:Int),.int .i64 (2*(x:Int)+3*(y:Int))] w fun e w'=>e=.returned (.int .i64 (j:Int))∧w'=w):=fun w=>place_any _ _ j w (by omega) (by omega) (by have:=Hj.out;omega)
          have P2:∀ w,Hid (Calls Tryz.prog 271 #[.int .i64 (x:Int),.int .i64 (y:Int)] w fun e w'=>e=.returned (.int .i64 (i:Int))∧w'=w):=fun w=>place_any _ _ i w (by omega) (by omega) (by have:=Hi.out;omega)
          go_region_with (first | (go_at_call_of 271 (Value.int IntKind.i64 (x:Int));refine Calls.mono (P2 _).out ?_;rintro e w2 ⟨rfl,rfl⟩) | (go_at_call 271;refine Calls.mono (P1 _).out ?_;rintro e w2 ⟨rfl,rfl⟩) | (go_at_call 272;refine (left_any (z ^^^ dv) tv _ t64).mono ?_;rintro e w2 ⟨rfl,n2,rfl⟩))
          all_goals
           go_wp2
           go_roundg (gk - 1)
           case measure=>omega
           case rel =>
            refine ⟨y+1,my.setIfInBounds j (rol (z ^^^ dv) tv),by omega,by go_num,?_,?_,?_⟩
            · have:=Holds.set (Holds.drewN hMy (1+n2)) (i:=j) (by omega) (rol (z ^^^ dv) tv)
              rw [Nat.zero_add] at this
              exact this
            · exact (hOy.drewN (1+n2)).setCell (o:=j) (by omega) (by omega) _
            · show _=(movIn a tn x dv mk y).setIfInBounds (y % 5+5*((2*x+3*y) % 5)) (rol (a[x+5*y]! ^^^ dv) tn[x+5*y]!)
              rw [HZ.out,HT.out,Hj.out,HEy.out]
        · have hy5:y=5:=by omega
          subst hy5
          go_wp2
          go_roundg (4 - x)
          case measure=>omega
          case rel =>
           refine ⟨x+1,my,by omega,by go_num,hMy,hOy,?_⟩
           show _=movIn a tn x (dcol ck x) (movTo a tn ck x) 5
           rw [HEy.out,HEx.out,HD.out]
     · have hx5:x=5:=by omega
       subst hx5
       have hb4:Below w.heap.size w wr:=hb3.trans (hO.below (by omega) (by omega))
       have hs4:MB < wr.heap.size:=Nat.lt_of_lt_of_le hs3 hO.size
       clear hlt hx hb3 hs3 hA3 hT3 hC3 hM3 hO
       have hmk:=HM25.out
       go_wp2
       clear hmk
       have hU5:Holds enc (wr.alloc (.cells (madeCells #[.int .u64 0] 25) 31)) wr.heap.size 0 (outTo mk 0):=Holds.made (enc:=enc) wr 31 25 0
       have hb5':Below wr.heap.size wr (wr.alloc (.cells (madeCells #[.int .u64 0] 25) 31)):=(Below.refl _ _).alloc (Nat.le_refl _) _
       generalize hW5:(wr.alloc _)=W5 at hU5 hb5' ⊢
       have hs5:wr.heap.size < W5.heap.size:=by rw [← hW5];simp
       have hM5:=Holds.below hM hb5' hs4
       have hb5:=hb4.trans (hb5'.mono (by omega))
       clear hW5 hb5' hb4 hM
       generalize hOB:wr.heap.size=OB at *
       go_loopg [15] 5 (fun g s15 wr=>∃ (x:Nat) (ok:St),x+g=5∧s15=.int .i64 x∧Holds enc wr OB 0 ok∧Only OB 0 25 W5 wr∧Hid (ok=outTo mk x))
       case atStart=>exact ⟨0,_,rfl,rfl,hU5,Only.refl _ _ _ _,rfl⟩
       case round =>
        obtain ⟨x,ok,hx,rfl,hU,hO,HEu⟩:=hrel
        have hus:ok.size=25:=by rw [HEu.out,outTo_size]
        by_cases hlt:x < 5
        · have l5:(x:Int) < 5:=by omega
          go_wp2
          go_loopg [16] 5 (fun g s16 wq=>∃ (y:Nat) (oy:St),y+g=5∧s16=.int .i64 y∧Holds enc wq OB 0 oy∧Only OB 0 25 W5 wq∧Hid (oy=outIn mk x ok y))
          case atStart=>exact ⟨0,ok,rfl,rfl,hU,hO,rfl⟩
          case round =>
           obtain ⟨y,oy,hy,rfl,hUy,hOy,HEy⟩:=hrel
           have hoys:oy.size=25:=by rw [HEy.out,outIn_size,hus]
           by_cases hlty:y < 5
           · have hMy:=Holds.other hM5 hOy (by omega) (by omega)
             obtain ⟨i0,hi0⟩:∃ i,x+5*y=i:=⟨_,rfl⟩
             obtain ⟨i1,hi1⟩:∃ i,(x+1) % 5+5*y=i:=⟨_,rfl⟩
             obtain ⟨i2,hi2⟩:∃ i,(x+2) % 5+5*y=i:=⟨_,rfl⟩
             obtain ⟨z0,hz0⟩:∃ z,mk[i0]! = z:=⟨_,rfl⟩
             obtain ⟨z1,hz1⟩:∃ z,mk[i1]! = z:=⟨_,rfl⟩
             obtain ⟨z2,hz2⟩:∃ z,mk[i2]! = z:=⟨_,rfl⟩
             obtain ⟨c0,f0⟩:=at_word hMy i0 (by omega) hz0
             obtain ⟨c1,f1⟩:=at_word hMy i1 (by omega) hz1
             obtain ⟨c2,f2⟩:=at_word hMy i2 (by omega) hz2
             obtain ⟨c3,f3⟩:=hUy i0 (by omega)
             rw [Nat.zero_add] at c0 c1 c2 c3 f3
             have H0:Hid (x+5*y=i0):=hi0
             have H1:Hid ((x+1) % 5+5*y=i1):=hi1
             have H2:Hid ((x+2) % 5+5*y=i2):=hi2
             have HV:Hid (mk[x+5*y]! ^^^ (~~~mk[(x+1) % 5+5*y]! &&& mk[(x+2) % 5+5*y]!)=z0 ^^^ (~~~z1 &&& z2)):=by
              show _=_
              rw [hi0,hi1,hi2,hz0,hz1,hz2]
             have b0:i0 < 25:=by omega
             have b0':(i0:Int) < 25:=by omega
             have b1':(i1:Int) < 25:=by omega
             have b2':(i2:Int) < 25:=by omega
             have y5:(y:Int) < 5:=by omega
             have s1:IntKind.i64.wrap ((x:Int)+1)=(x:Int)+1:=IntWalk.i64_in _ (by omega)
             have s2:IntKind.i64.wrap ((x:Int)+2)=(x:Int)+2:=IntWalk.i64_in _ (by omega)
             clear hz0 hz1 hz2 hi0 hi1 hi2 f0 f1 f2
             go_wp2_with fail
             refine wp_region_still_tail 28 mixed (by kernel_rfl) ?_
             simp only [List.take_succ_cons,List.take_zero,List.drop_succ_cons,List.drop_zero]
             repeat still_step
             still_call (place_any (x:Int) (y:Int) i0 _ (by omega) (by omega) (by have:=H0.out;omega))
             repeat still_step
             still_call (place_any (x:Int) (y:Int) i0 _ (by omega) (by omega) (by have:=H0.out;omega))
             repeat still_step
             still_call (place_any ((x:Int)+1) (y:Int) i1 _ (by omega) (by omega) (by have:=H1.out;omega))
             repeat still_step
             still_call (place_any ((x:Int)+2) (y:Int) i2 _ (by omega) (by omega) (by have:=H2.out;omega))
             repeat still_step
             refine wpStill_nil ?_
             go_wp2
             go_roundg (gk - 1)
             case measure=>omega
             case rel =>
              refine ⟨y+1,oy.setIfInBounds i0 (z0 ^^^ (~~~z1 &&& z2)),by omega,by go_num,?_,?_,?_⟩
              · have:=Holds.set hUy (i:=i0) (by omega) (z0 ^^^ (~~~z1 &&& z2))
                rw [Nat.zero_add] at this
                exact Holds.drew this
              · exact (hOy.setCell (o:=i0) (by omega) (by omega) _).drew
              · show _=(outIn mk x ok y).setIfInBounds (x+5*y) (mk[x+5*y]! ^^^ (~~~mk[(x+1) % 5+5*y]! &&& mk[(x+2) % 5+5*y]!))
                rw [HV.out,H0.out,HEy.out]
           · have hy5:y=5:=by omega
             subst hy5
             go_wp2
             go_roundg (4 - x)
             case measure=>omega
             case rel =>
              refine ⟨x+1,oy,by omega,by go_num,hUy,hOy,?_⟩
              show _=outIn mk x (outTo mk x) 5
              rw [HEy.out,HEu.out]
        · have hx5:x=5:=by omega
          subst hx5
          obtain ⟨z,hz⟩:∃ z,ok[0]! = z:=⟨_,rfl⟩
          obtain ⟨c0,f0⟩:=at_word hU 0 (by omega) hz
          rw [Nat.zero_add] at c0 f0
          have HZ:Hid (ok[0]! = z):=hz
          clear hz
          go_wp2
          go_ret
          refine ⟨OB,rfl,by omega,?_,?_⟩
          · exact (hb5.trans (hO.below (by omega) (by omega))).setCell (p:=⟨OB,0,none⟩) (by show _≤OB;omega) _
          · have e:refRound a tn c=xorAt ok 0 c:=by unfold refRound;rw [HEu.out,HEx.out,HE.out]
            rw [e]
            exact Holds.xor (i:=0) hU (by omega) HZ.out c
end Go.Proofs.YtmkllfekhehagafGreat.SP
namespace Go.Proofs.YtmkllfekhehagafGreat.SP
open Go.RowKit Go.Sort Go.Deep
attribute [local go_sem] bits_xor64 bits_and64 bits_or64 bits_not64 wrap_u wrap_ub low_u
set_option maxHeartbeats 2000000 in
set_option maxRecDepth 100000 in
theorem refPermute_any (s:ByteArray) (w:World) (hs:s.size=200) :
 Calls Tryz.prog 249 #[.string s] w fun e w'=>e=.returned (.string ⟨permB s.data⟩)∧Below w.heap.size w w':=by
 have hmk25:∀ w:World,(Instr.makeSlice 323 (.int .i64 25) (.int .i64 25)).run Tryz.prog w=.ok (.slice (some ⟨w.heap.size,0,none⟩) 25 25) (w.alloc (.cells (madeCells #[.int .u64 0] 25) 31)) :=
  run_make_row' (P:=Tryz.prog) 323 31 (.int .u64 0) 8 slice61 info56 rfl .i64 .i64 25 (by omega) (by omega)
 have hmk200:∀ w:World,(Instr.makeSlice 23 (.int .i64 200) (.int .i64 200)).run Tryz.prog w=.ok (.slice (some ⟨w.heap.size,0,none⟩) 200 200) (w.alloc (.cells (madeCells #[.int .u8 0] 200) 5)) :=
  run_make_row' (P:=Tryz.prog) 23 5 (.int .u8 0) 1 slice22 info5 rfl .i64 .i64 200 (by omega) (by omega)
 have HM200:Hid _:=hmk200
 clear hmk200
 go_enter Tryz.func249,Tryz.ntmps249
 go_wp2
 clear hmk25
 have hA1:Holds enc (w.alloc (.cells (madeCells #[.int .u64 0] 25) 31)) w.heap.size 0 (orTo s.data 0):=Holds.made (enc:=enc) w 31 25 0
 have hb1:Below w.heap.size w (w.alloc (.cells (madeCells #[.int .u64 0] 25) 31)):=(Below.refl _ _).alloc (Nat.le_refl _) _
 generalize hW1:(w.alloc _)=W1 at hA1 hb1 ⊢
 have hs1:w.heap.size < W1.heap.size:=by rw [← hW1];simp
 clear hW1
 go_loopg [4] 200 (fun g s4 wr=>∃ (i:Nat) (dk:St),i+g=200∧s4=.int .i64 i∧Holds enc wr w.heap.size 0 dk∧Only w.heap.size 0 25 W1 wr∧Hid (dk=orTo s.data i))
 case atStart=>exact ⟨0,_,rfl,rfl,hA1,Only.refl _ _ _ _,rfl⟩
 case round =>
  obtain ⟨i,dk,hi,rfl,hD,hO,HE⟩:=hrel
  have hds:dk.size=25:=by rw [HE.out,orTo_size]
  by_cases hlt:i < 200
  · obtain ⟨x,hx⟩:∃ x,dk[i / 8]! = x:=⟨_,rfl⟩
    obtain ⟨c0,f0⟩:=at_word hD (i / 8) (by omega) hx
    rw [Nat.zero_add] at c0 f0
    have HX:Hid (dk[i / 8]! = x):=hx
    clear hx
    have l200:(i:Int) < 200:=by omega
    have p0:0≤(i:Int) / 8:=by omega
    have p1:(i:Int) / 8 < 25:=by omega
    have p2:((i:Int) / 8).toNat=i / 8:=by omega
    have s1:IntKind.i64.wrap ((i:Int) / 8)=(i:Int) / 8:=IntWalk.i64_in _ (by omega)
    have s2:IntKind.i64.wrap (8*((i:Int) % 8))=8*((i:Int) % 8):=IntWalk.i64_in _ (by omega)
    have s3:0≤8*((i:Int) % 8):=by omega
    have s4:8*((i:Int) % 8)≤64:=by omega
    have s5:(8*((i:Int) % 8)).toNat=8*(i % 8):=by omega
    have his:(i:Int) < (s.size:Int):=by omega
    have his':i < s.size:=by omega
    have tm:(i:Int).tmod 8=(i:Int) % 8:=Int.tmod_eq_emod_of_nonneg (by omega)
    obtain ⟨y,hy⟩:∃ y,wide s.data[i]! = y:=⟨_,rfl⟩
    have hsb:IntKind.u64.wrap (s[i].toNat:Int)=u y:=by
     have e:s.data[i]! = s[i]:=getElem!_pos s.data i his'
     rw [← hy,e]
     exact wrap_ub s[i]
    have HY:Hid (wide s.data[i]! = y):=hy
    clear hy
    have sh:=shl64 y (8*(i % 8))
    go_wp2_with fail
    go_still_tail 18,mixed
    go_wp2
    go_roundg (gk - 1)
    case measure=>omega
    case rel =>
     refine ⟨i+1,dk.setIfInBounds (i / 8) (x ||| y <<< (8*(i % 8))),by omega,by go_num,?_,?_,?_⟩
     · have:=Holds.set hD (i:=i / 8) (by omega) (x ||| y <<< (8*(i % 8)))
       rw [Nat.zero_add] at this
       exact Holds.drew this
     · exact (hO.setCell (o:=i / 8) (by omega) (by omega) _).drew
     · show _=(orTo s.data i).setIfInBounds (i / 8) ((orTo s.data i)[i / 8]! ||| wide s.data[i]! <<< (8*(i % 8)))
       rw [HY.out,← HE.out,HX.out]
  · have hi200:i=200:=by omega
    subst hi200
    have hb2:Below w.heap.size w wr:=hb1.trans (hO.below (by omega) (Nat.le_refl _))
    have hs2:w.heap.size < wr.heap.size:=Nat.lt_of_lt_of_le hs1 hO.size
    clear hlt hi hA1 hb1 hs1 hO
    go_wp2_with fail
    refine (offsets_any _).mono ?_
    rintro e w3 ⟨rfl,hb3,hT⟩
    have hD3:=Holds.below hD hb3 hs2
    have hb4:=hb2.trans (hb3.mono (by omega))
    have hs3:wr.heap.size < w3.heap.size:=Holds.lt hT (by rw [offsets_size];omega)
    generalize hTB:wr.heap.size=TB at *
    clear hb2 hb3 hD
    go_wp2
    go_loopg [3,6] 24 (fun g s3 s6 wr=>∃ (k ab:Nat) (dk:St),k+g=24∧s6=.int .i64 k∧s3=.slice (some ⟨ab,0,none⟩) 25 25∧Holds enc wr ab 0 dk∧w.heap.size≤ab∧Holds encI wr TB 0 offsetsL∧Below w.heap.size w wr∧Hid (dk=refTo (orTo s.data 200) k))
    case atStart=>exact ⟨0,w.heap.size,dk,rfl,rfl,rfl,hD3,Nat.le_refl _,hT,hb4,HE⟩
    case round =>
     clear hT hb4 hD3 HE hds dk
     obtain ⟨k,ab,dk,hk,rfl,rfl,hD,hab,hT,hb,HE⟩:=hrel
     have hds:dk.size=25:=by
      rw [HE.out]
      cases k with
      | zero=>exact orTo_size _ _
      | succ k=>exact refRound_size _ _ _
     by_cases hlt:k < 24
     · have l24:(k:Int) < 24:=by omega
       go_wp2_with fail
       refine (constant_any k _ hlt).mono ?_
       rintro e w4 ⟨rfl,rfl⟩
       go_wp2_with fail
       refine (round_any ab TB dk offsetsL (conL k) _ hds offsets_size hD hT offsets_lt).mono ?_
       rintro e w5 ⟨r,rfl,hr,hb5,hR⟩
       have hTl:=Holds.lt hT (by rw [offsets_size];omega)
       have hsz:=hb.size
       go_wp2
       go_roundg (gk - 1)
       case measure=>omega
       case rel =>
        refine ⟨k+1,r,refRound dk offsetsL (conL k),by omega,by go_num,rfl,hR,by omega,Holds.below hT hb5 hTl,hb.trans (hb5.mono (by omega)),?_⟩
        rw [HE.out];rfl
     · have hk24:k=24:=by omega
       subst hk24
       have hmk:=HM200.out
       go_wp2
       clear hmk
       have hsz:=hb.size
       have hal:=Holds.lt hD (by omega)
       have hF1:Holds encB (wr.alloc (.cells (madeCells #[.int .u8 0] 200) 5)) wr.heap.size 0 (frontTo dk 200 0):=Holds.made (enc:=encB) wr 5 200 0
       have hb6:Below wr.heap.size wr (wr.alloc (.cells (madeCells #[.int .u8 0] 200) 5)):=(Below.refl _ _).alloc (Nat.le_refl _) _
       generalize hW6:(wr.alloc _)=W6 at hF1 hb6 ⊢
       have hs6:wr.heap.size < W6.heap.size:=by rw [← hW6];simp
       have hD6:=Holds.below hD hb6 hal
       have hb7:=hb.trans (hb6.mono hsz)
       clear hW6 hb6 hb hD hT
       generalize hFB:wr.heap.size=FB at *
       go_loopg [8] 200 (fun g s8 wr=>∃ (i:Nat) (bs:Bs),i+g=200∧s8=.int .i64 i∧Holds encB wr FB 0 bs∧Only FB 0 200 W6 wr∧Hid (bs=frontTo dk 200 i))
       case atStart=>exact ⟨0,_,rfl,rfl,hF1,Only.refl _ _ _ _,rfl⟩
       case round =>
        obtain ⟨i,bs,hi,rfl,hB,hO,HEb⟩:=hrel
        have hbs:bs.size=200:=by rw [HEb.out,frontTo_size]
        by_cases hlt:i < 200
        · have hDw:=Holds.other hD6 hO (by omega) (by omega)
          obtain ⟨x,hx⟩:∃ x,dk[i / 8]! = x:=⟨_,rfl⟩
          obtain ⟨c0,f0⟩:=at_word hDw (i / 8) (by omega) hx
          obtain ⟨c1,f1⟩:=hB i (by omega)
          rw [Nat.zero_add] at c0 c1 f1
          have HX:Hid (byteOf dk i=low (x >>> (8*(i % 8)))):=by show low _=_;rw [hx]
          clear hx f0
          have p1:(i:Int) / 8 < 25:=by omega
          have l200:(i:Int) < 200:=by omega
          have hsr:=shr64 x (8*(i % 8))
          go_wp2
          go_roundg (gk - 1)
          case measure=>omega
          case rel =>
           refine ⟨i+1,bs.setIfInBounds i (low (x >>> (8*(i % 8)))),by omega,by go_num,?_,?_,?_⟩
           · have:=Holds.set hB (i:=i) (by omega) (low (x >>> (8*(i % 8))))
             rw [Nat.zero_add] at this
             exact this
           · exact hO.setCell (o:=i) (by omega) (by omega) _
           · show _=(frontTo dk 200 i).setIfInBounds i (byteOf dk i)
             rw [HX.out,HEb.out]
        · have hi200:i=200:=by omega
          subst hi200
          have kc:=conv_str Tryz.prog 23 9 5 slice22 int5 str9 wr FB 0 200 200 bs hB hbs
          go_wp2
          go_ret
          have e1:bs=permB s.data:=by rw [HEb.out,HE.out];exact ref_permB s.data
          rw [e1]
          exact ⟨rfl,hb7.trans (hO.below (by omega) (by omega))⟩
end Go.Proofs.YtmkllfekhehagafGreat.SP
namespace Go.Proofs.YtmkllfekhehagafGreat.SP
open Go.RowKit Go.Sort Go.Deep
attribute [local go_sem] bits_xor8
theorem holds_one (w:World) (x:UInt8):Holds encB (w.alloc (.cells #[.int .u8 (ub x)] 5)) w.heap.size 0 #[x]:=by
 have h:=Holds.new (enc:=encB) w 5 #[x]
 have e:Array.map encB #[x]=#[.int .u8 (ub x)]:=by simp [encB]
 rw [e] at h
 exact h
def padT (l:List UInt8) (e:UInt8) (k:Nat):List UInt8:=l++e :: List.replicate k 0
theorem padT_length (l:List UInt8) (e:UInt8) (k:Nat):(padT l e k).length=l.length+1+k:=by
 unfold padT
 rw [List.length_append,List.length_cons,List.length_replicate]
 omega
theorem padT_next (l:List UInt8) (e:UInt8) (k:Nat):padT l e k++[0]=padT l e (k+1):=by
 unfold padT
 rw [List.append_assoc,List.cons_append,List.replicate_succ']
theorem padT_total (l:List UInt8) (e:UInt8):(padT l e (135 - l.length % 136)).set (l.length+(135 - l.length % 136)) ((padT l e (135 - l.length % 136))[l.length+(135 - l.length % 136)]! ^^^ 128)=total l e:=by
 unfold padT total tailpad
 rw [List.set_append_right _ _ (by omega),Nat.add_sub_cancel_left,list_app_back _ _ _ (by omega) (by rw [List.length_cons,List.length_replicate];omega),Nat.add_sub_cancel_left]
theorem list_set_at (l:List UInt8) (i j:Nat) (x:UInt8) (hj:j < l.length):(l.set i x)[j]! = if i=j then x else l[j]!:=by
 rw [getElem!_pos (l.set i x) j (by rw [List.length_set];exact hj),List.getElem_set,getElem!_pos l j hj]
theorem total_at (l:List UInt8) (e:UInt8) (cur:Bs) (L k:Nat) (hk:k=135 - l.length % 136) (hL:L=l.length+1+k) (hc:L≤cur.size) (hT:∀ j,j < L→cur[j]! = (padT l e k)[j]!) :
 ∀ j,j < L→(cur.setIfInBounds (L - 1) (cur[L - 1]! ^^^ 128))[j]! = (total l e)[j]!:=by
 intro j hj
 have hpl:=padT_length l e k
 rw [← padT_total,← hk,list_set_at _ _ _ _ (by omega),show l.length+k=L - 1 by omega]
 by_cases h:j=L - 1
 · rw [if_pos h.symm,h,getElem!_set_same _ _ _ (by omega),hT _ (by omega)]
 · rw [if_neg (by omega),getElem!_set_other _ _ _ _ h,hT _ hj]
theorem stream_bytes (o:ByteArray) (d:St) (n m:Nat) (ho:o.size=136*m) (hnm:n≤136*m) (h:∀ j,j < 136*m→o.data[j]! = streamAt d j):o.extract 0 n=⟨streamL d n⟩:=by
 apply ByteArray.ext
 have hd:(o.extract 0 n).data=o.data.extract 0 n:=ByteArray.data_extract
 have hs:o.data.size=136*m:=ho
 rw [hd]
 refine bs_ext _ _ n (by rw [Array.size_extract,hs];omega) (streamL_size _ _) (fun j hj=>?_)
 have h1:j < (o.data.extract 0 n).size:=by rw [Array.size_extract,hs];omega
 have h2:j < o.data.size:=by omega
 have h3:=h j (by omega)
 rw [getElem!_pos o.data j h2] at h3
 rw [streamL_at _ _ _ hj,← h3,getElem!_pos (o.data.extract 0 n) j h1,Array.getElem_extract]
 simp only [Nat.zero_add]
theorem out_next (o:ByteArray) (d:St) (m:Nat) (p:Bs) (hp:p.size=136) (hpa:∀ j,j < 136→p[j]! = byteOf (permN d m) j) (ho:o.size=136*m) (h:∀ j,j < 136*m→o.data[j]! = streamAt d j) :
 (o++⟨p⟩).size=136*(m+1)∧∀ j,j < 136*(m+1)→(o++(⟨p⟩:ByteArray)).data[j]! = streamAt d j:=by
 have hd:(o++(⟨p⟩:ByteArray)).data=o.data++p:=ByteArray.data_append
 have hs:o.data.size=136*m:=ho
 refine ⟨?_,fun j hj=>?_⟩
 · show (o++(⟨p⟩:ByteArray)).data.size=_
   rw [hd,Array.size_append,hp,hs]
   omega
 · rw [hd]
   by_cases h1:j < 136*m
   · have h2:j < o.data.size:=by omega
     have h3:=h j h1
     rw [getElem!_pos o.data j h2] at h3
     rw [app_front _ _ j h2,h3]
   · rw [app_back _ _ j (by omega) (by omega),hs,hpa _ (by omega)]
     unfold streamAt
     rw [show j / 136=m by omega,show j % 136=j - 136*m by omega]
theorem conv200 (w:World) (p:Bs) (h:p.size=200) :
 ∃ sc w',(convert 9 23 (.string ⟨p⟩)).run Tryz.prog w=.ok (.slice (some ⟨w.heap.size,0,none⟩) 200 sc) w'∧200≤sc∧Holds encB w' w.heap.size 0 p∧Below w.heap.size w w':=by
 obtain ⟨v,w',hcv,own,hb,hv⟩:=conv_bytes (w:=w) (B:=0) ⟨p⟩ (Nat.zero_le _)
 have hps:(ByteArray.mk p).size=200:=h
 have hpl:(ByteArray.mk p).data.toList.length=200:=by rw [Array.length_toList];exact h
 rw [hv] at hcv own
 rw [hps] at hcv own
 obtain ⟨_,_,hle,hH⟩:=own.holds
 exact ⟨_,_,hcv,by omega,by simpa using hH,hb⟩
theorem front_front (d:St):Array.size (front d 136)≤Array.size (front d 200)∧∀ j,j < (front d 136).size→(front d 136)[j]! = (front d 200)[j]!:=by
 refine ⟨by rw [front_size,front_size];omega,fun j hj=>?_⟩
 rw [front_size] at hj
 rw [front_at _ _ _ hj,front_at _ _ _ (by omega)]
set_option maxHeartbeats 2000000 in
set_option maxRecDepth 100000 in
theorem refSponge_any (s:ByteArray) (e:UInt8) (n:Nat) (w:World) (hs:s.size≤1048576) (hn:n≤16384) :
 Calls Tryz.prog 206 #[.string s,.int .u8 (ub e),.int .i64 (n:Int)] w fun r w'=>r=.returned (.string ⟨streamL (absorb s.data.toList e) n⟩)∧Below w.heap.size w w':=by
 obtain ⟨v0,w0,hcv,own0,hb0,hv0⟩:=conv_bytes (w:=w) (B:=w.heap.size) s (Nat.le_refl _)
 rw [hv0] at hcv own0
 have hsz0:w.heap.size≤w0.heap.size:=hb0.size
 have hX:=holds_one w0 e
 have hbx:Below w0.heap.size w0 (w0.alloc (.cells #[.int .u8 (ub e)] 5)):=(Below.refl _ _).alloc (Nat.le_refl _) _
 have hl:s.data.toList.length=s.size:=Array.length_toList
 obtain ⟨v1,w1,hap,own1,hb1⟩:=append_own (c:=1) (own0.below hbx) hX (by rw [World.size_alloc];omega) (by rw [hl];simp;omega) 1 rfl
 have hbb1:Below w.heap.size w w1:=(hb0.trans (hbx.mono hsz0)).trans hb1
 have own1':Own w.heap.size w1 v1 (padT s.data.toList e 0):=own1
 clear hv0 own0 hX own1 hb1 hbx
 have hmk200:∀ w:World,(Instr.makeSlice 23 (.int .i64 200) (.int .i64 200)).run Tryz.prog w=.ok (.slice (some ⟨w.heap.size,0,none⟩) 200 200) (w.alloc (.cells (madeCells #[.int .u8 0] 200) 5)) :=
  run_make_row' (P:=Tryz.prog) 23 5 (.int .u8 0) 1 slice22 info5 rfl .i64 .i64 200 (by omega) (by omega)
 have HM200:Hid _:=hmk200
 clear hmk200
 go_enter Tryz.func206,Tryz.ntmps206
 go_wp2_with (at_builtin;refine Lib.wpList_append_run _ rfl _ _ 23 23 rfl _ _ rfl rfl _ _ hap ?_)
 clear hap hcv hb0
 obtain ⟨h,hh⟩:∃ h,s.data.toList.length % 136=h:=⟨_,rfl⟩
 have h136:h < 136:=by rw [← hh];exact Nat.mod_lt _ (by decide)
 have Hh:Hid (s.data.toList.length % 136=h):=hh
 clear hh
 go_loopg [7] (135 - h) (fun g s7 wr=>∃ k,k+g=135 - h∧Own w.heap.size wr s7 (padT s.data.toList e k)∧Below w.heap.size w wr)
 case atStart=>exact ⟨0,by omega,own1',hbb1⟩
 case round =>
  clear own1' hbb1
  obtain ⟨k,hk,own,hb⟩:=hrel
  have own':=own
  obtain ⟨g,cap,cur,rfl,hg,hgl,hcs,hlc,hH,hT⟩:=own'
  have hL:=padT_length s.data.toList e k
  generalize hLL:(padT s.data.toList e k).length=L at *
  have hL':L=s.size+1+k:=by rw [hL,hl]
  have HL':Hid (L=s.size+1+k):=hL'
  have hLb:L≤1048900:=by omega
  have hL0:1≤L:=by omega
  have tm:(L:Int).tmod 136=(L:Int) % 136:=Int.tmod_eq_emod_of_nonneg (by omega)
  by_cases hlt:k < 135 - h
  · have hb2:((L:Int) % 136 != 0)=true:=by rw [bne_iff_ne];have:=Hh.out;rw [hl] at this;omega
    have hX:=holds_one wr 0
    have hbx:Below wr.heap.size wr (wr.alloc (.cells #[.int .u8 (ub 0)] 5)):=(Below.refl _ _).alloc (Nat.le_refl _) _
    obtain ⟨v2,w2,hap,own2,hbb⟩:=append_own (c:=1) (own.below hbx) hX (by rw [World.size_alloc];have:=hb.size;omega) (by rw [hLL];simp;omega) 1 rfl
    have own3:Own w.heap.size w2 v2 (padT s.data.toList e (k+1)):=by rw [← padT_next];exact own2
    have hb3:Below w.heap.size w w2:=(hb.trans (hbx.mono hb.size)).trans hbb
    clear hL hL' hLL own own2 hX hbb hbx hH hT
    go_wp2_with (at_builtin;refine Lib.wpList_append_run _ rfl _ _ 23 23 rfl _ _ rfl rfl _ _ hap ?_)
    go_roundg (gk - 1)
    case measure=>omega
    case rel=>exact ⟨k+1,by omega,own3,hb3⟩
  · have hb2:((L:Int) % 136 != 0)=false:=by
     rw [bne_eq_false_iff_eq];have:=Hh.out;rw [hl] at this;omega
    have hk0:k=135 - s.data.toList.length % 136:=by have:=Hh.out;omega
    obtain ⟨x,hx⟩:∃ x,cur[L - 1]! = x:=⟨_,rfl⟩
    obtain ⟨c0,f0⟩:=at_byte hH (L - 1) (by omega) hx
    rw [Nat.zero_add] at c0 f0
    have hx80:=xor80 x
    have hTot:=total_at s.data.toList e cur L k hk0 hL (by omega) hT
    rw [hx] at hTot
    have hH2:=Holds.set hH (i:=L - 1) (by omega) (x ^^^ 128)
    rw [Nat.zero_add] at hH2
    have htl:(total s.data.toList e).length=L:=by rw [total_length];omega
    have hTA:Holds encB (wr.setCell ⟨g,L - 1,none⟩ (.int .u8 (ub (x ^^^ 128)))) g 0 (total s.data.toList e).toArray :=
     Holds.front hH2 (by rw [Array.size_setIfInBounds,List.size_toArray,htl];omega) (fun j hj=>by rw [list_arr_at];exact (hTot j (by simpa [htl] using hj)).symm)
    have hb4:Below w.heap.size w (wr.setCell ⟨g,L - 1,none⟩ (.int .u8 (ub (x ^^^ 128)))):=hb.setCell (p:=⟨g,L - 1,none⟩) hg _
    have hg4:g < (wr.setCell ⟨g,L - 1,none⟩ (.int .u8 (ub (x ^^^ 128)))).heap.size:=by rw [World.size_setCell];exact hgl
    obtain ⟨M,hM⟩:∃ M,s.data.toList.length / 136+1=M:=⟨_,rfl⟩
    have hLM:L=136*M:=by have:=Hh.out;omega
    have HLM:Hid (L=136*M):=hLM
    have HM:Hid (s.data.toList.length / 136+1=M):=hM
    have z1:(0:Int)≤(L:Int) - 1:=by omega
    have z2:(L:Int) - 1 < (L:Int):=by omega
    have z3:((L:Int) - 1).toNat=L - 1:=by omega
    have hmk:=HM200.out
    clear hM hLM hTot hH2 hH hT hx hL hL' hLL own hk0
    go_wp2
    clear hmk c0 f0 hb2 tm hx80
    have hW2:(wr.setCell ⟨g,L - 1,none⟩ (.int .u8 (ub (x ^^^ 128)))).heap.size=wr.heap.size:=by rw [World.size_setCell]
    generalize wr.setCell ⟨g,L - 1,none⟩ (.int .u8 (ub (x ^^^ 128)))=W2 at hTA hb4 hg4 hW2 ⊢
    have hS0:Holds encB (W2.alloc (.cells (madeCells #[.int .u8 0] 200) 5)) W2.heap.size 0 (refSt (total s.data.toList e) 0):=Holds.made (enc:=encB) W2 5 200 0
    have hb5':Below W2.heap.size W2 (W2.alloc (.cells (madeCells #[.int .u8 0] 200) 5)):=(Below.refl _ _).alloc (Nat.le_refl _) _
    have hs5:W2.heap.size < (W2.alloc (.cells (madeCells #[.int .u8 0] 200) 5)).heap.size:=by simp
    have hTA5:=Holds.below hTA hb5' hg4
    have hb5:=hb4.trans (hb5'.mono hb4.size)
    have hz4:=hb4.size
    rw [hW2] at hS0 hs5 hg4 hz4
    generalize hSG:wr.heap.size=SG at *
    generalize (W2.alloc _)=W3 at hS0 hb5 hs5 hTA5 ⊢
    clear hTA hb4 hb5' hSG hW2
    go_loopg [8,9] M (fun g2 s8 s9 wr=>∃ (i sg sc:Nat),i+g2=M∧s9=.int .i64 ((136*i:Nat):Int)∧s8=.slice (some ⟨sg,0,none⟩) 200 sc∧200≤sc∧w.heap.size≤sg∧sg≠g∧Holds encB wr sg 0 (refSt (total s.data.toList e) i)∧Holds encB wr g 0 (total s.data.toList e).toArray∧Below w.heap.size w wr)
    case atStart=>exact ⟨0,SG,200,by omega,rfl,rfl,Nat.le_refl _,by omega,by omega,hS0,hTA5,hb5⟩
    case round =>
     clear hS0 hTA5 hb5 hs5
     obtain ⟨i,sg,sc,hi,rfl,rfl,hsc,hsg,hne,hS,hTA,hb⟩:=hrel
     have hrs:(refSt (total s.data.toList e) i).size=200:=by
      cases i with
      | zero=>rw [refSt,Array.size_replicate]
      | succ i=>rw [refSt,permB,front_size]
     have hgz:g < wr.heap.size:=Holds.lt hTA (by rw [List.size_toArray,htl];omega)
     by_cases hlt:i < M
     · have hlt':((136*i:Nat):Int) < (L:Int):=by have:=HLM.out;omega
       have hii:136*i+136≤L:=by have:=HLM.out;omega
       generalize hI:136*i=I at *
       have HI:Hid (136*i=I):=hI
       clear hI
       go_wp2
       have hD0:Holds encB wr sg 0 (xorB (refSt (total s.data.toList e) i) (total s.data.toList e) I 0):=hS
       generalize hR:refSt (total s.data.toList e) i=R at *
       have HR:Hid (R=refSt (total s.data.toList e) i):=hR.symm
       clear hR
       go_loopg [10] 136 (fun g3 s10 wq=>∃ (k:Nat) (st:Bs),k+g3=136∧s10=.int .i64 k∧Holds encB wq sg 0 st∧Only sg 0 200 wr wq∧Hid (st=xorB R (total s.data.toList e) I k))
       case atStart=>exact ⟨0,_,rfl,rfl,hD0,Only.refl _ _ _ _,rfl⟩
       case round =>
        clear hD0
        obtain ⟨k,st,hk,rfl,hSt,hO,HE⟩:=hrel
        have hsts:st.size=200:=by rw [HE.out,xorB_size];exact hrs
        have hTq:=Holds.other hTA hO (Ne.symm hne) (by rw [List.size_toArray,htl];omega)
        by_cases hltk:k < 136
        · obtain ⟨y,hy⟩:∃ y,(total s.data.toList e)[I+k]! = y:=⟨_,rfl⟩
          obtain ⟨c0,f0⟩:=at_byte (x:=y) hTq (I+k) (by rw [List.size_toArray,htl];omega) (by rw [list_arr_at];exact hy)
          obtain ⟨z,hz⟩:∃ z,st[k]! = z:=⟨_,rfl⟩
          obtain ⟨c1,f1⟩:=at_byte hSt k (by omega) hz
          rw [Nat.zero_add] at c0 c1 f1
          have HY:Hid ((total s.data.toList e)[I+k]! = y):=hy
          have HZ:Hid (st[k]! = z):=hz
          have k136:(k:Int) < 136:=by omega
          have k200:(k:Int) < 200:=by omega
          have ik0:(0:Int)≤(I:Int)+(k:Int):=by omega
          have ik1:(I:Int)+(k:Int) < (L:Int):=by omega
          have ik2:((I:Int)+(k:Int)).toNat=I+k:=by omega
          have ik3:IntKind.i64.wrap ((I:Int)+(k:Int))=(I:Int)+(k:Int):=IntWalk.i64_in _ (by omega)
          clear hy hz f0 hTq
          go_wp2_with fail
          go_still_tail 14,mixed
          go_wp2
          go_roundg (gk - 1)
          case measure=>omega
          case rel =>
           refine ⟨k+1,st.setIfInBounds k (z ^^^ y),by omega,by go_num,?_,?_,?_⟩
           · have:=Holds.set hSt (i:=k) (by omega) (z ^^^ y)
             rw [Nat.zero_add] at this
             exact Holds.drew this
           · exact (hO.setCell (o:=k) (by omega) (by omega) _).drew
           · show _=(xorB R (total s.data.toList e) I k).setIfInBounds k ((xorB R (total s.data.toList e) I k)[k]! ^^^ (total s.data.toList e)[I+k]!)
             rw [← HE.out,HZ.out,HY.out]
        · have hk136:k=136:=by omega
          subst hk136
          have hgz2:=Holds.lt hSt (by omega)
          have kc:=conv_str Tryz.prog 23 9 5 slice22 int5 str9 _ sg 0 200 sc st hSt hsts
          have hbq:=hb.trans (hO.below hb.size hsg)
          obtain ⟨PB,hPB⟩:∃ x,permB st=x:=⟨_,rfl⟩
          have hps:PB.size=200:=by rw [← hPB,permB,front_size]
          have HE2:Hid (PB=refSt (total s.data.toList e) (i+1)):=by
           show PB=permB (xorB (refSt (total s.data.toList e) i) (total s.data.toList e) (136*i) 136)
           rw [← HR.out,HI.out,← HE.out,hPB]
          have HPB:Hid (PB=permB st):=hPB.symm
          clear hPB HE
          go_wp2_with fail
          refine (refPermute_any ⟨st⟩ _ hsts).mono ?_
          rintro r w5 ⟨rfl,hb5⟩
          have e5:(ByteArray.mk (permB (ByteArray.mk st).data))=ByteArray.mk PB:=congrArg ByteArray.mk HPB.out.symm
          rw [e5]
          clear e5
          obtain ⟨sc6,w6,hcv6,hle6,hH6,hb6⟩:=conv200 w5 PB hps
          have hgq:=Holds.lt hTq (by rw [List.size_toArray,htl];omega)
          have hg5:g < w5.heap.size:=Nat.lt_of_lt_of_le hgq hb5.size
          have hT6:=Holds.below (Holds.below hTq hb5 hgq) hb6 hg5
          have hb8:Below w.heap.size w w6:=(hbq.trans (hb5.mono hbq.size)).trans (hb6.mono (by have:=hb5.size;have:=hbq.size;omega))
          rw [HE2.out] at hH6
          have hz5:w.heap.size≤w5.heap.size:=by have:=hb5.size;have:=hbq.size;omega
          go_wp2
          go_roundg (M - (i+1))
          case measure=>omega
          case rel=>exact ⟨i+1,w5.heap.size,sc6,by omega,by rw [← HI.out];go_num,rfl,hle6,hz5,by omega,hH6,hT6,hb8⟩
     · have hiM:i=M:=by omega
       have hge:(L:Int)≤((136*i:Nat):Int):=by have:=HLM.out;omega
       obtain ⟨d,hd⟩:∃ d,absorb s.data.toList e=d:=⟨_,rfl⟩
       obtain ⟨F,hF⟩:∃ F,front (permN d 0) 200=F:=⟨_,rfl⟩
       have hSf:Holds encB wr sg 0 F:=by
        have:=refSt_total s.data.toList e
        rw [HM.out,← hiM,hd] at this
        rw [this] at hS
        rw [← hF,permN]
        exact hS
       have hab:d.size=25:=by rw [← hd];exact absorb_size s.data.toList e
       have HDD:Hid (d=absorb s.data.toList e):=hd.symm
       have HFF:Hid (F=front (permN d 0) 200):=hF.symm
       clear hS hrs hTA hgz hiM hlt hi hd hF
       generalize hI:136*i=I at *
       clear hI
       have hdec:decide ((I:Int) < (L:Int))=false:=decide_eq_false (by omega)
       have hdec2:decide (I < L)=false:=decide_eq_false (by omega)
       go_wp2
       go_loopg [8,11] (n+136) (fun g4 s8 s11 wq=>∃ (m sg sc:Nat) (o:ByteArray) (Fm:Bs),136*m+g4=n+136∧1≤g4∧s11=.string o∧o.size=136*m∧s8=.slice (some ⟨sg,0,none⟩) 200 sc∧200≤sc∧Holds encB wq sg 0 Fm∧Fm.size=200∧Below w.heap.size w wq∧Hid (Fm=front (permN d m) 200)∧Hid (∀ j,j < 136*m→o.data[j]! = streamAt d j))
       case atStart=>exact ⟨0,sg,sc,ByteArray.empty,F,by omega,by omega,rfl,rfl,rfl,hsc,hSf,by rw [HFF.out,front_size],hb,HFF,fun j hj=>by omega⟩
       case round =>
        clear hSf HFF hsc
        obtain ⟨m,sg,sc,o,Fm,hg4,hg41,rfl,ho,rfl,hsc,hF,hFs,hb,HF,HO⟩:=hrel
        have Ho:Hid (o.size=136*m):=ho
        have hob:o.size≤n+136:=by omega
        by_cases hlt:o.size < n
        · have hlt':(o.size:Int) < (n:Int):=by omega
          obtain ⟨Q,hQ⟩:∃ Q,front (permN d m) 136=Q:=⟨_,rfl⟩
          have hQs:Q.size=136:=by rw [← hQ,front_size]
          have hQa:∀ j,j < 136→Q[j]! = byteOf (permN d m) j:=fun j hj=>by rw [← hQ,front_at _ _ _ hj]
          have hHQ:Holds encB wr sg 0 Q:=by
           have h1:=front_front (permN d m)
           rw [← HF.out,hQ] at h1
           exact Holds.front hF h1.1 h1.2
          have hnx:=out_next o d m Q hQs hQa ho HO
          have HNX:Hid ((o++⟨Q⟩).size=136*(m+1)∧∀ j,j < 136*(m+1)→(o++(⟨Q⟩:ByteArray)).data[j]! = streamAt d j):=hnx
          obtain ⟨PB,hPB⟩:∃ x,permB Fm=x:=⟨_,rfl⟩
          have hps:PB.size=200:=by rw [← hPB,permB,front_size]
          have HN:Hid (PB=front (permN d (m+1)) 200):=by
           show PB=front (perm (permN d m)) 200
           rw [← hPB,HF.out,permB_front _ (permN_size d hab m)]
          have HPB:Hid (PB=permB Fm):=hPB.symm
          have kc1:=conv_str Tryz.prog 23 9 5 slice22 int5 str9 wr sg 0 136 sc Q hHQ hQs
          have kc2:=conv_str Tryz.prog 23 9 5 slice22 int5 str9 wr sg 0 200 sc Fm hF hFs
          have hsc0:(sc=0)=False:=eq_false (by omega)
          have hsc1:(136:Int)≤(sc:Int):=by omega
          clear hQ hQa hHQ hnx hPB HO ho
          go_wp2_with fail
          refine (refPermute_any ⟨Fm⟩ _ hFs).mono ?_
          rintro r w5 ⟨rfl,hb5⟩
          have e5:(ByteArray.mk (permB (ByteArray.mk Fm).data))=ByteArray.mk PB:=congrArg ByteArray.mk HPB.out.symm
          rw [e5]
          clear e5
          obtain ⟨sc6,w6,hcv6,hle6,hH6,hb6⟩:=conv200 w5 PB hps
          have hb8:Below w.heap.size w w6:=(hb.trans (hb5.mono hb.size)).trans (hb6.mono (by have:=hb5.size;have:=hb.size;omega))
          go_wp2
          go_roundg (gk - 136)
          case measure=>have:=Ho.out;omega
          case rel=>exact ⟨m+1,w5.heap.size,sc6,o++(ByteArray.mk Q),PB,by have:=Ho.out;omega,by have:=Ho.out;omega,rfl,HNX.out.1,rfl,hle6,hH6,hps,hb8,HN,HNX.out.2⟩
        · have hge:(n:Int)≤(o.size:Int):=by omega
          have hex:=stream_bytes o d n m ho (by omega) HO
          have HEX:Hid (o.extract 0 n=⟨streamL d n⟩):=hex
          clear hex ho HO
          go_wp2
          go_ret
          rw [← HDD.out,← HEX.out]
          exact ⟨rfl,hb⟩
end Go.Proofs.YtmkllfekhehagafGreat.SP
namespace Go.Proofs.YtmkllfekhehagafGreat.SP
open Go.RowKit Go.Sort Go.Deep
theorem Holds.prefix {α:Type} [Inhabited α] {f:α→Value} {w:World} {b o:Nat} {d e:Array α} (h:Holds f w b o d) (hs:e.size≤d.size) (he:∀ j,j < e.size→e[j]! = d[j]!):Holds f w b o e:=by
 intro j hj
 rw [he j hj]
 exact h j (by omega)
theorem lentTo_front (s:ByteArray) (k j:Nat) (hj:j < s.data.size):(lentTo s k)[j]! = s.data[j]!:=by
 induction k with
 | zero=>rw [lent_front s j hj,getElem!_pos s.data j hj]
 | succ k ih =>
  show ((lentTo s k).setIfInBounds (s.size+k) (fill (s.size+k)))[j]! = _
  have:s.data.size=s.size:=rfl
  rw [getElem!_set_other _ _ _ _ (by omega),ih]
theorem holds_text {w:World} {b:Nat} (s:ByteArray) (h:Holds encB w b 0 (lent s)):Holds encB w b 0 s.data:=by
 have:s.data.size=s.size:=rfl
 exact Holds.prefix h (by rw [lent_size];omega) (fun j hj=>(lentTo_front s 160 j hj).symm)
end Go.Proofs.YtmkllfekhehagafGreat.SP
namespace Go.Proofs.YtmkllfekhehagafGreat.SP
open Go.RowKit Go.Sort Go.Deep
set_option maxHeartbeats 1000000 in
theorem refHash_any (s:ByteArray) (w:World) (hs:s.size≤1048576) :
 Calls Tryz.prog 208 #[.string s] w fun r w'=>r=.returned (.string ⟨hashL s.data.toList⟩)∧Below w.heap.size w w':=by
 go_enter Tryz.func208,Tryz.ntmps208
 go_wp2_with fail
 refine (refSponge_any s 6 32 _ hs (by decide)).mono ?_
 rintro r w1 ⟨rfl,hb⟩
 rw [← hash_stream]
 go_wp2
 go_ret
 exact ⟨rfl,hb⟩
end Go.Proofs.YtmkllfekhehagafGreat.SP
namespace Go.Proofs.YtmkllfekhehagafGreat.SP
open Go.RowKit Go.Sort Go.Deep
set_option maxHeartbeats 2000000 in
set_option maxRecDepth 100000 in
theorem refTag_any (label:ByteArray) (pa:Option Addr) (pcap:Nat) (ps:List ByteArray) (w:World) (hlab:label.size≤1048576) (hpl:ps.length≤1048576)
 (hP:ps.length=0∨∃ pb po,pa=some ⟨pb,po,none⟩∧∀ j,j < ps.length→w.cell? ⟨pb,po+j,none⟩=some (.string ps[j]!)) (hsz:∀ j,j < ps.length→(ps[j]!).size≤1048576)
 (htot:(framesL label.data.toList (ps.map fun s=>s.data.toList)).length≤1048576) :
 Calls Tryz.prog 139 #[.string label,.slice pa ps.length pcap] w fun e w'=>e=.returned (.string ⟨tagL label.data.toList (ps.map fun s=>s.data.toList)⟩)∧Below w.heap.size w w':=by
 obtain ⟨n,hn⟩:∃ n,ps.length=n:=⟨_,rfl⟩
 rw [hn]
 have Hn:Hid (ps.length=n):=hn
 have hn20:n≤1048576:=by omega
 clear hn
 go_enter Tryz.func139,Tryz.ntmps139
 go_wp2_with fail
 refine (Frame_any label _ hlab).mono ?_
 rintro e w1 ⟨o1,rfl,ho1,hb1⟩
 go_wp2
 go_loopg [5,6] n (fun g s5 s6 wr=>∃ (k:Nat) (o:ByteArray),k+g=n∧s6=.int .i64 k∧s5=.string o∧Below w.heap.size w wr∧Hid (o.data.toList=framesL label.data.toList ((ps.map fun s=>s.data.toList).take k)))
 case atStart =>
  refine ⟨0,o1,by omega,rfl,rfl,hb1,?_⟩
  rw [List.take_zero]
  unfold framesL
  rw [List.flatMap_nil,List.append_nil]
  exact ho1
 case round =>
  clear ho1 hb1
  obtain ⟨k,o,hk,rfl,rfl,hb,HE⟩:=hrel
  by_cases hlt:k < n
  · obtain ⟨pb,po,rfl,hPj⟩:∃ pb po,pa=some ⟨pb,po,none⟩∧∀ j,j < ps.length→w.cell? ⟨pb,po+j,none⟩=some (.string ps[j]!):=by
     rcases hP with h | h
     · have:=Hn.out;omega
     · exact h
    have hvc:=hPj k (by have:=Hn.out;omega)
    have hszk:=hsz k (by have:=Hn.out;omega)
    obtain ⟨s,hs⟩:∃ s,ps[k]! = s:=⟨_,rfl⟩
    rw [hs] at hvc hszk
    have HS:Hid (s=ps[k]!):=hs.symm
    have hvc':wr.cell? ⟨pb,po+k,none⟩=some (.string s):=by rw [hb.cell (p:=⟨pb,po+k,none⟩) (World.block_lt_of_cell? _ _ hvc)];exact hvc
    have l1:(k:Int) < (n:Int):=by omega
    clear hs hvc hPj
    go_wp2_with fail
    refine (Frame_any s _ hszk).mono ?_
    rintro e w2 ⟨o2,rfl,ho2,hb2⟩
    have HO2:Hid (o2.data.toList=frameL s.data.toList):=ho2
    have hos:o.size≤1048576:=by
     have h1:o.data.toList.length=o.size:=Array.length_toList
     rw [HE.out] at h1
     have:=framesL_take label.data.toList (ps.map fun s=>s.data.toList) k
     omega
    have ho2s:o2.size≤1048580:=by
     have h1:o2.data.toList.length=o2.size:=Array.length_toList
     have h2:s.data.toList.length=s.size:=Array.length_toList
     rw [ho2,frameL_length] at h1
     omega
    clear ho2
    go_wp2
    go_roundg (gk - 1)
    case measure=>omega
    case rel =>
     refine ⟨k+1,o++o2,by omega,by go_num,rfl,hb.trans (hb2.mono hb.size),?_⟩
     have hkl:k < (ps.map fun s=>s.data.toList).length:=by rw [List.length_map];have:=Hn.out;omega
     have hkl2:k < ps.length:=by have:=Hn.out;omega
     rw [take_snoc_getD _ k hkl,framesL_snoc,ByteArray.data_append,Array.toList_append,HE.out,HO2.out,getElem!_pos (ps.map fun s=>s.data.toList) k hkl,List.getElem_map,HS.out,getElem!_pos ps k hkl2]
     rfl
  · have l1:(n:Int)≤(k:Int):=by omega
    have HE2:Hid (o.data.toList=framesL label.data.toList (ps.map fun s=>s.data.toList)):=by
     have e1:(ps.map fun s=>s.data.toList).take k=ps.map fun s=>s.data.toList:=List.take_of_length_le (by rw [List.length_map];have:=Hn.out;omega)
     rw [e1] at HE
     exact HE
    have hos:o.size≤1048576:=by
     have h1:o.data.toList.length=o.size:=Array.length_toList
     rw [HE2.out] at h1
     omega
    clear HE
    go_wp2_with fail
    refine (refHash_any o _ hos).mono ?_
    rintro e w3 ⟨rfl,hb3⟩
    rw [HE2.out]
    go_wp2
    go_ret
    exact ⟨rfl,hb.trans (hb3.mono hb.size)⟩
end Go.Proofs.YtmkllfekhehagafGreat.SP
namespace Go.Proofs.YtmkllfekhehagafGreat.SP
open Go.RowKit Go.Sort Go.Deep
end Go.Proofs.YtmkllfekhehagafGreat.SP
namespace Go.Proofs.YtmkllfekhehagafGreat
open Go.RowKit Go.Sort Go.Deep
end Go.Proofs.YtmkllfekhehagafGreat
set_option linter.unusedVariables false
set_option linter.unusedSimpArgs false
namespace Go.Proofs.YtmkllfekhehagafGreat
open Go.RowKit Go.Sort
variable {P:Nat} [NeZero P]
def rl0:List Value:=[.int .u64 18446744069414583343,.int .u64 18446744073709551615,.int .u64 18446744073709551615,.int .u64 18446744073709551615,.int .u64 4294968273,.int .u64 0,.int .u64 0,.int .u64 0]
def rv0:Value:=.agg rl0.toArray
structure Fl3 (P:Nat) [NeZero P]:Prop extends Fld P where
 ref:RefP 18446744069414583343 18446744073709551615 18446744073709551615 18446744073709551615 4294968273 0 0 0 P
theorem rMake_c:Gives 136 #[.int .i64 0] rv0:=fun w=>(rMake0 w).mono (by rintro e w' ⟨v,rfl,hb,rfl⟩;exact ⟨_,rfl,hb,rfl⟩)
theorem rAdd_c (h:Fl3 P) (x y:Fin P):Gives 61 #[rv0,fv x,fv y] (fv (x+y)):=fun w =>
 (rAdd_R h.ref (h.four x) (h.four y) w).mono (by rintro e w' ⟨v,rfl,hb,hF⟩;exact ⟨_,rfl,hb,hF.nv⟩)
theorem rMul_c (h:Fl3 P) (x y:Fin P):Gives 59 #[rv0,fv x,fv y] (fv (x*y)):=fun w =>
 (rMul_R h.ref (h.four x) (h.four y) w).mono (by rintro e w' ⟨v,rfl,hb,hF⟩;exact ⟨_,rfl,hb,hF.nv⟩)
theorem rSub_c (h:Fl3 P) (x y:Fin P):Gives 51 #[rv0,fv x,fv y] (fv (x - y)):=fun w =>
 (rSub_any _ _ _ _ _ _ _ _ P _ _ x.val y.val h.ref (h.four x) (h.four y) y.isLt w).mono (by rintro e w' ⟨v,rfl,hb,hF⟩;rw [sub_fin] at hF;exact ⟨_,rfl,hb,hF.nv⟩)
theorem rInv_c (h:Fl3 P) (x:Fin P):Gives 73 #[rv0,fv x] (fv (EC.inv x)):=fun w =>
 (rInv_any _ _ _ _ _ _ _ _ P _ x.val h.ref (h.four x) w).mono (by rintro e w' ⟨v,rfl,hb,hF⟩;exact ⟨_,rfl,hb,hF.nv⟩)
theorem rZero_t (h:Fl3 P) {x:Fin P} (e:x=0):Gives 140 #[fv x] (.bool true):=fun w =>
 (rZero_any _ _ (h.four x) w).mono (by
  rintro e w' ⟨v,rfl,hb,rfl⟩
  refine ⟨_,rfl,hb,?_⟩
  rw [decide_eq_true (by rw [e,EC.val_zero])])
theorem rZero_f (h:Fl3 P) {x:Fin P} (e:¬ x=0):Gives 140 #[fv x] (.bool false):=fun w =>
 (rZero_any _ _ (h.four x) w).mono (by
  rintro e w' ⟨v,rfl,hb,rfl⟩
  refine ⟨_,rfl,hb,?_⟩
  rw [decide_eq_false (fun h=>e (Fin.ext (by rw [EC.val_zero];exact h)))])
theorem rSmall1_c (h:Fl3 P):Gives 50 #[.int .u64 1] (fv (1:Fin P)):=fun w =>
 (rSmall_any 1 (by decide) w).mono (by rintro e w' ⟨v,rfl,hb,rfl⟩;exact ⟨_,rfl,hb,one_fv h.toFld⟩)
theorem rSmall7_c (h:Fl3 P):Gives 50 #[.int .u64 7] (fv (7:Fin P)):=fun w =>
 (rSmall_any 7 (by decide) w).mono (by rintro e w' ⟨v,rfl,hb,rfl⟩;exact ⟨_,rfl,hb,seven_fv h.toFld⟩)
theorem eqR (h:Fld P) (x y:Fin P) (w:World):(binOp .eql 54 (fv x) (fv y)).run Tryz.prog w=.ok (.bool (decide (x=y))) w:=by
 have h1:(binOp .eql 54 (fv x) (fv y)).run Tryz.prog w=.ok (.bool (decide (x.val % 18446744073709551616=y.val % 18446744073709551616∧x.val / 18446744073709551616 % 18446744073709551616=y.val / 18446744073709551616 % 18446744073709551616∧x.val / 340282366920938463463374607431768211456 % 18446744073709551616=y.val / 340282366920938463463374607431768211456 % 18446744073709551616∧x.val / 6277101735386680763835789423207666416102355444464034512896 % 18446744073709551616=y.val / 6277101735386680763835789423207666416102355444464034512896 % 18446744073709551616))) w:=by
  show (binOp .eql 54 (.agg _) (.agg _)).run Tryz.prog w=_
  rw [run_eql_struct]
  have h2:=eqR_d 9998 (x.val % 18446744073709551616) (x.val / 18446744073709551616 % 18446744073709551616) (x.val / 340282366920938463463374607431768211456 % 18446744073709551616) (x.val / 6277101735386680763835789423207666416102355444464034512896 % 18446744073709551616) (y.val % 18446744073709551616) (y.val / 18446744073709551616 % 18446744073709551616) (y.val / 340282366920938463463374607431768211456 % 18446744073709551616) (y.val / 6277101735386680763835789423207666416102355444464034512896 % 18446744073709551616) w
  unfold wn
  rw [h2,Result.andThen_ok]
 rw [h1]
 simp only [wn_inj (h.top x) (h.top y),← Fin.ext_iff]
theorem eqR_t (h:Fld P) {x y:Fin P} (e:x=y) (w:World):(binOp .eql 54 (fv x) (fv y)).run Tryz.prog w=.ok (.bool true) w:=by rw [eqR h,decide_eq_true e]
theorem eqR_f (h:Fld P) {x y:Fin P} (e:¬ x=y) (w:World):(binOp .eql 54 (fv x) (fv y)).run Tryz.prog w=.ok (.bool false) w:=by rw [eqR h,decide_eq_false e]
theorem neR (h:Fld P) (x y:Fin P) (w:World):(binOp .neq 54 (fv x) (fv y)).run Tryz.prog w=.ok (.bool (!decide (x=y))) w:=by
 have h1:(binOp .neq 54 (fv x) (fv y)).run Tryz.prog w=.ok (.bool (!decide (x.val % 18446744073709551616=y.val % 18446744073709551616∧x.val / 18446744073709551616 % 18446744073709551616=y.val / 18446744073709551616 % 18446744073709551616∧x.val / 340282366920938463463374607431768211456 % 18446744073709551616=y.val / 340282366920938463463374607431768211456 % 18446744073709551616∧x.val / 6277101735386680763835789423207666416102355444464034512896 % 18446744073709551616=y.val / 6277101735386680763835789423207666416102355444464034512896 % 18446744073709551616))) w:=neqR _ _ _ _ _ _ _ _ w
 rw [h1]
 simp only [wn_inj (h.top x) (h.top y),← Fin.ext_iff]
theorem neR_f (h:Fld P) {x y:Fin P} (e:x=y) (w:World):(binOp .neq 54 (fv x) (fv y)).run Tryz.prog w=.ok (.bool false) w:=by rw [neR h,decide_eq_true e];rfl
theorem neR_t (h:Fld P) {x y:Fin P} (e:¬ x=y) (w:World):(binOp .neq 54 (fv x) (fv y)).run Tryz.prog w=.ok (.bool true) w:=by rw [neR h,decide_eq_false e];rfl
theorem ws_none:Value.agg #[.int .u64 0,.int .u64 0,.int .u64 0,.int .u64 0,.int .u64 1,.int .u64 0,.int .u64 0,.int .u64 0,.int .u64 0,.int .u64 0,.int .u64 0,.int .u64 0]=.agg (([.int .u64 0,.int .u64 0,.int .u64 0,.int .u64 0]:List Value)++(([.int .u64 1,.int .u64 0,.int .u64 0,.int .u64 0]:List Value)++([.int .u64 0,.int .u64 0,.int .u64 0,.int .u64 0]:List Value))).toArray:=rfl
theorem build_none (h:Fld P) (w:World):(Instr.build 56 #[(1,fv (1:Fin P))]).run Tryz.prog w=.ok (rv (0:Fin P) 1 0) w:=by
 unfold rv
 rw [← ws_zero,← ws_one h,← one_fv h,← ws_none]
 kernel_rfl
theorem rSqrt_y (h:Fl3 P) {m y:Fin P} (e:rt m=some y):Gives 183 #[rv0,fv m] (.tuple #[fv y,.bool true]):=fun w =>
 (rSqrt_any _ _ _ _ _ _ _ _ P _ m.val h.ref h.p4 (h.four m) w).mono (by rintro e' w' ⟨v,rfl,hb,hF⟩;exact ⟨_,rfl,hb,hF.val.1 y e⟩)
theorem rSqrt_n (h:Fl3 P) {m:Fin P} (e:rt m=none):Gives 183 #[rv0,fv m] (.tuple #[fv (0:Fin P),.bool false]):=fun w =>
 (rSqrt_any _ _ _ _ _ _ _ _ P _ m.val h.ref h.p4 (h.four m) w).mono (by rintro e' w' ⟨v,rfl,hb,hF⟩;exact ⟨_,rfl,hb,hF.val.2 e⟩)
end Go.Proofs.YtmkllfekhehagafGreat
