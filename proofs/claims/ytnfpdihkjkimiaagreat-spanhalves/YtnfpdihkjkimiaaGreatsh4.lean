import Derived.Lib.SliceRun
import Derived.Deep.AppendSrc
import Derived.Lib.AppendZeros
import Derived.Lib.ConvBytes
import Derived.BigQuiet
import Derived.Deep.LoopGhost
import Derived.Deep.RegionHeld3
import Derived.Lib.LazyBuf
import Derived.RangeFuncNested
import Derived.RangeFuncBound
import Derived.RangeFuncCalls
import Derived.RangeFuncLeaves
import Derived.Shelf.Abstract
import Derived.Shelf.RegionOpen
import Derived.WalkKit
import Derived.OwnWalkIn
import Derived.TacticsInMore
import Derived.LoopNIn
import Derived.LoopIn
import Derived.Deep.RegionWith
import Derived.Deep.CutRange
import Derived.Deep.DeepCutAuto
import Derived.Deep.OwnRows
import Derived.Great.BuildSlice
import Derived.Laws.AppendOwn
import Derived.Laws.IdiomCopy
import Derived.Test.YtnfpdihkjkimiaaGreatsh3
set_option linter.unusedVariables false
set_option linter.constructorNameAsVariable false
set_option linter.unusedSimpArgs false
set_option maxRecDepth 1000000
set_option maxHeartbeats 4000000
namespace Go.Proofs.YtnfpdihkjkimiaaGreat
namespace SP
open Go.Sort
theorem low_bit (v:BitVec 64) (i:Nat) (h:i<8):(low v).toNat.testBit i=v.getLsbD i:=by
 unfold low
 rw[UInt8.toNat_ofNat',Nat.testBit_mod_two_pow,BitVec.getLsbD]
 simp[h]
theorem frontTo_at (d:St) (n k j:Nat) (hk:k≤n) (hj:j<n):(frontTo d n k)[j]! = if j<k then byteOf d j else 0:=by
 induction k with
 | zero =>
  have h':j<(Array.replicate n (0:UInt8)).size:=by rw[Array.size_replicate];exact hj
  rw[frontTo,getElem!_pos (Array.replicate n (0:UInt8)) j h',Array.getElem_replicate,if_neg (by omega)]
 | succ k ih =>
  rw[frontTo]
  by_cases h:j=k
  ·subst h
   rw[getElem!_set_same _ _ _ (by rw[frontTo_size];exact hj),if_pos (by omega)]
  ·rw[getElem!_set_other _ _ _ _ h,ih (by omega)]
   by_cases h1:j<k
   ·rw[if_pos h1,if_pos (by omega)]
   ·rw[if_neg h1,if_neg (by omega)]
theorem front_at (d:St) (n j:Nat) (hj:j<n):(front d n)[j]! = byteOf d j:=by
 unfold front
 rw[frontTo_at d n n j (Nat.le_refl _) hj,if_pos hj]
/-! ### The sponge, byte by byte -/
structure Sp where
  d : St
  p : Bs
  h : Nat
structure Ok (S:Sp):Prop where
 d25:S.d.size=25
 p136:S.p.size=136
 hlt:S.h<136
def soakL (S:Sp):Sp:={ d:=perm (mixTo S.p S.d 17),p:=S.p,h:=0 }
def putB (S:Sp) (x:UInt8):Sp:=
 if S.h+1=136 then soakL { d:=S.d,p:=S.p.setIfInBounds S.h x,h:=S.h } else { d:=S.d,p:=S.p.setIfInBounds S.h x,h:=S.h+1 }
def takeL (S:Sp) (l:List UInt8):Sp:=l.foldl putB S
def splice (p:Bs):Nat→List UInt8→Bs
 | _,[]=>p
 | i,x :: r=>splice (p.setIfInBounds i x) (i+1) r
theorem takeL_append (S:Sp) (a b:List UInt8):takeL S (a++b)=takeL (takeL S a) b:=List.foldl_append
theorem splice_size (p:Bs) (i:Nat) (l:List UInt8):(splice p i l).size=p.size:=by
 induction l generalizing p i with
 | nil=>rfl
 | cons x r ih=>rw[splice,ih,Array.size_setIfInBounds]
theorem splice_at (p:Bs) (i:Nat) (l:List UInt8) (j:Nat) (hl:i+l.length≤p.size) (hj:j<p.size):(splice p i l)[j]! = if i≤j∧j<i+l.length then l[j-i]! else p[j]!:=by
 induction l generalizing p i with
 | nil=>simp[splice];omega
 | cons x r ih =>
  simp only[List.length_cons] at hl
  rw[splice,ih _ _ (by rw[Array.size_setIfInBounds];omega) (by rw[Array.size_setIfInBounds];exact hj)]
  by_cases h:j=i
  ·subst h
   rw[if_neg (by omega),getElem!_set_same _ _ _ hj,if_pos (by simp),Nat.sub_self]
   rfl
  ·rw[getElem!_set_other _ _ _ _ h]
   by_cases h1:i+1≤j∧j<i+1+r.length
   ·rw[if_pos h1,if_pos (by simp;omega),show j-i=(j-(i+1))+1 by omega]
    rfl
   ·rw[if_neg h1,if_neg (by simp;omega)]
theorem soak_mk (d:St) (p:Bs) (h:Nat):soakL ⟨d,p,h⟩=⟨perm (mixTo p d 17),p,0⟩:=by unfold soakL;rfl
theorem soakL_d (S:Sp):(soakL S).d=perm (mixTo S.p S.d 17):=by
 obtain ⟨d,p,h⟩:=S
 rw[soak_mk]
theorem soakL_p (S:Sp):(soakL S).p=S.p:=by
 obtain ⟨d,p,h⟩:=S
 rw[soak_mk]
theorem soakL_h (S:Sp):(soakL S).h=0:=by
 obtain ⟨d,p,h⟩:=S
 rw[soak_mk]
theorem soak_ok {S:Sp} (h1:S.d.size=25) (h2:S.p.size=136):Ok (soakL S):=by
 have hd:(mixTo S.p S.d 17).size=25:=by rw[mixTo_size,h1]
 refine ⟨?_,by rw[soakL_p,h2],?_⟩
 ·rw[soakL_d]
  exact perm_size _ hd
 ·rw[soakL_h]
  decide
theorem putB_ok {S:Sp} (h:Ok S) (x:UInt8):Ok (putB S x):=by
 have:=h.hlt
 unfold putB
 by_cases e:S.h+1=136
 ·rw[if_pos e]
  exact soak_ok h.d25 (by show (S.p.setIfInBounds _ _).size=136;rw[Array.size_setIfInBounds];exact h.p136)
 ·rw[if_neg e]
  exact ⟨h.d25,by show (S.p.setIfInBounds _ _).size=136;rw[Array.size_setIfInBounds];exact h.p136,by show S.h+1<136;omega⟩
theorem takeL_ok {S:Sp} (h:Ok S) (l:List UInt8):Ok (takeL S l):=by
 induction l generalizing S with
 | nil=>exact h
 | cons x r ih=>exact ih (putB_ok h x)
theorem takeL_chunk (S:Sp) (l:List UInt8) (hl:l≠[]) (hle:S.h+l.length≤136) :
 takeL S l=if S.h+l.length=136 then soakL { d:=S.d,p:=splice S.p S.h l,h:=S.h } else { d:=S.d,p:=splice S.p S.h l,h:=S.h+l.length }:=by
 induction l generalizing S with
 | nil=>exact absurd rfl hl
 | cons x r ih =>
  show takeL (putB S x) r=_
  simp only[List.length_cons] at hle ⊢
  cases r with
  | nil =>
   unfold putB takeL splice
   simp only[List.foldl_nil,List.length_nil]
   by_cases e:S.h+1=136
   ·rw[if_pos e,if_pos (by omega)];rfl
   ·rw[if_neg e,if_neg (by omega)];rfl
  | cons y r' =>
   have e:¬ S.h+1=136:=by simp only[List.length_cons] at hle;omega
   have hp:putB S x = { d:=S.d,p:=S.p.setIfInBounds S.h x,h:=S.h+1 }:=by unfold putB;rw[if_neg e]
   rw[hp,ih _ (by simp) (by simp only[List.length_cons] at hle ⊢;omega)]
   simp only[splice,List.length_cons]
   by_cases e2:S.h+(r'.length+1+1)=136
   ·rw[if_pos (by omega),if_pos e2];rfl
   ·rw[if_neg (by omega),if_neg e2,show S.h+1+(r'.length+1)=S.h+(r'.length+1+1) by omega]
/-! ### The end -/
def ended (p : Bs) (h : Nat) (e : UInt8) : Bs:=
  let q:=(splice p h (List.replicate (136-h) 0)).setIfInBounds h e
  q.setIfInBounds 135 (q[135]! ^^^ 128)
def finalL (S:Sp) (e:UInt8):Sp:=soakL { d:=S.d,p:=ended S.p S.h e,h:=S.h }
def tailpad (h:Nat) (e:UInt8):List UInt8:=
 (e :: List.replicate (135-h) 0).set (135-h) ((e :: List.replicate (135-h) 0)[135-h]! ^^^ 128)
theorem tailpad_length (h:Nat) (e:UInt8) (hh:h<136):(tailpad h e).length=136-h:=by
 unfold tailpad
 rw[List.length_set,List.length_cons,List.length_replicate]
 omega
theorem bs_ext (a b:Bs) (n:Nat) (ha:a.size=n) (hb:b.size=n) (h:∀ j,j<n→a[j]! = b[j]!):a=b:=by
 apply Array.ext (by omega)
 intro i h1 h2
 have:=h i (by omega)
 rwa[getElem!_pos a i h1,getElem!_pos b i h2] at this
theorem pad_at (h:Nat) (e:UInt8) (j:Nat) (hj:j<136-h) (hh:h<136):(tailpad h e)[j]! = (if j=0 then e else 0) ^^^ (if j=135-h then 128 else 0):=by
 have hc:∀ j,j<136-h→(e :: List.replicate (135-h) (0:UInt8))[j]! = if j=0 then e else 0:=by
  intro j hj
  cases j with
  | zero=>rfl
  | succ j =>
   have hl:j+1<(e :: List.replicate (135-h) (0:UInt8)).length:=by rw[List.length_cons,List.length_replicate];omega
   rw[getElem!_pos (e :: List.replicate (135-h) (0:UInt8)) (j+1) hl]
   simp
 have hlen:(tailpad h e).length=136-h:=tailpad_length h e hh
 have hl:j<(e :: List.replicate (135-h) (0:UInt8)).length:=by rw[List.length_cons,List.length_replicate];omega
 rw[getElem!_pos (tailpad h e) j (by rw[hlen];exact hj)]
 unfold tailpad
 rw[List.getElem_set]
 by_cases h1:135-h=j
 ·rw[if_pos h1,hc (135-h) (by omega),h1,if_pos (rfl:j=j)]
 ·rw[if_neg h1,if_neg (show ¬ j=135-h by omega)]
  have:=hc j hj
  rw[getElem!_pos (e :: List.replicate (135-h) (0:UInt8)) j hl] at this
  rw[this]
  simp
theorem ended_size (p:Bs) (h:Nat) (e:UInt8):(ended p h e).size=p.size:=by
 unfold ended
 simp only[Array.size_setIfInBounds,splice_size]
theorem rep_list_at (n j:Nat) (h:j<n):(List.replicate n (0:UInt8))[j]! = 0:=by
 rw[getElem!_pos _ j (by simpa using h)]
 simp
theorem ended_eq (p:Bs) (h:Nat) (e:UInt8) (hp:p.size=136) (hh:h<136):ended p h e=splice p h (tailpad h e):=by
 have hs:(splice p h (List.replicate (136-h) 0)).size=136:=by rw[splice_size,hp]
 refine bs_ext _ _ 136 (by rw[ended_size,hp]) (by rw[splice_size,hp]) (fun j hj=>?_)
 have hq:∀ j,j<136→((splice p h (List.replicate (136-h) 0)).setIfInBounds h e)[j]! = if j<h then p[j]! else if j=h then e else 0:=by
  intro j hj
  by_cases h1:j=h
  ·rw[h1,getElem!_set_same _ _ _ (by omega),if_neg (by omega),if_pos rfl]
  ·rw[getElem!_set_other _ _ _ _ h1,splice_at _ _ _ _ (by rw[List.length_replicate,hp];omega) (by omega),List.length_replicate]
   by_cases h2:j<h
   ·rw[if_neg (by omega),if_pos h2]
   ·rw[if_pos (by omega),if_neg h2,if_neg h1,rep_list_at _ _ (by omega)]
 have hR:(splice p h (tailpad h e))[j]! = if j<h then p[j]! else (if j=h then e else 0) ^^^ (if j=135 then 128 else 0):=by
  rw[splice_at _ _ _ _ (by rw[tailpad_length h e hh,hp];omega) (by omega),tailpad_length h e hh]
  by_cases h2:j<h
  ·rw[if_neg (show ¬ (h≤j∧j<h+(136-h)) by omega),if_pos h2]
  ·rw[if_pos (show h≤j∧j<h+(136-h) by omega),if_neg h2,pad_at h e _ (by omega) hh]
   have e1:(j-h=0)=(j=h):=by apply propext;omega
   have e2:(j-h=135-h)=(j=135):=by apply propext;omega
   simp only[e1,e2]
 have hL:(ended p h e)[j]! = if j<h then p[j]! else (if j=h then e else 0) ^^^ (if j=135 then 128 else 0):=by
  unfold ended
  by_cases h135:j=135
  ·rw[h135,getElem!_set_same _ _ _ (by rw[Array.size_setIfInBounds,hs];decide),hq 135 (by decide),if_neg (show ¬ 135<h by omega),if_neg (show ¬ 135<h by omega),if_pos (rfl:135=135)]
  ·rw[getElem!_set_other _ _ _ _ h135,hq j hj]
   by_cases h2:j<h
   ·rw[if_pos h2,if_pos h2]
   ·rw[if_neg h2,if_neg h2,if_neg h135]
    simp
 rw[hL,hR]
theorem finalL_eq {S:Sp} (h:Ok S) (e:UInt8):finalL S e=takeL S (tailpad S.h e):=by
 have:=h.hlt
 have hl:=tailpad_length S.h e h.hlt
 rw[takeL_chunk S _ (by intro c;rw[c] at hl;simp at hl;omega) (by omega),if_pos (by omega)]
 unfold finalL
 rw[ended_eq _ _ _ h.p136 h.hlt]
end SP
namespace SP
open Go.RowKit Go.Sort Go.Deep
theorem Only.widen {b o n o' n':Nat} {w w':World} (h:Only b o n w w') (h1:o'≤o) (h2:o+n≤o'+n'):Only b o' n' w w':=
 ⟨h.os,h.tape,h.output,h.size,h.block,fun q hq=>h.cell q (by omega),h.froz⟩
structure HSp (w:World) (b:Nat) (S:Sp):Prop where
 d:Holds enc w b 0 S.d
 p:Holds encB w b 25 S.p
 h:w.cell? ⟨b,161,none⟩=some (.int .i64 (S.h:Int))
 f:w.frozen? ⟨b,161,none⟩=false
theorem HSp.drew {w:World} {b:Nat} {S:Sp} (h:HSp w b S):HSp w.drew b S:=⟨h.d,h.p,h.h,h.f⟩
theorem HSp.lt {w:World} {b:Nat} {S:Sp} (h:HSp w b S):b<w.heap.size:=World.block_lt_of_cell? _ _ h.h
theorem HSp.below {w w':World} {b B:Nat} {S:Sp} (h:HSp w b S) (k:Below B w w') (hb:b<B):HSp w' b S:=
 ⟨Holds.below h.d k hb,Holds.below h.p k hb,by rw[k.cell (p:=⟨b,161,none⟩) hb];exact h.h,by rw[k.frozen (p:=⟨b,161,none⟩) hb];exact h.f⟩
theorem soak_any (b:Nat) (S:Sp) (w:World) (h25:S.d.size=25) (h136:S.p.size=136) (hS:HSp w b S) :
 Calls Tryz.prog 161 #[.pointer (some ⟨b,0,none⟩)] w fun e w'=>e=.returned (.tuple #[])∧Only b 0 162 w w'∧HSp w' b (soakL S):=by
 obtain ⟨d,p,h⟩:=S
 dsimp only at h25 h136
 have hD:Holds enc w b 0 d:=hS.d
 have hP:Holds encB w b 25 p:=hS.p
 have hc:=hS.h
 have hf:=hS.f
 dsimp only at hc
 rw[soak_mk]
 clear hS
 have hps:(perm (mixTo p d 17)).size=25:=perm_size _ (by rw[mixTo_size,h25])
 generalize hpm:perm (mixTo p d 17)=pd at hps ⊢
 have HPM:Hid (perm (mixTo p d 17)=pd):=hpm
 clear hpm
 go_enter Tryz.func161,Tryz.ntmps161
 go_wp2
 go_still_tail 7,mixed
 go_wp2_with fail
 refine (mix_any b 0 b 25 136 136 p d _ h25 (Holds.drew hD) (Holds.drew hP) h136 (by decide) (Nat.le_refl _) (by omega)).mono ?_
 rintro e w1 ⟨rfl,hO1,hD1⟩
 have hO1':Only b 0 25 w w1:=((Only.refl b 0 25 w).drew).trans hO1
 have hD1':Holds enc w1 b 0 (mixTo p d 17):=hD1
 have hP1:=Holds.same hP hO1' (by omega)
 have c1:w1.cell? ⟨b,161,none⟩=some (.int .i64 h):=by rw[hO1'.cell 161 (by omega)];exact hc
 have f1:w1.frozen? ⟨b,161,none⟩=false:=by rw[hO1'.froz];exact hf
 clear hO1 hD1
 go_wp2_with fail
 refine (permute_any b 0 _ _ (by rw[mixTo_size,h25]) hD1').mono ?_
 rintro e w2 ⟨rfl,hO2,hD2⟩
 rw[HPM.out] at hD2
 have hP2:=Holds.same hP1 hO2 (by omega)
 have c2:w2.cell? ⟨b,161,none⟩=some (.int .i64 h):=by rw[hO2.cell 161 (by omega)];exact c1
 have f2:w2.frozen? ⟨b,161,none⟩=false:=by rw[hO2.froz];exact f1
 go_wp2
 go_end0
 have hO3:Only b 161 1 w2 (w2.setCell ⟨b,161,none⟩ (.int .i64 0)):=(Only.refl b 161 1 w2).setCell (by omega) (by omega) _
 have hD3:Holds enc _ b 0 pd:=Holds.same hD2 hO3 (Or.inl (by omega))
 have hP3:Holds encB _ b 25 p:=Holds.same hP2 hO3 (Or.inl (by omega))
 exact ⟨rfl,((hO1'.trans hO2).widen (Nat.le_refl _) (by omega)).trans (hO3.widen (by omega) (by omega)),⟨hD3,hP3,World.cell?_setCell_same _ _ _ c2,by rw[World.frozen?_setCell];exact f2⟩⟩
end SP
namespace SP
open Go.RowKit Go.Sort Go.Deep
theorem ints5:(Tryz.prog.info? 5).map (·.size)=some 1:=by kernel_rfl
theorem holds_splice {w:World} {b o:Nat} {p:Bs} (h:Holds encB w b o p) (i:Nat) (l:List UInt8) (hi:i+l.length≤p.size):Holds encB (w.setCells b (o+i) (l.map encB)) b o (splice p i l):=by
 refine Holds.setCells h _ i (splice_size p i l) (by rw[List.length_map];exact hi) (fun j hj=>?_) (fun j hj hout=>?_)
 ·rw[List.length_map] at hj
  rw[splice_at p i l (i+j) hi (by omega),if_pos (by omega),Nat.add_sub_cancel_left,getElem!_pos l j hj,List.getElem_map]
 ·rw[List.length_map] at hout
  rw[splice_at p i l j hi hj,if_neg (by omega)]
def piece (bs:Bs) (k n:Nat):List UInt8:=(bs.toList.drop k).take n
theorem piece_length (bs:Bs) (k n:Nat) (h:k+n≤bs.size):(piece bs k n).length=n:=by
 unfold piece
 rw[List.length_take,List.length_drop,Array.length_toList]
 omega
theorem piece_at (bs:Bs) (k n j:Nat) (h:k+n≤bs.size) (hj:j<n) (hl:j<(piece bs k n).length):(piece bs k n)[j]=bs[k+j]!:=by
 have e:(piece bs k n)[j]? = some bs[k+j]!:=by
  unfold piece
  rw[List.getElem?_take_of_lt hj,List.getElem?_drop,Array.getElem?_toList,Array.getElem?_eq_getElem (by omega),getElem!_pos bs (k+j) (by omega)]
 exact (List.getElem?_eq_some_iff.1 e).2
theorem take_piece (bs:Bs) (k n:Nat):bs.toList.take (k+n)=bs.toList.take k++piece bs k n:=List.take_add
theorem copy_piece {w:World} {b h sb o len cap n:Nat} {p bs:Bs} {k:Nat} (hP:Holds encB w b 25 p) (hp:p.size=136) (hB:Holds encB w sb o bs) (hh:h<136) (hk:k+len≤bs.size) (hn:Nat.min len (136-h)=n) :
 (Builtin.copy_ #[23,23] 3 #[.slice (some ⟨b,25+h,none⟩) (136-h) (136-h),.slice (some ⟨sb,o+k,none⟩) len cap]).run Tryz.prog w=.ok (goInt n) (w.setCells b (25+h) ((piece bs k n).map encB)):=by
 have hnl:n≤len:=by rw[← hn];exact Nat.min_le_left _ _
 have hnh:n≤136-h:=by rw[← hn];exact Nat.min_le_right _ _
 have hlen:((piece bs k n).map encB).length=n:=by rw[List.length_map,piece_length bs k n (by omega)]
 have:=run_copy_cells (P:=Tryz.prog) w 23 23 3 5 b (25+h) (136-h) (136-h) ⟨sb,o+k,none⟩ len cap ((piece bs k n).map encB) slice22 ints5 (by rw[hlen,hn])
  (fun j v hj=>by
   obtain ⟨h1,h2⟩:=List.getElem?_eq_some_iff.1 hj
   rw[hlen] at h1
   have hc:=(hB (k+j) (by omega)).1
   rw[List.getElem_map,piece_at bs k n j (by omega) h1] at h2
   have e1:(⟨sb,o+k,none⟩:Addr).add j=⟨sb,o+(k+j),none⟩:=by
    unfold Addr.add
    by_cases h0:j=0
    ·subst h0;rw[if_pos rfl];rfl
    ·rw[if_neg h0,Nat.add_assoc]
   rw[e1,hc,h2])
  (fun j hj=>by
   rw[hlen] at hj
   have:=(hP (h+j) (by omega)).1
   rw[← Nat.add_assoc] at this
   rw[this];rfl)
  (fun j hj=>by
   rw[hlen] at hj
   have:=(hP (h+j) (by omega)).2
   rw[← Nat.add_assoc] at this
   exact this)
  (fun v hv=>by
   obtain ⟨x,_,rfl⟩:=List.mem_map.1 hv
   rfl)
 rw[hlen] at this
 exact this
theorem held_set {w:World} {b:Nat} {d:St} {p:Bs} {v:Value} (hD:Holds enc w b 0 d) (h25:d.size=25) (hP:Holds encB w b 25 p) (h136:p.size=136) (hc:w.cell? ⟨b,161,none⟩=some v) (hf:w.frozen? ⟨b,161,none⟩=false) (m:Nat) :
 HSp (w.setCell ⟨b,161,none⟩ (.int .i64 ((m:Nat):Int))) b ⟨d,p,m⟩:=by
 have hO:Only b 161 1 w (w.setCell ⟨b,161,none⟩ (.int .i64 ((m:Nat):Int))):=(Only.refl b 161 1 w).setCell (by omega) (by omega) _
 have hD3:Holds enc _ b 0 d:=Holds.same hD hO (Or.inl (by omega))
 have hP3:Holds encB _ b 25 p:=Holds.same hP hO (Or.inl (by omega))
 exact ⟨hD3,hP3,World.cell?_setCell_same _ _ _ hc,by rw[World.frozen?_setCell];exact hf⟩
theorem take_any (b:Nat) (S:Sp) (a:Option Addr) (sb so len cap:Nat) (bs:Bs) (w:World) (hok:Ok S) (hS:HSp w b S) (hl:bs.size=len) (hcap:len≤cap) (hbig:len≤1099511627776)
 (hsrc:len=0∨(a=some ⟨sb,so,none⟩∧sb≠b∧Holds encB w sb so bs)) :
 Calls Tryz.prog 160 #[.pointer (some ⟨b,0,none⟩),.slice a len cap] w fun e w'=>e=.returned (.tuple #[])∧Only b 0 162 w w'∧HSp w' b (takeL S bs.toList):=by
 go_enter Tryz.func160,Tryz.ntmps160
 go_wp2
 go_loopg [1] len (fun g s1 wr=>∃ (k:Nat) (a':Option Addr) (Sk:Sp),k+g=len∧s1=.slice a' (len-k) (cap-k)∧(k<len→a'=some ⟨sb,so+k,none⟩)∧HSp wr b Sk∧Only b 0 162 w wr∧Hid (Sk=takeL S (bs.toList.take k)))
 case atStart =>
  refine ⟨0,a,S,by omega,rfl,fun h0=>?_,hS,Only.refl _ _ _ _,rfl⟩
  rcases hsrc with h|⟨h,_,_⟩
  ·omega
  ·exact h
 case round =>
  obtain ⟨k,a',Sk,hk,rfl,ha',hSk,hO,HE⟩:=hrel
  by_cases hlt:k<len
  ·have e1:=ha' hlt
   subst e1
   obtain ⟨_,hne,hB⟩:a=some ⟨sb,so,none⟩∧sb≠b∧Holds encB w sb so bs:=by
    rcases hsrc with h|h
    ·omega
    ·exact h
   have hBr:=Holds.other hB hO hne (by omega)
   have hokk:Ok Sk:=by rw[HE.out];exact takeL_ok hok _
   obtain ⟨q,hh⟩:∃ q,Sk.h=q:=⟨_,rfl⟩
   have hlt136:=hokk.hlt
   have hsz:=hokk.p136
   rw[hh] at hlt136
   have hc:=hSk.h
   have hf:=hSk.f
   rw[hh] at hc
   have hP:=hSk.p
   obtain ⟨n,hn⟩:∃ n,Nat.min (len-k) (136-q)=n:=⟨_,rfl⟩
   have l0:(0:Int)<((len-k:Nat):Int):=by omega
   have hh136:(q:Int)≤136:=by omega
   have Hh:Hid (Sk.h=q):=hh
   clear hh
   have hne136:(136=q)=False:=eq_false (by omega)
   have hn1:1≤n:=by rw[← hn];exact (Nat.le_min).2 ⟨by omega,by omega⟩
   have hnl:n≤len-k:=by rw[← hn];exact Nat.min_le_left _ _
   have hnh:n≤136-q:=by rw[← hn];exact Nat.min_le_right _ _
   have hcp:=copy_piece (w:=wr.drew) (cap:=cap-k) (k:=k) hP hsz hBr hlt136 (by omega) hn
   have hpl:=piece_length bs k n (by omega)
   have hP1:=holds_splice (Holds.drew hP) q (piece bs k n) (by omega)
   have hO1:Only b 0 162 w (wr.drew.setCells b (25+q) ((piece bs k n).map encB)):=hO.drew.setCells _ _ (by omega) (by rw[List.length_map];omega)
   have hOx:Only b 25 136 wr (wr.drew.setCells b (25+q) ((piece bs k n).map encB)):=((Only.refl b 25 136 wr).drew).setCells _ _ (by omega) (by rw[List.length_map];omega)
   have hD1:=Holds.same hSk.d hOx (Or.inl (by rw[hokk.d25];omega))
   have c1:(wr.drew.setCells b (25+q) ((piece bs k n).map encB)).cell? ⟨b,161,none⟩=some (.int .i64 q):=by rw[hOx.cell 161 (by omega)];exact hc
   have f1:(wr.drew.setCells b (25+q) ((piece bs k n).map encB)).frozen? ⟨b,161,none⟩=false:=by rw[hOx.froz];exact hf
   have HT:Hid (takeL S (bs.toList.take (k+n))=takeL Sk (piece bs k n)):=by
    show _=_
    rw[take_piece,takeL_append,← HE.out]
   have HCH:Hid (takeL Sk (piece bs k n)=if q+n=136 then soakL ⟨Sk.d,splice Sk.p q (piece bs k n),q⟩ else ⟨Sk.d,splice Sk.p q (piece bs k n),q+n⟩):=by
    show _=_
    have:=takeL_chunk Sk (piece bs k n) (by intro e;rw[e] at hpl;simp at hpl;omega) (by rw[hpl,Hh.out];omega)
    rw[hpl,Hh.out] at this
    exact this
   have hss:(splice Sk.p q (piece bs k n)).size=136:=by rw[splice_size,hsz]
   have hds:=hokk.d25
   generalize hW1:wr.drew.setCells b (25+q) ((piece bs k n).map encB)=W1 at hcp hP1 hO1 hD1 c1 f1
   generalize splice Sk.p q (piece bs k n)=sp at hP1 hss HCH
   generalize Sk.d=sd at hD1 hds HCH
   clear hOx hW1 hP hBr hokk hpl hSk hsz hn
   have z1:(n:Int)≤((len-k:Nat):Int):=by omega
   by_cases hcn:cap-k=n
   ·have hcn':(cap-k=n)=True:=eq_true hcn
    have HCN:Hid (cap-k=n):=hcn
    clear hcn
    by_cases hfull:q+n=136
    ·have hb:((q:Int)+(n:Int) == 136)=true:=beq_iff_eq.2 (by omega)
     rw[if_pos hfull] at HCH
     go_wp2_with fail
     go_still_tail 9,mixed
     go_wp2_with fail
     refine (soak_any b ⟨sd,sp,q+n⟩ _ hds hss (held_set hD1 hds hP1 hss c1 f1 (q+n))).mono ?_
     rintro e w2 ⟨rfl,hO2,hS2⟩
     go_wp2
     go_roundg (gk-n)
     case measure=>omega
     case rel =>
      refine ⟨k+n,some ⟨sb,so+k,none⟩,soakL ⟨sd,sp,q⟩,by omega,by rw[Nat.sub_sub,Nat.sub_sub],fun hx=>by have:=HCN.out;omega,?_,?_,?_⟩
      ·rw[soak_mk] at hS2 ⊢
       exact hS2
      ·exact (hO1.setCell (o:=161) (by omega) (by omega) _).trans hO2
      ·rw[HT.out,HCH.out];rfl
    ·have hb:((q:Int)+(n:Int) == 136)=false:=beq_eq_false_iff_ne.2 (by omega)
     rw[if_neg hfull] at HCH
     go_wp2_with fail
     go_still_tail 9,mixed
     go_wp2
     go_roundg (gk-n)
     case measure=>omega
     case rel =>
      refine ⟨k+n,some ⟨sb,so+k,none⟩,⟨sd,sp,q+n⟩,by omega,by rw[Nat.sub_sub,Nat.sub_sub],fun hx=>by have:=HCN.out;omega,?_,?_,?_⟩
      ·exact held_set hD1 hds hP1 hss c1 f1 (q+n)
      ·exact hO1.setCell (o:=161) (by omega) (by omega) _
      ·rw[HT.out,HCH.out];rfl
   ·have hcn':(cap-k=n)=False:=eq_false hcn
    by_cases hfull:q+n=136
    ·have hb:((q:Int)+(n:Int) == 136)=true:=beq_iff_eq.2 (by omega)
     rw[if_pos hfull] at HCH
     go_wp2_with fail
     go_still_tail 9,mixed
     go_wp2_with fail
     refine (soak_any b ⟨sd,sp,q+n⟩ _ hds hss (held_set hD1 hds hP1 hss c1 f1 (q+n))).mono ?_
     rintro e w2 ⟨rfl,hO2,hS2⟩
     go_wp2
     go_roundg (gk-n)
     case measure=>omega
     case rel =>
      refine ⟨k+n,some ⟨sb,so+k+n,none⟩,soakL ⟨sd,sp,q⟩,by omega,by rw[Nat.sub_sub,Nat.sub_sub],fun _=>by rw[Nat.add_assoc],?_,?_,?_⟩
      ·rw[soak_mk] at hS2 ⊢
       exact hS2
      ·exact (hO1.setCell (o:=161) (by omega) (by omega) _).trans hO2
      ·rw[HT.out,HCH.out];rfl
    ·have hb:((q:Int)+(n:Int) == 136)=false:=beq_eq_false_iff_ne.2 (by omega)
     rw[if_neg hfull] at HCH
     go_wp2_with fail
     go_still_tail 9,mixed
     go_wp2
     go_roundg (gk-n)
     case measure=>omega
     case rel =>
      refine ⟨k+n,some ⟨sb,so+k+n,none⟩,⟨sd,sp,q+n⟩,by omega,by rw[Nat.sub_sub,Nat.sub_sub],fun _=>by rw[Nat.add_assoc],?_,?_,?_⟩
      ·exact held_set hD1 hds hP1 hss c1 f1 (q+n)
      ·exact hO1.setCell (o:=161) (by omega) (by omega) _
      ·rw[HT.out,HCH.out];rfl
  ·have hk0:k=len:=by omega
   have l0:¬ (0:Int)<((len-k:Nat):Int):=by omega
   go_wp2
   go_end0
   refine ⟨rfl,hO,?_⟩
   have e1:bs.toList.take k=bs.toList:=List.take_of_length_le (by rw[Array.length_toList];omega)
   rw[HE.out,e1] at hSk
   exact hSk
end SP
namespace SP
open Go.RowKit Go.Sort Go.Deep
theorem ofInt_toNat8 (x:UInt8):BitVec.ofInt 8 (x.toNat:Int)=x.toBitVec:=by
 apply BitVec.eq_of_toNat_eq
 rw[BitVec.ofInt_natCast,BitVec.toNat_ofNat]
 exact Nat.mod_eq_of_lt x.toNat_lt
theorem bits_xor8 (x y:UInt8):bits .xor .u8 (ub x) (ub y)=ub (x ^^^ y):=by
 show IntKind.u8.wrap ((BitVec.ofInt 8 (x.toNat:Int) ^^^ BitVec.ofInt 8 (y.toNat:Int)).toNat:Int)=_
 rw[ofInt_toNat8,ofInt_toNat8,← UInt8.toBitVec_xor]
 have h:((x ^^^ y).toNat:Int)<256:=by have:=(x ^^^ y).toNat_lt;omega
 have e:∀ n:Int,IntKind.u8.wrap n=n%256:=fun n=>by simp[IntKind.wrap,IntKind.bits,IntKind.signed]
 rw[e]
 exact Int.emod_eq_of_lt (Int.natCast_nonneg _) h
theorem xor80 (x:UInt8):bits .xor .u8 (ub x) 128=ub (x ^^^ 128):=bits_xor8 x 128
theorem zero5:∀ w:World,(zeroValue 5).run Tryz.prog w=.ok (.int .u8 0) w:=fun _=>by kernel_rfl
theorem clear_piece {w:World} {b q:Nat} {p:Bs} (hP:Holds encB w b 25 p) (hp:p.size=136) (hq:q<136) (ty:TypeId) :
 (Builtin.clear_ #[23] ty #[.slice (some ⟨b,25+q,none⟩) (136-q) (136-q)]).run Tryz.prog w=.ok (.tuple #[]) (w.setCells b (25+q) ((List.replicate (136-q) (0:UInt8)).map encB)):=by
 have h:=Lib.run_clear_slice (P:=Tryz.prog) w 23 5 ty (.int .u8 0) slice22 zero5 rfl rfl b (25+q) (136-q) (136-q) (by omega)
  (fun j hj=>by
   have:=(hP (q+j) (by omega)).1
   rw[← Nat.add_assoc] at this
   rw[this];rfl)
  (fun j hj=>by
   have:=(hP (q+j) (by omega)).2
   rw[← Nat.add_assoc] at this
   exact this)
 rw[List.map_replicate]
 exact h
theorem end_any (b:Nat) (S:Sp) (e:UInt8) (w:World) (hok:Ok S) (hS:HSp w b S) :
 Calls Tryz.prog 126 #[.pointer (some ⟨b,0,none⟩),.int .u8 (ub e)] w fun r w'=>r=.returned (.tuple #[])∧Only b 0 162 w w'∧HSp w' b (finalL S e):=by
 obtain ⟨d,p,q⟩:=S
 have h25:d.size=25:=hok.d25
 have h136:p.size=136:=hok.p136
 have hq:q<136:=hok.hlt
 have hD:Holds enc w b 0 d:=hS.d
 have hP:Holds encB w b 25 p:=hS.p
 have hc:w.cell? ⟨b,161,none⟩=some (.int .i64 q):=hS.h
 have hf:=hS.f
 have hcl:=clear_piece (Holds.drew hP) h136 hq 0
 have hOx:Only b 25 136 w (w.drew.setCells b (25+q) ((List.replicate (136-q) (0:UInt8)).map encB)):=((Only.refl b 25 136 w).drew).setCells _ _ (by omega) (by rw[List.length_map,List.length_replicate];omega)
 have hP1:=holds_splice (Holds.drew hP) q (List.replicate (136-q) (0:UInt8)) (by rw[List.length_replicate];omega)
 have hs1:(splice p q (List.replicate (136-q) 0)).size=136:=by rw[splice_size,h136]
 have HF:Hid (finalL ⟨d,p,q⟩ e=soakL ⟨d,((splice p q (List.replicate (136-q) 0)).setIfInBounds q e).setIfInBounds 135 (((splice p q (List.replicate (136-q) 0)).setIfInBounds q e)[135]! ^^^ 128),q⟩):=by
  show _=_
  unfold finalL ended
  rfl
 generalize w.drew.setCells b (25+q) ((List.replicate (136-q) (0:UInt8)).map encB)=W1 at hcl hOx hP1
 generalize splice p q (List.replicate (136-q) 0)=sp at hP1 hs1 HF
 have hne136:(136=q)=False:=eq_false (by omega)
 have hq136:(q:Int)≤136:=by omega
 have hq136':(q:Int)<136:=by omega
 have c1:W1.cell? ⟨b,161,none⟩=some (.int .i64 q):=by rw[hOx.cell 161 (by omega)];exact hc
 obtain ⟨c2,f2⟩:=hP1 q (by omega)
 obtain ⟨sp2,hsp2⟩:∃ s,sp.setIfInBounds q e=s:=⟨_,rfl⟩
 rw[hsp2] at HF
 have hs2:sp2.size=136:=by rw[← hsp2,Array.size_setIfInBounds,hs1]
 obtain ⟨x,hx⟩:∃ x,sp2[135]! = x:=⟨_,rfl⟩
 rw[hx] at HF
 have hx80:=xor80 x
 have hP2:=Holds.set hP1 (i:=q) (by omega) e
 rw[hsp2] at hP2
 have hO2:Only b 25 136 w (W1.setCell ⟨b,25+q,none⟩ (.int .u8 (ub e))):=hOx.setCell (o:=25+q) (by omega) (by omega) _
 have hP2':Holds encB (W1.setCell ⟨b,25+q,none⟩ (.int .u8 (ub e))) b 25 sp2:=hP2
 have HX:Hid (sp2[135]! = x):=hx
 rw[HF.out]
 clear hS hok hP hsp2 hx hP2 HF
 have hs3:(sp2.setIfInBounds 135 (x ^^^ 128)).size=136:=by rw[Array.size_setIfInBounds,hs2]
 go_enter Tryz.func126,Tryz.ntmps126
 go_wp2
 go_still_tail 8,mixed
 go_wp2_with fail
 go_region
 go_wp2_with fail
 generalize W1.setCell ⟨b,25+q,none⟩ (.int .u8 (ub e))=W2 at hP2' hO2 ⊢
 obtain ⟨c3,f3⟩:=at_byte hP2' 135 (by omega) HX.out
 clear c1 c2 f2 hcl hP1
 go_region
 go_wp2_with fail
 have hP3:=Holds.set hP2' (i:=135) (by omega) (x ^^^ 128)
 have hO3:Only b 25 136 w (W2.setCell ⟨b,160,none⟩ (.int .u8 (ub (x ^^^ 128)))):=hO2.setCell (o:=160) (by omega) (by omega) _
 have hP3':Holds encB (W2.setCell ⟨b,160,none⟩ (.int .u8 (ub (x ^^^ 128)))) b 25 (sp2.setIfInBounds 135 (x ^^^ 128)):=hP3
 generalize W2.setCell ⟨b,160,none⟩ (.int .u8 (ub (x ^^^ 128)))=W3 at hP3' hO3 ⊢
 have hD3:Holds enc W3 b 0 d:=Holds.same hD hO3 (Or.inl (by omega))
 have hS3:HSp W3 b ⟨d,sp2.setIfInBounds 135 (x ^^^ 128),q⟩:=⟨hD3,hP3',by rw[hO3.cell 161 (by omega)];exact hc,by rw[hO3.froz];exact hf⟩
 refine (soak_any b ⟨d,sp2.setIfInBounds 135 (x ^^^ 128),q⟩ _ h25 hs3 hS3.drew.drew).mono ?_
 rintro r w4 ⟨rfl,hO4,hS4⟩
 go_wp2
 go_end0
 exact ⟨rfl,(hO3.drew.drew.widen (by omega) (by omega)).trans hO4,hS4⟩
end SP
namespace SP
open Go.Sort
def permN (d:St):Nat→St
 | 0=>d
 | m+1=>perm (permN d m)
theorem permN_size (d:St) (hd:d.size=25) (m:Nat):(permN d m).size=25:=by
 induction m with
 | zero=>exact hd
 | succ m ih=>exact perm_size _ ih
def streamAt (d:St) (j:Nat):UInt8:=byteOf (permN d (j/136)) (j%136)
def streamL (d:St) (n:Nat):Bs:=Array.ofFn (fun i:Fin n=>streamAt d i.val)
theorem streamL_size (d:St) (n:Nat):(streamL d n).size=n:=by simp[streamL]
theorem streamL_at (d:St) (n j:Nat) (hj:j<n):(streamL d n)[j]! = streamAt d j:=by
 rw[getElem!_pos (streamL d n) j (by rw[streamL_size];exact hj)]
 simp[streamL]
def S0:Sp:=⟨zero25,Array.replicate 136 0,0⟩
theorem S0_ok:Ok S0:=⟨by simp[S0,zero25],by simp[S0],by decide⟩
def absorb (l:List UInt8) (e:UInt8):St:=(finalL (takeL S0 l) e).d
theorem absorb_size (l:List UInt8) (e:UInt8):(absorb l e).size=25:=by
 unfold absorb
 have h:=takeL_ok S0_ok l
 rw[finalL_eq h]
 exact (takeL_ok h _).d25
def hashL (l:List UInt8):Bs:=front (absorb l 6) 32
def strmL (l:List UInt8) (n:Nat):Bs:=streamL (absorb l 31) n
end SP
namespace SP
open Go.RowKit Go.Sort Go.Deep
theorem append_room {w:World} {g l cap r k n c:Nat} {cur bs:Bs} (hC:Holds encB w g 0 cur) (hs:cur.size=cap) (hB:Holds encB w r 0 bs) (hk:bs.size=n) (hk2:k=n) (hroom:l+n≤cap) (ty:TypeId) :
 (Builtin.append_ #[23,23] ty #[.slice (some ⟨g,0,none⟩) l cap,.slice (some ⟨r,0,none⟩) k c]).run Tryz.prog w=.ok (.slice (some ⟨g,0,none⟩) (l+n) cap) (w.setCells g l (bs.toList.map encB)):=by
 subst hk2
 obtain ⟨i,hi,_,hsz,_⟩:=info_parts info5
 have hlen:(bs.toList.map encB).length=k:=by rw[List.length_map,Array.length_toList,hk]
 have hsrc:Src Tryz.prog i.size 23 (.slice (some ⟨r,0,none⟩) k c) k (bs.toList.map encB) w:=by
  rw[hsz]
  refine Src.ofSlice w slice22 ⟨r,0,none⟩ k c _ (by rw[hlen,Nat.mul_one]) (fun j v hj=>?_) (fun v hv=>?_)
  ·obtain ⟨h1,h2⟩:=List.getElem?_eq_some_iff.1 hj
   rw[hlen] at h1
   have hc:=(hB j (by omega)).1
   rw[getElem!_pos bs j (by omega)] at hc
   rw[List.getElem_map,Array.getElem_toList] at h2
   have e1:(⟨r,0,none⟩:Addr).add j=⟨r,0+j,none⟩:=by
    unfold Addr.add
    by_cases h0:j=0
    ·subst h0;rw[if_pos rfl]
    ·rw[if_neg h0]
   rw[e1,hc,h2]
  ·obtain ⟨x,_,rfl⟩:=List.mem_map.1 hv
   rfl
 have h:=run_append_room_src (P:=Tryz.prog) w 23 23 ty 5 i slice22 hi g 0 l cap (.slice (some ⟨r,0,none⟩) k c) k _ hsrc hroom
  (fun j hj=>by
   rw[hlen] at hj
   rw[hsz,Nat.mul_one,Nat.add_assoc,(hC (l+j) (by omega)).1];rfl)
  (fun j hj=>by
   rw[hlen] at hj
   rw[hsz,Nat.mul_one,Nat.add_assoc]
   exact (hC (l+j) (by omega)).2)
 rw[hsz,Nat.mul_one,Nat.zero_add] at h
 exact h
theorem Only.with_new {b o n g m p:Nat} {w w1 w2:World} (h:Only b o n w w1) (k:Only g p m w1 w2) (hg:w.heap.size≤g) (hb:b<w.heap.size):Only b o n w w2:=by
 have hs:=h.size
 have e:=k.block b (by omega) (by omega)
 exact ⟨k.os.trans h.os,k.tape.trans h.tape,k.output.trans h.output,Nat.le_trans h.size k.size,
  fun j hj hn=>(k.block j (by omega) (by omega)).trans (h.block j hj hn),
  fun q hq=>(World.cell?_of_block (w:=w1) (a:=⟨b,q,none⟩) e).trans (h.cell q hq),fun q=>(World.frozen?_of_block (w:=w1) (a:=⟨b,q,none⟩) e).trans (h.froz q)⟩
theorem permN_pred (d:St) (m:Nat) (h:¬ m=0):perm (permN d (m-1))=permN d m:=by
 obtain ⟨k,rfl⟩:∃ k,m=k+1:=⟨m-1,by omega⟩
 rw[Nat.add_sub_cancel,permN]
theorem stream_next (d:St) (m:Nat) (cur:Bs) (hc:136*m+136≤cur.size) (h:∀ j,j<136*m→cur[j]! = streamAt d j):∀ j,j<136*(m+1)→(splice cur (136*m) (front (permN d m) 136).toList)[j]! = streamAt d j:=by
 intro j hj
 have hl:(front (permN d m) 136).toList.length=136:=by rw[Array.length_toList,front_size]
 rw[splice_at _ _ _ _ (by rw[hl];exact hc) (by omega),hl]
 by_cases h1:j<136*m
 ·rw[if_neg (by omega),h j h1]
 ·rw[if_pos (by omega),getElem!_pos _ (j-136*m) (by rw[hl];omega),Array.getElem_toList,← getElem!_pos (front (permN d m) 136) (j-136*m) (by rw[front_size];omega),front_at _ _ _ (by omega)]
  unfold streamAt
  rw[show j/136=m by omega,show j%136=j-136*m by omega]
theorem give_any (b:Nat) (d:St) (n:Nat) (w:World) (h25:d.size=25) (hD:Holds enc w b 0 d) (hn:n≤16384) :
 Calls Tryz.prog 176 #[.pointer (some ⟨b,0,none⟩),.int .i64 n] w fun e w'=>e=.returned (.slice (some ⟨w.heap.size,0,none⟩) n n)∧Only b 0 25 w w'∧Holds encB w' w.heap.size 0 (streamL d n):=by
 have hb:=Holds.lt hD (by omega)
 obtain ⟨i,hi,hz0,hsz,hby⟩:=info_parts info5
 obtain ⟨cp,hcp⟩:∃ c,n+136=c:=⟨_,rfl⟩
 have hmk:∀ w:World,(Instr.makeSlice 23 (.int .i64 0) (.int .i64 ((n:Int)+136))).run Tryz.prog w=.ok (.slice (some ⟨w.heap.size,0,none⟩) 0 cp) (w.alloc (.cells (madeCells #[.int .u8 0] cp) 5)):=by
  intro w
  have h:=run_make (P:=Tryz.prog) w 23 5 i (.int .u8 0) slice22 hi hz0 .i64 .i64 0 ((n:Int)+136) (by omega) (by omega) (by rw[hby];omega) (by omega)
  rw[hsz,Nat.mul_one,show ((n:Int)+136).toNat=cp by omega] at h
  exact h
 have hC0:Holds encB (w.alloc (.cells (madeCells #[.int .u8 0] cp) 5)) w.heap.size 0 (Array.replicate cp 0):=Holds.made (enc:=encB) w 5 cp 0
 have hO0:Only b 0 25 w (w.alloc (.cells (madeCells #[.int .u8 0] cp) 5)):=(Only.refl _ _ _ _).alloc hb _
 have hD0:=Holds.below hD ((Below.refl w.heap.size w).alloc (Nat.le_refl _) (.cells (madeCells #[.int .u8 0] cp) 5)) hb
 have hs0:w.heap.size<(w.alloc (.cells (madeCells #[.int .u8 0] cp) 5)).heap.size:=by simp
 clear hi hz0 hsz hby
 have Hcp:Hid (n+136=cp):=hcp
 have hcl:n+136≤cp:=by omega
 have hcg:cp≤n+136:=by omega
 clear hcp
 go_enter Tryz.func176,Tryz.ntmps176
 go_wp2
 generalize w.alloc _=W1 at hC0 hO0 hD0 hs0 ⊢
 clear hmk
 go_loopg [5] cp (fun g s5 wr=>∃ (m l:Nat) (cur:Bs),Hid (l=136*m)∧l+g=cp∧1≤g∧s5=.slice (some ⟨w.heap.size,0,none⟩) l cp∧Holds encB wr w.heap.size 0 cur∧cur.size=cp∧Holds enc wr b 0 (permN d (m-1))∧Only b 0 25 w wr∧w.heap.size<wr.heap.size∧Hid (∀ j,j<136*m→cur[j]! = streamAt d j))
 case atStart=>exact ⟨0,0,_,rfl,by omega,by have:=Hcp.out;omega,rfl,hC0,by rw[Array.size_replicate],hD0,hO0,hs0,fun j hj=>by omega⟩
 case round =>
  clear hC0 hO0 hD0 hs0
  obtain ⟨m,l,cur,Hl,hg,hg1,rfl,hC,hcs,hDm,hO,hs,HE⟩:=hrel
  have hps:=permN_size d h25 (m-1)
  by_cases hlt:l<n
  ·have hlt':(l:Int)<(n:Int):=by omega
   have HN:Hid (∀ j,j<136*(m+1)→(splice cur l (front (permN d m) 136).toList)[j]! = streamAt d j):=by
    rw[Hl.out]
    exact stream_next d m cur (by rw[← Hl.out];omega) HE
   by_cases hm0:m=0
   ·have hz0:¬ (0:Int)<(l:Int):=by have:=Hl.out;omega
    have hDm0:Holds enc wr b 0 (permN d m):=by rw[hm0] at hDm ⊢;exact hDm
    have Hm0:Hid (m=0):=hm0
    clear hm0 hDm HE
    go_wp2_with fail
    refine (front_any b 0 136 _ _ (permN_size d h25 m) hDm0 (by decide)).mono ?_
    rintro e w2 ⟨rfl,hb2,hF⟩
    have hC2:=Holds.below hC hb2 (Holds.lt hC (by omega))
    have hD2:=Holds.below hDm0 hb2 (Holds.lt hDm0 (by rw[permN_size d h25];decide))
    have hap:=append_room (l:=l) (k:=136) (n:=136) (c:=136) hC2 hcs hF (front_size _ _) rfl (by omega) 23
    have hC3:=holds_splice hC2 l (front (permN d m) 136).toList (by rw[Array.length_toList,front_size];omega)
    rw[Nat.zero_add] at hC3
    have hO2:Only b 0 25 w w2:=hO.trans (Only.of_below hb2 rfl (Holds.lt hDm0 (by rw[permN_size d h25];decide)))
    have hOn:Only w.heap.size 0 cp w2 (w2.setCells w.heap.size l ((front (permN d m) 136).toList.map encB)):=(Only.refl _ _ _ _).setCells _ _ (by omega) (by rw[List.length_map,Array.length_toList,front_size];omega)
    have hO3:=hO2.with_new hOn (Nat.le_refl _) hb
    have hD3:=Holds.other hD2 hOn (by omega) (by rw[permN_size d h25];decide)
    have hs3:w.heap.size<(w2.setCells w.heap.size l ((front (permN d m) 136).toList.map encB)).heap.size:=Nat.lt_of_lt_of_le (Holds.lt hC2 (by omega)) hOn.size
    generalize w2.setCells w.heap.size l ((front (permN d m) 136).toList.map encB)=W3 at hap hC3 hO3 hD3 hs3
    have HAP:Hid _:=hap
    clear hC2 hD2 hF hb2 hOn hO2 hap
    go_wp2_with (at_builtin;refine Lib.wpList_append_run _ rfl _ _ 23 23 rfl _ _ rfl rfl _ _ HAP.out ?_)
    go_roundg (gk-136)
    case measure=>omega
    case rel =>
     exact ⟨m+1,l+136,_,by have:=Hl.out;show _=_;omega,by omega,by omega,rfl,hC3,by rw[splice_size,hcs],hD3,hO3,hs3,HN⟩
   ·have hpos:(0:Int)<(l:Int):=by have:=Hl.out;omega
    clear HE
    go_wp2_with fail
    refine (permute_any b 0 _ _ hps hDm).mono ?_
    rintro e w1 ⟨rfl,hO1,hD1⟩
    rw[permN_pred d m hm0] at hD1
    have hC1:=Holds.other hC hO1 (by omega) (by omega)
    have hO1':=hO.trans hO1
    go_wp2_with fail
    refine (front_any b 0 136 _ _ (permN_size d h25 m) hD1 (by decide)).mono ?_
    rintro e w2 ⟨rfl,hb2,hF⟩
    have hC2:=Holds.below hC1 hb2 (Holds.lt hC1 (by omega))
    have hD2:=Holds.below hD1 hb2 (Holds.lt hD1 (by rw[permN_size d h25];decide))
    have hap:=append_room (l:=l) (k:=136) (n:=136) (c:=136) hC2 hcs hF (front_size _ _) rfl (by omega) 23
    have hC3:=holds_splice hC2 l (front (permN d m) 136).toList (by rw[Array.length_toList,front_size];omega)
    rw[Nat.zero_add] at hC3
    have hO2:Only b 0 25 w w2:=hO1'.trans (Only.of_below hb2 rfl (Holds.lt hD1 (by rw[permN_size d h25];decide)))
    have hOn:Only w.heap.size 0 cp w2 (w2.setCells w.heap.size l ((front (permN d m) 136).toList.map encB)):=(Only.refl _ _ _ _).setCells _ _ (by omega) (by rw[List.length_map,Array.length_toList,front_size];omega)
    have hO3:=hO2.with_new hOn (Nat.le_refl _) hb
    have hD3:=Holds.other hD2 hOn (by omega) (by rw[permN_size d h25];decide)
    have hs3:w.heap.size<(w2.setCells w.heap.size l ((front (permN d m) 136).toList.map encB)).heap.size:=Nat.lt_of_lt_of_le (Holds.lt hC2 (by omega)) hOn.size
    generalize w2.setCells w.heap.size l ((front (permN d m) 136).toList.map encB)=W3 at hap hC3 hO3 hD3 hs3
    have HAP:Hid _:=hap
    clear hC2 hD2 hF hb2 hOn hO2 hap
    go_wp2_with (at_builtin;refine Lib.wpList_append_run _ rfl _ _ 23 23 rfl _ _ rfl rfl _ _ HAP.out ?_)
    go_roundg (gk-136)
    case measure=>omega
    case rel =>
     exact ⟨m+1,l+136,_,by have:=Hl.out;show _=_;omega,by omega,by omega,rfl,hC3,by rw[splice_size,hcs],hD3,hO3,hs3,HN⟩
  ·have hge:(n:Int)≤(l:Int):=by omega
   have hle:n≤cp:=by omega
   have hle':(n:Int)≤(cp:Int):=by omega
   go_wp2
   go_ret
   refine ⟨rfl,hO,fun j hj=>?_⟩
   rw[streamL_size] at hj
   have:=hC j (by omega)
   rw[HE.out j (by have:=Hl.out;omega)] at this
   rw[streamL_at d n j hj]
   exact this
end SP
namespace SP
open Go.RowKit Go.Sort Go.Deep
def spZero:Array Value:=Array.replicate 25 (.int .u64 0)++Array.replicate 136 (.int .u8 0)++#[.int .i64 0]
theorem zero68:∀ w:World,(zeroValue 212).run Tryz.prog w=.ok (.agg spZero) w:=fun _=>by kernel_rfl
theorem spZero_d (j:Nat) (hj:j<25):spZero[j]? = some (.int .u64 0):=by
 have h1:j<(Array.replicate 25 (Value.int .u64 0)).size:=by rw[Array.size_replicate];exact hj
 unfold spZero
 rw[Array.append_assoc,Array.getElem?_append_left h1,Array.getElem?_eq_getElem h1,Array.getElem_replicate]
theorem spZero_p (j:Nat) (hj:j<136):spZero[25+j]? = some (.int .u8 0):=by
 have h1:j<(Array.replicate 136 (Value.int .u8 0)).size:=by rw[Array.size_replicate];exact hj
 unfold spZero
 rw[Array.append_assoc,Array.getElem?_append_right (by rw[Array.size_replicate];omega),Array.size_replicate,Nat.add_sub_cancel_left,Array.getElem?_append_left h1,Array.getElem?_eq_getElem h1,Array.getElem_replicate]
theorem spZero_h:spZero[161]? = some (.int .i64 0):=by
 unfold spZero
 rw[Array.getElem?_append_right (by rw[Array.size_append,Array.size_replicate,Array.size_replicate];decide),Array.size_append,Array.size_replicate,Array.size_replicate]
 rfl
theorem hsp_new (w:World) (t:TypeId):HSp (w.alloc (.cells spZero t)) w.heap.size S0:=by
 refine ⟨fun j hj=>?_,fun j hj=>?_,?_,?_⟩
 ·have hj':j<25:=by simpa[S0,zero25] using hj
  rw[World.cell?_alloc_new,World.frozen?_alloc_new,Nat.zero_add,spZero_d j hj']
  refine ⟨?_,rfl⟩
  have e:S0.d[j]! = 0:=zero25_at j hj'
  rw[e]
  rfl
 ·have hj':j<136:=by simpa[S0] using hj
  rw[World.cell?_alloc_new,World.frozen?_alloc_new,spZero_p j hj']
  refine ⟨?_,rfl⟩
  have e:S0.p[j]! = 0:=rep_at 136 j hj'
  rw[e]
  rfl
 ·rw[World.cell?_alloc_new,spZero_h];rfl
 ·rw[World.frozen?_alloc_new]
theorem Stream_yes (a:Option Addr) (sb so len cap n:Nat) (bs:Bs) (w:World) (hn:n≤16384) (hl:bs.size=len) (hcap:len≤cap) (hbig:len≤1099511627776) (hsrc:len=0∨(a=some ⟨sb,so,none⟩∧Holds encB w sb so bs)) :
 Calls Tryz.prog 164 #[.slice a len cap,.int .i64 n] w fun e w'=>∃ r,e=.returned (.tuple #[.slice (some ⟨r,0,none⟩) n n,.int .i64 0])∧w.heap.size≤r∧Below w.heap.size w w'∧Holds encB w' r 0 (strmL bs.toList n):=by
 have hS0:=hsp_new w 212
 have hb0:Below w.heap.size w (w.alloc (.cells spZero 212)):=(Below.refl _ _).alloc (Nat.le_refl _) _
 have hs0:w.heap.size<(w.alloc (.cells spZero 212)).heap.size:=by simp
 have hsrc':len=0∨(a=some ⟨sb,so,none⟩∧sb≠w.heap.size∧Holds encB (w.alloc (.cells spZero 212)) sb so bs):=by
  by_cases h0:len=0
  ·exact Or.inl h0
  ·rcases hsrc with h|⟨h1,h2⟩
   ·exact Or.inl h
   ·have hlt:=Holds.lt h2 (by omega)
    exact Or.inr ⟨h1,by omega,Holds.below h2 hb0 hlt⟩
 have d0:decide ((n:Int)<0)=false:=decide_eq_false (by omega)
 have d1:¬ (16384:Int)<(n:Int):=by omega
 have zv:=zero68
 go_enter Tryz.func164,Tryz.ntmps164
 go_wp2_with fail
 generalize w.alloc (.cells spZero 212)=W1 at hS0 hb0 hs0 hsrc' ⊢
 refine (take_any w.heap.size S0 a sb so len cap bs W1 S0_ok hS0 hl hcap hbig hsrc').mono ?_
 rintro e w1 ⟨rfl,hO1,hS1⟩
 go_wp2_with fail
 refine (end_any w.heap.size (takeL S0 bs.toList) 31 w1 (takeL_ok S0_ok _) hS1).mono ?_
 rintro e w2 ⟨rfl,hO2,hS2⟩
 have hD2:Holds enc w2 w.heap.size 0 (absorb bs.toList 31):=hS2.d
 clear hS2
 go_wp2_with fail
 refine (give_any w.heap.size _ n _ (absorb_size _ _) hD2 hn).mono ?_
 rintro e w3 ⟨rfl,hO3,hF⟩
 go_wp2
 go_ret2
 have s1:=hO1.size
 have s2:=hO2.size
 exact ⟨w2.heap.size,rfl,by omega,(hb0.trans ((hO1.trans hO2).below (by omega) (Nat.le_refl _))).trans (hO3.below (by omega) (Nat.le_refl _)),hF⟩
end SP
namespace SP
open Go.RowKit Go.Sort Go.Deep
def Own (B:Nat) (w:World) (v:Value) (T:List UInt8):Prop:=
 ∃ g cap cur,v=.slice (some ⟨g,0,none⟩) T.length cap∧B≤g∧g<w.heap.size∧Array.size cur=cap∧T.length≤cap∧Holds encB w g 0 cur∧∀ j,j<T.length→cur[j]! = T[j]!
theorem Holds.front {α:Type} [Inhabited α] {f:α→Value} {w:World} {b o:Nat} {d e:Array α} (h:Holds f w b o d) (hs:e.size≤d.size) (he:∀ j,j<e.size→e[j]! = d[j]!):Holds f w b o e:=by
 intro j hj
 rw[he j hj]
 exact h j (by omega)
theorem list_arr_at (T:List UInt8) (j:Nat):T.toArray[j]! = T[j]!:=by
 by_cases h:j<T.length
 ·rw[getElem!_pos T.toArray j (by simpa using h),getElem!_pos T j h]
  simp
 ·rw[getElem!_neg T.toArray j (by simpa using h),getElem!_neg T j h]
variable {B:Nat} {w w1:World} {v:Value} {T:List UInt8}
theorem Own.holds {g cap n:Nat} (h:Own B w (.slice (some ⟨g,0,none⟩) n cap) T):B≤g∧n=T.length∧T.length≤cap∧Holds encB w g 0 T.toArray:=by
 obtain ⟨g',cap',cur,hv,hg,_,hs,hl,hH,hT⟩:=h
 injection hv with e1 e2 e3
 injection e1 with e1
 injection e1 with e1 _ _
 subst e1 e3
 exact ⟨hg,e2,hl,Holds.front hH (by simp;omega) (fun j hj=>by rw[list_arr_at];exact (hT j (by simpa using hj)).symm)⟩
theorem conv_bytes (s:ByteArray) (hB:B≤w.heap.size) :
 ∃ v' w',(convert 9 23 (.string s)).run Tryz.prog w=.ok v' w'∧Own B w' v' s.data.toList∧Below w.heap.size w w'∧v'=.slice (some ⟨w.heap.size,0,none⟩) s.size (grownCap w s.size 0 5):=by
 have h:=Lib.run_convert_string_bytes (P:=Tryz.prog) w 9 23 5 s str9 slice22 int5
 have hcap:s.size≤grownCap w s.size 0 5:=by
  unfold grownCap Question.cut
  exact Nat.le_add_right _ _
 have hl:s.data.size=s.size:=rfl
 refine ⟨_,_,h,⟨w.heap.size,grownCap w s.size 0 5,s.data++Array.replicate (grownCap w s.size 0 5-s.size) 0,?_,hB,by rw[Lib.bytesWorld_size];omega,?_,?_,?_,?_⟩,?_,rfl⟩
 ·rw[Array.length_toList];rfl
 ·rw[Array.size_append,Array.size_replicate];omega
 ·rw[Array.length_toList];omega
 ·intro j hj
  rw[Array.size_append,Array.size_replicate] at hj
  have hb:=Lib.bytesWorld_at_new w 5 s
  have hsz:(Lib.bytesCells w 5 s).size=grownCap w s.size 0 5:=by
   unfold Lib.bytesCells
   rw[Array.size_append,Array.size_map,Array.size_replicate]
   omega
  have hc:(Lib.bytesCells w 5 s)=(s.data++Array.replicate (grownCap w s.size 0 5-s.size) 0).map encB:=by
   unfold Lib.bytesCells
   rw[Array.map_append,Array.map_replicate]
   rfl
  have hj2:j<(s.data++Array.replicate (grownCap w s.size 0 5-s.size) 0).size:=by rw[Array.size_append,Array.size_replicate];exact hj
  constructor
  ·unfold World.cell?
   rw[hb]
   simp only[Nat.zero_add]
   rw[if_neg (by decide),hc,Array.getElem?_map,Array.getElem?_eq_getElem hj2,Option.map_some,getElem!_pos _ j hj2]
  ·unfold World.frozen?
   rw[hb]
   simp only[Nat.zero_add,hsz]
   simp
   omega
 ·intro j hj
  rw[Array.length_toList] at hj
  rw[app_front _ _ j hj,getElem!_pos s.data.toList j (by rw[Array.length_toList];exact hj),Array.getElem_toList]
 ·refine ⟨?_,?_,?_,?_,fun k hk=>Lib.bytesWorld_at_old w 5 s k hk⟩
  ·unfold Lib.bytesWorld World.freeze
   rw[if_neg (by decide)]
   rfl
  ·unfold Lib.bytesWorld World.freeze
   rw[if_neg (by decide)]
   rfl
  ·unfold Lib.bytesWorld World.freeze
   rw[if_neg (by decide)]
   rfl
  ·rw[Lib.bytesWorld_size];omega
theorem Holds.below' {α:Type} [Inhabited α] {f:α→Value} {w w1:World} {b o:Nat} {d:Array α} (h:Holds f w b o d) (k:Below w.heap.size w w1):Holds f w1 b o d:=by
 intro j hj
 have hlt:=Holds.lt h (by omega)
 exact Holds.below h k hlt j hj
theorem hashL_size (l:List UInt8):(hashL l).size=32:=by rw[hashL,front_size]
end SP
namespace SP
open Go.RowKit Go.Sort Go.Deep
def lenB (n d:Nat):UInt8:=UInt8.ofNat (n/d)
theorem lenB_int (n d:Nat):(n:Int)/(d:Int)%256=ub (lenB n d):=by
 have e2:((n:Int)/(d:Int))=((n/d:Nat):Int):=by rw[Int.natCast_ediv]
 rw[e2]
 unfold ub lenB
 rw[UInt8.toNat_ofNat']
 omega
theorem lenB_one (n:Nat):(n:Int)%256=ub (lenB n 1):=by
 have:=lenB_int n 1
 rw[show ((1:Nat):Int)=1 from rfl,Int.ediv_one] at this
 exact this
def frameL (l:List UInt8):List UInt8:=[lenB l.length 16777216,lenB l.length 65536,lenB l.length 256,lenB l.length 1]++l
theorem holds_four (w:World) (x y z t:UInt8):Holds encB (w.alloc (.cells #[.int .u8 (ub x),.int .u8 (ub y),.int .u8 (ub z),.int .u8 (ub t)] 5)) w.heap.size 0 #[x,y,z,t]:=by
 have h:=Holds.new (enc:=encB) w 5 #[x,y,z,t]
 have e:Array.map encB #[x,y,z,t]=#[.int .u8 (ub x),.int .u8 (ub y),.int .u8 (ub z),.int .u8 (ub t)]:=by simp[encB]
 rw[e] at h
 exact h
theorem takeFrame_any (b:Nat) (S:Sp) (a:Option Addr) (sb so len cap:Nat) (bs:Bs) (w:World) (hok:Ok S) (hS:HSp w b S) (hl:bs.size=len) (hcap:len≤cap) (hbig:len≤1099511627776)
 (hsrc:len=0∨(a=some ⟨sb,so,none⟩∧sb≠b∧Holds encB w sb so bs)) :
 Calls Tryz.prog 125 #[.pointer (some ⟨b,0,none⟩),.slice a len cap] w fun e w'=>e=.returned (.tuple #[])∧Only b 0 162 w w'∧HSp w' b (takeL S (frameL bs.toList)):=by
 have hb:=hS.lt
 have b0:(len:Int)/16777216%256=ub (lenB len 16777216):=lenB_int len 16777216
 have b1:(len:Int)/65536%256=ub (lenB len 65536):=lenB_int len 65536
 have b2:(len:Int)/256%256=ub (lenB len 256):=lenB_int len 256
 have b3:(len:Int)%256=ub (lenB len 1):=lenB_one len
 have hF:Hid (frameL bs.toList=(#[lenB len 16777216,lenB len 65536,lenB len 256,lenB len 1]:Bs).toList++bs.toList):=by
  unfold frameL
  rw[Array.length_toList,hl]
  rfl
 have h4:=holds_four w (lenB len 16777216) (lenB len 65536) (lenB len 256) (lenB len 1)
 generalize lenB len 16777216=x0 at *
 generalize lenB len 65536=x1 at *
 generalize lenB len 256=x2 at *
 generalize lenB len 1=x3 at *
 have hb0:Below w.heap.size w (w.alloc (.cells #[.int .u8 (ub x0),.int .u8 (ub x1),.int .u8 (ub x2),.int .u8 (ub x3)] 5)):=(Below.refl _ _).alloc (Nat.le_refl _) _
 have hS1:=hS.below hb0 hb
 have hO0:Only b 0 162 w (w.alloc (.cells #[.int .u8 (ub x0),.int .u8 (ub x1),.int .u8 (ub x2),.int .u8 (ub x3)] 5)):=Only.of_below hb0 rfl hb
 have hsrc1:len=0∨(a=some ⟨sb,so,none⟩∧sb≠b∧Holds encB (w.alloc (.cells #[.int .u8 (ub x0),.int .u8 (ub x1),.int .u8 (ub x2),.int .u8 (ub x3)] 5)) sb so bs):=by
  by_cases h0:len=0
  ·exact Or.inl h0
  ·rcases hsrc with h|⟨h1,h2,h3⟩
   ·exact Or.inl h
   ·exact Or.inr ⟨h1,h2,Holds.below h3 hb0 (Holds.lt h3 (by omega))⟩
 clear hsrc
 go_enter Tryz.func125,Tryz.ntmps125
 go_wp2_with fail
 generalize w.alloc (.cells #[.int .u8 (ub x0),.int .u8 (ub x1),.int .u8 (ub x2),.int .u8 (ub x3)] 5)=W1 at h4 hb0 hS1 hO0 hsrc1 ⊢
 refine (take_any b S (some ⟨w.heap.size,0,none⟩) w.heap.size 0 4 4 #[x0,x1,x2,x3] W1 hok hS1 rfl (Nat.le_refl _) (by decide) (Or.inr ⟨rfl,by omega,h4⟩)).mono ?_
 rintro e w2 ⟨rfl,hO2,hS2⟩
 have hsrc2:len=0∨(a=some ⟨sb,so,none⟩∧sb≠b∧Holds encB w2 sb so bs):=by
  by_cases h0:len=0
  ·exact Or.inl h0
  ·rcases hsrc1 with h|⟨h1,h2,h3⟩
   ·exact Or.inl h
   ·exact Or.inr ⟨h1,h2,Holds.other h3 hO2 h2 (by omega)⟩
 go_wp2_with fail
 refine (take_any b _ a sb so len cap bs w2 (takeL_ok hok _) hS2 hl hcap hbig hsrc2).mono ?_
 rintro e w3 ⟨rfl,hO3,hS3⟩
 go_wp2
 go_end0
 refine ⟨rfl,(hO0.trans hO2).trans hO3,?_⟩
 rw[hF.out,takeL_append]
 exact hS3
end SP
namespace SP
open Go.RowKit Go.Sort Go.Deep
def framesL (label:List UInt8) (ps:List (List UInt8)):List UInt8:=frameL label++ps.flatMap frameL
def tagL (label:List UInt8) (ps:List (List UInt8)):Bs:=hashL (framesL label ps)
theorem tagL_size (label:List UInt8) (ps:List (List UInt8)):(tagL label ps).size=32:=hashL_size _
theorem framesL_snoc (label:List UInt8) (ps:List (List UInt8)) (x:List UInt8):framesL label (ps++[x])=framesL label ps++frameL x:=by
 unfold framesL
 rw[List.flatMap_append,← List.append_assoc]
 simp
def PartOk (w:World) (v:Value) (x:List UInt8):Prop:=
 ∃ a sb so cap bs,v=.slice a (Array.size bs) cap∧bs.toList=x∧bs.size≤cap∧bs.size≤1099511627776∧(bs.size=0∨(a=some ⟨sb,so,none⟩∧Holds encB w sb so bs))
theorem PartOk.below {w w1:World} {v:Value} {x:List UInt8} (h:PartOk w v x) (k:Below w.heap.size w w1):PartOk w1 v x:=by
 obtain ⟨a,sb,so,cap,bs,h1,h2,h3,h4,h5⟩:=h
 refine ⟨a,sb,so,cap,bs,h1,h2,h3,h4,?_⟩
 rcases h5 with h5|⟨h5,h6⟩
 ·exact Or.inl h5
 ·exact Or.inr ⟨h5,Holds.below' h6 k⟩
def PartsOk (w:World) (pa:Option Addr) (ps:List (List UInt8)):Prop:=
 ps.length=0∨∃ pb po,pa=some ⟨pb,po,none⟩∧∀ j,j<ps.length→∃ v,w.cell? ⟨pb,po+j,none⟩=some v∧PartOk w v ps[j]!
theorem PartsOk.below {w w1:World} {pa:Option Addr} {ps:List (List UInt8)} (h:PartsOk w pa ps) (k:Below w.heap.size w w1):PartsOk w1 pa ps:=by
 rcases h with h|⟨pb,po,h1,h2⟩
 ·exact Or.inl h
 ·refine Or.inr ⟨pb,po,h1,fun j hj=>?_⟩
  obtain ⟨v,h3,h4⟩:=h2 j hj
  exact ⟨v,by rw[k.cell (p:=⟨pb,po+j,none⟩) (World.block_lt_of_cell? _ _ h3)];exact h3,h4.below k⟩
theorem take_snoc_getD {α:Type} [Inhabited α] (l:List α) (k:Nat) (h:k<l.length):l.take (k+1)=l.take k++[l[k]!]:=by
 rw[List.take_succ_eq_append_getElem h,getElem!_pos l k h]
theorem Tag_any (label:ByteArray) (pa:Option Addr) (pcap:Nat) (ps:List (List UInt8)) (w:World) (hlab:label.size≤1048576) (hpl:ps.length≤1048576) (hP:PartsOk w pa ps) :
 Calls Tryz.prog 71 #[.string label,.slice pa ps.length pcap] w fun e w'=>∃ r,e=.returned (.slice (some ⟨r,0,none⟩) 32 32)∧w.heap.size≤r∧Below w.heap.size w w'∧Holds encB w' r 0 (tagL label.data.toList ps):=by
 have hS0:=hsp_new w 212
 have hb0:Below w.heap.size w (w.alloc (.cells spZero 212)):=(Below.refl _ _).alloc (Nat.le_refl _) _
 have hs0:(w.alloc (.cells spZero 212)).heap.size=w.heap.size+1:=by simp
 have zv:=zero68
 generalize hW1:w.alloc (.cells spZero 212)=W1 at hS0 hb0 hs0
 obtain ⟨v2,W2,hcv,own2,hb2,hv2⟩:=conv_bytes (w:=W1) (B:=0) label (Nat.zero_le _)
 rw[hv2] at hcv own2
 obtain ⟨hq0,hq1,hle2,hH2⟩:=own2.holds
 rw[← hq1] at hle2
 clear hq0 hq1
 have hH2':Holds encB W2 W1.heap.size 0 label.data:=by simpa using hH2
 have hS2:=hS0.below hb2 hS0.lt
 have hsz2:=hb2.size
 obtain ⟨n,hn⟩:∃ n,ps.length=n:=⟨_,rfl⟩
 rw[hn]
 have Hn:Hid (ps.length=n):=hn
 have hn20:n≤1048576:=by omega
 rw[hs0] at hcv hH2'
 generalize hc2:grownCap W1 label.size 0 5=c2 at *
 clear own2 hv2 hH2 hn hc2
 have hcv':(convert 9 23 (.string label)).run Tryz.prog (w.alloc (.cells spZero 212))=.ok (.slice (some ⟨w.heap.size+1,0,none⟩) label.size c2) W2:=by rw[hW1];exact hcv
 clear hW1 hcv
 go_enter Tryz.func71,Tryz.ntmps71
 go_wp2_with fail
 refine (takeFrame_any w.heap.size S0 (some ⟨w.heap.size+1,0,none⟩) (w.heap.size+1) 0 label.size c2 label.data W2 S0_ok hS2 rfl (by omega) (by omega) (Or.inr ⟨rfl,by omega,hH2'⟩)).mono ?_
 rintro e w3 ⟨rfl,hO3,hS3⟩
 have hb3:Below w.heap.size w w3:=(hb0.trans (hb2.mono (by omega))).trans (hO3.below (by omega) (Nat.le_refl _))
 have hz3:w.heap.size<w3.heap.size:=hS3.lt
 clear hcv' hH2' hO3 zv hS2
 go_wp2
 go_loopg [13] n (fun g s13 wr=>∃ (k:Nat) (Sk:Sp),k+g=n∧s13=.int .i64 k∧HSp wr w.heap.size Sk∧Below w.heap.size w wr∧Ok Sk∧Hid (Sk=takeL S0 (framesL label.data.toList (ps.take k))))
 case atStart =>
  refine ⟨0,_,by omega,rfl,hS3,hb3,takeL_ok S0_ok _,?_⟩
  rw[List.take_zero]
  unfold framesL
  rw[List.flatMap_nil,List.append_nil]
  rfl
 case round =>
  clear hS3 hb3 hz3
  obtain ⟨k,Sk,hk,rfl,hSk,hb,hok,HE⟩:=hrel
  by_cases hlt:k<n
  ·obtain ⟨pb,po,rfl,hPj⟩:∃ pb po,pa=some ⟨pb,po,none⟩∧∀ j,j<ps.length→∃ v,w.cell? ⟨pb,po+j,none⟩=some v∧PartOk w v ps[j]!:=by
    rcases hP with h|h
    ·have:=Hn.out;omega
    ·exact h
   obtain ⟨v,hvc,hvp⟩:=hPj k (by have:=Hn.out;omega)
   have hpb:=World.block_lt_of_cell? _ _ hvc
   have hvc':wr.cell? ⟨pb,po+k,none⟩=some v:=by rw[hb.cell (p:=⟨pb,po+k,none⟩) hpb];exact hvc
   obtain ⟨a,sb,so,cap,bs,rfl,hbl,hbc,hbb,hsrc⟩:=hvp
   have hsrc':bs.size=0∨(a=some ⟨sb,so,none⟩∧sb≠w.heap.size∧Holds encB wr sb so bs):=by
    by_cases h0:bs.size=0
    ·exact Or.inl h0
    ·rcases hsrc with h|⟨h1,h2⟩
     ·exact Or.inl h
     ·have:=Holds.lt h2 (by omega)
      exact Or.inr ⟨h1,by omega,Holds.below h2 hb this⟩
   have HB:Hid (bs.toList=ps[k]!):=hbl
   have l1:(k:Int)<(n:Int):=by omega
   generalize hbz:bs.size=bz at *
   clear hvc hsrc hPj hbl
   go_wp2_with fail
   refine (takeFrame_any w.heap.size Sk a sb so bz cap bs wr hok hSk hbz hbc hbb hsrc').mono ?_
   rintro e w4 ⟨rfl,hO4,hS4⟩
   go_wp2
   go_roundg (gk-1)
   case measure=>omega
   case rel =>
    refine ⟨k+1,_,by omega,by go_num,hS4,hb.trans (hO4.below hb.size (Nat.le_refl _)),takeL_ok hok _,?_⟩
    rw[take_snoc_getD ps k (by have:=Hn.out;omega),framesL_snoc,takeL_append,← HE.out,HB.out]
    rfl
  ·have hkn:k=n:=by omega
   have l1:(n:Int)≤(k:Int):=by omega
   have HE2:Hid (Sk=takeL S0 (framesL label.data.toList ps)):=by
    have e1:ps.take k=ps:=List.take_of_length_le (by have:=Hn.out;omega)
    rw[e1] at HE
    exact HE
   clear HE
   go_wp2_with fail
   refine (end_any w.heap.size Sk 6 wr hok hSk).mono ?_
   rintro e w5 ⟨rfl,hO5,hS5⟩
   have hD5:Holds enc w5 w.heap.size 0 (absorb (framesL label.data.toList ps) 6):=by
    have:=hS5.d
    rw[HE2.out] at this
    exact this
   clear hS5
   go_wp2_with fail
   refine (front_any w.heap.size 0 32 _ _ (absorb_size _ _) hD5 (by decide)).mono ?_
   rintro e w6 ⟨rfl,hb6,hF6⟩
   have hs5:=hO5.size
   have hs4:=hb.size
   go_wp2
   go_ret
   exact ⟨w5.heap.size,rfl,by omega,(hb.trans (hO5.below hb.size (Nat.le_refl _))).trans (hb6.mono (by omega)),hF6⟩
end SP
namespace SP
open Go.RowKit Go.Sort Go.Deep
variable {B:Nat} {w w1:World} {v:Value} {T:List UInt8}
set_option maxRecDepth 4000
end SP
namespace SP
open Go.RowKit Go.Sort Go.Deep
theorem copy_log {w:World} {b r:Nat} {L T:Bs} (hL:Holds encB w b 0 L) (hl:L.size=32) (hT:Holds encB w r 0 T) (ht:T.size=32) :
 (Builtin.copy_ #[23,23] 3 #[.slice (some ⟨b,0,none⟩) 32 32,.slice (some ⟨r,0,none⟩) 32 32]).run Tryz.prog w=.ok (goInt 32) (w.setCells b 0 (T.toList.map encB)):=by
 have hlen:(T.toList.map encB).length=32:=by rw[List.length_map,Array.length_toList,ht]
 have:=run_copy_cells (P:=Tryz.prog) w 23 23 3 5 b 0 32 32 ⟨r,0,none⟩ 32 32 (T.toList.map encB) slice22 ints5 (by rw[hlen];rfl)
  (fun j u hj=>by
   obtain ⟨h1,h2⟩:=List.getElem?_eq_some_iff.1 hj
   rw[hlen] at h1
   have hc:=(hT j (by omega)).1
   rw[getElem!_pos T j (by omega)] at hc
   rw[List.getElem_map,Array.getElem_toList] at h2
   have e1:(⟨r,0,none⟩:Addr).add j=⟨r,0+j,none⟩:=by
    unfold Addr.add
    by_cases h0:j=0
    ·subst h0;rw[if_pos rfl]
    ·rw[if_neg h0]
   rw[e1,hc,h2])
  (fun j hj=>by rw[(hL j (by omega)).1];rfl) (fun j hj=>(hL j (by omega)).2)
  (fun u hu=>by obtain ⟨x,_,rfl⟩:=List.mem_map.1 hu;rfl)
 rw[hlen] at this
 exact this
theorem holds_copied {w:World} {b:Nat} {L T:Bs} (hL:Holds encB w b 0 L) (hl:L.size=32) (ht:T.size=32):Holds encB (w.setCells b 0 (T.toList.map encB)) b 0 T:=by
 have hlen:(T.toList.map encB).length=32:=by rw[List.length_map,Array.length_toList,ht]
 refine Holds.setCells hL (T.toList.map encB) 0 (by omega) (by omega) (fun j hj=>?_) (fun j h1 h2=>by omega)
 rw[hlen] at hj
 rw[List.getElem_map,Array.getElem_toList,Nat.zero_add,getElem!_pos T j (by omega)]
theorem become_end {w w2:World} {b:Nat} {L T:Bs} (hL:Holds encB w b 0 L) (hl:L.size=32) (ht:T.size=32) (hb:b<w.heap.size) (hb2:Below w.drew.heap.size w.drew w2) :
 Only b 0 32 w (w2.setCells b 0 (T.toList.map encB))∧Holds encB (w2.setCells b 0 (T.toList.map encB)) b 0 T:=by
 have hlen:(T.toList.map encB).length=32:=by rw[List.length_map,Array.length_toList,ht]
 refine ⟨?_,holds_copied (Holds.below (Holds.drew hL) hb2 hb) hl ht⟩
 exact Only.setCells (((Only.refl b 0 32 w).drew).trans (Only.of_below hb2 rfl hb)) _ 0 (Nat.le_refl _) (by omega)
theorem become_any (b:Nat) (L:Bs) (label:ByteArray) (pa:Option Addr) (pcap n:Nat) (ps:List (List UInt8)) (w:World) (hlab:label.size≤1048576) (hpl:ps.length=n) (hn:n≤1048576) (hP:PartsOk w pa ps) (hL:Holds encB w b 0 L) (hl:L.size=32) :
 Calls Tryz.prog 111 #[.pointer (some ⟨b,0,none⟩),.string label,.slice pa n pcap] w fun e w'=>e=.returned (.tuple #[])∧Only b 0 32 w w'∧Holds encB w' b 0 (tagL label.data.toList ps):=by
 subst hpl
 have hb:=Holds.lt hL (by omega)
 have ht:=Tag_any label pa pcap ps w.drew hlab hn (hP.below ((Below.refl _ _).drew))
 generalize hT:tagL label.data.toList ps=T at ht ⊢
 have hTs:T.size=32:=by rw[← hT,tagL_size]
 have HT:Hid (Calls Tryz.prog 71 #[.string label,.slice pa ps.length pcap] w.drew fun e w'=>∃ r,e=.returned (.slice (some ⟨r,0,none⟩) 32 32)∧w.drew.heap.size≤r∧Below w.drew.heap.size w.drew w'∧Holds encB w' r 0 T):=ht
 generalize ps.length=n at *
 clear hT ht hP
 go_enter Tryz.func111,Tryz.ntmps111
 go_wp2
 go_region_with (go_at_call 71;refine Calls.mono HT.out ?_;rintro e w2 ⟨r2,rfl,hr2,hb2,hH2⟩;have hcp:=copy_log (Holds.below (Holds.drew hL) hb2 hb) hl hH2 hTs;have hfin:=become_end hL hl hTs hb hb2)
 all_goals (try go_wp2)
 all_goals go_end0
 all_goals exact ⟨rfl,hfin⟩
end SP
namespace SP
open Go.RowKit Go.Sort Go.Deep
def encV (v:Value):Value:=v
theorem strm_size (l:List UInt8) (n:Nat):(strmL l n).size=n:=by rw[strmL,streamL_size]
def newL (label:List UInt8):Bs:=tagL [108,111,103] [label]
def sayL (L:Bs) (label text:List UInt8):Bs:=tagL [115,97,121] [L.toList,label,text]
def askL (L:Bs) (label:List UInt8) (n:Nat):Bs:=strmL (tagL [97,115,107] [L.toList,label]).toList n
def askedL (L:Bs) (label:List UInt8):Bs:=tagL [97,115,107,101,100] [L.toList,label]
theorem newL_size (l:List UInt8):(newL l).size=32:=tagL_size _ _
theorem sayL_size (L:Bs) (l t:List UInt8):(sayL L l t).size=32:=tagL_size _ _
theorem askedL_size (L:Bs) (l:List UInt8):(askedL L l).size=32:=tagL_size _ _
theorem askL_size (L:Bs) (l:List UInt8) (n:Nat):(askL L l n).size=n:=strm_size _ _
theorem conv_part (s:ByteArray) (w:World) (hs:s.size≤1099511627776) :
 ∃ c w',(convert 9 23 (.string s)).run Tryz.prog w=.ok (.slice (some ⟨w.heap.size,0,none⟩) s.size c) w'∧s.size≤c∧Holds encB w' w.heap.size 0 s.data∧PartOk w' (.slice (some ⟨w.heap.size,0,none⟩) s.size c) s.data.toList∧Below w.heap.size w w'∧w.heap.size<w'.heap.size:=by
 obtain ⟨v2,W2,hcv,own2,hb2,hv2⟩:=conv_bytes (w:=w) (B:=0) s (Nat.zero_le _)
 rw[hv2] at hcv own2
 have hlt:w.heap.size<W2.heap.size:=by
  obtain ⟨g,cap,cur,h1,_,h3,_⟩:=own2
  injection h1 with h1
  injection h1 with h1
  injection h1 with h1
  omega
 obtain ⟨hq0,hq1,hle2,hH2⟩:=own2.holds
 rw[← hq1] at hle2
 have hH2':Holds encB W2 w.heap.size 0 s.data:=by simpa using hH2
 have hle:s.size≤grownCap w s.size 0 5:=hle2
 exact ⟨_,W2,hcv,hle,hH2',⟨_,w.heap.size,0,_,s.data,rfl,rfl,hle,hs,Or.inr ⟨rfl,hH2'⟩⟩,hb2,hlt⟩
theorem parts_new (W:World) (vs:Array Value) (ps:List (List UInt8)) (t:TypeId) (hl:vs.size=ps.length) (h:∀ j,j<ps.length→PartOk W vs[j]! ps[j]!) :
 PartsOk (W.alloc (.cells vs t)) (some ⟨W.heap.size,0,none⟩) ps:=by
 refine Or.inr ⟨W.heap.size,0,rfl,fun j hj=>⟨vs[j]!,?_,(h j hj).below ((Below.refl _ _).alloc (Nat.le_refl _) _)⟩⟩
 have e0:vs.map encV=vs:=by
  have:encV=id:=rfl
  rw[this,Array.map_id]
 have:=(Holds.new (enc:=encV) W t vs j (by omega)).1
 rw[e0] at this
 exact this
theorem part_log {w:World} {b:Nat} {L:Bs} (hL:Holds encB w b 0 L) (hl:L.size=32):PartOk w (.slice (some ⟨b,0,none⟩) 32 32) L.toList:=
 ⟨_,b,0,32,L,by rw[hl],rfl,by omega,by omega,Or.inr ⟨rfl,hL⟩⟩
theorem zeroLog:∀ w:World,(zeroValue 200).run Tryz.prog w=.ok (.agg (Array.replicate 32 (.int .u8 0))) w:=fun _=>by kernel_rfl
theorem NewLog_any (label:ByteArray) (w:World) (hlab:label.size≤1048576) :
 Calls Tryz.prog 153 #[.string label] w fun e w'=>e=.returned (.pointer (some ⟨w.heap.size,0,none⟩))∧Below w.heap.size w w'∧Holds encB w' w.heap.size 0 (newL label.data.toList):=by
 have zv:=zeroLog
 have hH0:Holds encB (w.alloc (.cells (Array.replicate 32 (.int .u8 0)) 200)) w.heap.size 0 (Array.replicate 32 0):=by
  have:=Holds.new (enc:=encB) w 200 (Array.replicate 32 0)
  rw[Array.map_replicate] at this
  exact this
 have hb0:Below w.heap.size w (w.alloc (.cells (Array.replicate 32 (.int .u8 0)) 200)):=(Below.refl _ _).alloc (Nat.le_refl _) _
 have hs0:(w.alloc (.cells (Array.replicate 32 (.int .u8 0)) 200)).heap.size=w.heap.size+1:=by simp
 obtain ⟨c,W1,hcv,hc,hH1,hP1,hb1,hlt1⟩:=conv_part label (w.alloc (.cells (Array.replicate 32 (.int .u8 0)) 200)) (by omega)
 have hH01:=Holds.below' hH0 hb1
 have hPs:=parts_new W1 #[.slice (some ⟨(w.alloc (.cells (Array.replicate 32 (.int .u8 0)) 200)).heap.size,0,none⟩) label.size c] [label.data.toList] 23 rfl (fun j hj=>by
  have hj0:j=0:=by simpa using hj
  subst hj0
  exact hP1)
 have hb2:Below W1.heap.size W1 (W1.alloc (.cells #[.slice (some ⟨(w.alloc (.cells (Array.replicate 32 (.int .u8 0)) 200)).heap.size,0,none⟩) label.size c] 23)):=(Below.refl _ _).alloc (Nat.le_refl _) _
 have hH02:=Holds.below' hH01 hb2
 rw[hs0] at hcv hPs hb2 hH02 hlt1
 have hb3:Below w.heap.size w (W1.alloc (.cells #[.slice (some ⟨w.heap.size+1,0,none⟩) label.size c] 23)):=(hb0.trans (hb1.mono (by omega))).trans (hb2.mono (by omega))
 clear hH0 hb0 hH1 hP1 hb1 hH01 hs0
 go_enter Tryz.func153,Tryz.ntmps153
 go_wp2_with fail
 refine (become_any w.heap.size (Array.replicate 32 0) ⟨#[108,111,103]⟩ (some ⟨W1.heap.size,0,none⟩) 1 1 [label.data.toList] _ (by decide) rfl (by decide) hPs hH02 (by simp)).mono ?_
 rintro e w4 ⟨rfl,hO4,hH4⟩
 go_wp2
 go_ret
 exact ⟨rfl,hb3.trans (hO4.below hb3.size (Nat.le_refl _)),hH4⟩
end SP
namespace SP
open Go.RowKit Go.Sort Go.Deep
theorem Say_any (b:Nat) (L:Bs) (label:ByteArray) (ta:Option Addr) (tl tc:Nat) (text:List UInt8) (w:World) (hlab:label.size≤1048576) (hL:Holds encB w b 0 L) (hl:L.size=32) (hT:PartOk w (.slice ta tl tc) text) :
 Calls Tryz.prog 58 #[.pointer (some ⟨b,0,none⟩),.string label,.slice ta tl tc] w fun e w'=>e=.returned (.tuple #[])∧Only b 0 32 w w'∧Holds encB w' b 0 (sayL L label.data.toList text):=by
 have hb:=Holds.lt hL (by omega)
 obtain ⟨c,W1,hcv,hc,hH1,hP1,hb1,hlt1⟩:=conv_part label w (by omega)
 have hL1:=Holds.below hL hb1 hb
 have hT1:=hT.below hb1
 have hPs:=parts_new W1 #[.slice (some ⟨b,0,none⟩) 32 32,.slice (some ⟨w.heap.size,0,none⟩) label.size c,.slice ta tl tc] [L.toList,label.data.toList,text] 23 rfl (fun j hj=>by
  have hj3:j<3:=hj
  match j,hj3 with
  | 0,_=>exact part_log hL1 hl
  | 1,_=>exact hP1
  | 2,_=>exact hT1)
 have hb2:Below W1.heap.size W1 (W1.alloc (.cells #[.slice (some ⟨b,0,none⟩) 32 32,.slice (some ⟨w.heap.size,0,none⟩) label.size c,.slice ta tl tc] 23)):=(Below.refl _ _).alloc (Nat.le_refl _) _
 have hL2:=Holds.below' hL1 hb2
 have hO2:Only b 0 32 w (W1.alloc (.cells #[.slice (some ⟨b,0,none⟩) 32 32,.slice (some ⟨w.heap.size,0,none⟩) label.size c,.slice ta tl tc] 23)):=(Only.of_below hb1 rfl hb).alloc (by omega) _
 clear hH1 hP1 hT1 hT hb2
 go_enter Tryz.func58,Tryz.ntmps58
 go_wp2_with fail
 refine (become_any b L ⟨#[115,97,121]⟩ (some ⟨W1.heap.size,0,none⟩) 3 3 [L.toList,label.data.toList,text] _ (by decide) rfl (by decide) hPs hL2 hl).mono ?_
 rintro e w4 ⟨rfl,hO4,hH4⟩
 go_wp2
 go_end0
 exact ⟨rfl,hO2.trans hO4,hH4⟩
theorem Ask_yes (b:Nat) (L:Bs) (label:ByteArray) (n:Nat) (w:World) (hlab:label.size≤1048576) (hn:n≤1024) (hL:Holds encB w b 0 L) (hl:L.size=32) :
 Calls Tryz.prog 180 #[.pointer (some ⟨b,0,none⟩),.string label,.int .i64 n] w fun e w'=>∃ r,e=.returned (.tuple #[.slice (some ⟨r,0,none⟩) n n,.int .i64 0])∧w.heap.size≤r∧Only b 0 32 w w'∧Holds encB w' b 0 (askedL L label.data.toList)∧Holds encB w' r 0 (askL L label.data.toList n):=by
 have hb:=Holds.lt hL (by omega)
 obtain ⟨c,W1,hcv,hc,hH1,hP1,hb1,hlt1⟩:=conv_part label w (by omega)
 have hL1:=Holds.below hL hb1 hb
 have hPs:=parts_new W1 #[.slice (some ⟨b,0,none⟩) 32 32,.slice (some ⟨w.heap.size,0,none⟩) label.size c] [L.toList,label.data.toList] 23 rfl (fun j hj=>by
  have hj3:j<2:=hj
  match j,hj3 with
  | 0,_=>exact part_log hL1 hl
  | 1,_=>exact hP1)
 have hb2:Below W1.heap.size W1 (W1.alloc (.cells #[.slice (some ⟨b,0,none⟩) 32 32,.slice (some ⟨w.heap.size,0,none⟩) label.size c] 23)):=(Below.refl _ _).alloc (Nat.le_refl _) _
 have hL2:=Holds.below' hL1 hb2
 have hO2:Only b 0 32 w (W1.alloc (.cells #[.slice (some ⟨b,0,none⟩) 32 32,.slice (some ⟨w.heap.size,0,none⟩) label.size c] 23)):=(Only.of_below hb1 rfl hb).alloc (by omega) _
 have d0:decide ((n:Int)<0)=false:=decide_eq_false (by omega)
 have d1:¬ (1024:Int)<(n:Int):=by omega
 clear hH1 hP1 hb2
 go_enter Tryz.func180,Tryz.ntmps180
 go_wp2_with fail
 refine (Tag_any ⟨#[97,115,107]⟩ (some ⟨W1.heap.size,0,none⟩) 2 [L.toList,label.data.toList] _ (by decide) (by show 2≤1048576;omega) hPs).mono ?_
 rintro e w3 ⟨r3,rfl,hr3,hb3,hH3⟩
 have hL3:=Holds.below' hL2 hb3
 have hO3:=hO2.trans (Only.of_below hb3 rfl (Nat.lt_of_lt_of_le hb hO2.size))
 clear hPs hL2 hL1
 go_wp2_with fail
 refine (Stream_yes (some ⟨r3,0,none⟩) r3 0 32 32 n _ _ (by omega) (tagL_size _ _) (by omega) (by omega) (Or.inr ⟨rfl,hH3⟩)).mono ?_
 rintro e w4 ⟨r4,rfl,hr4,hb4,hH4⟩
 have hL4:=Holds.below' hL3 hb4
 have hs3:=hO3.size
 have hO4:=hO3.trans (Only.of_below hb4 rfl (by omega))
 have hA4:Holds encB w4 r4 0 (askL L label.data.toList n):=hH4
 have hs4:=hO4.size
 obtain ⟨c5,W5,hcv5,hc5,hH5,hP5,hb5,hlt5⟩:=conv_part label w4 (by omega)
 have hL5:=Holds.below' hL4 hb5
 have hA5:=Holds.below' hA4 hb5
 have hPs5:=parts_new W5 #[.slice (some ⟨b,0,none⟩) 32 32,.slice (some ⟨w4.heap.size,0,none⟩) label.size c5] [L.toList,label.data.toList] 23 rfl (fun j hj=>by
  have hj3:j<2:=hj
  match j,hj3 with
  | 0,_=>exact part_log hL5 hl
  | 1,_=>exact hP5)
 have hb6:Below W5.heap.size W5 (W5.alloc (.cells #[.slice (some ⟨b,0,none⟩) 32 32,.slice (some ⟨w4.heap.size,0,none⟩) label.size c5] 23)):=(Below.refl _ _).alloc (Nat.le_refl _) _
 have hL6:=Holds.below' hL5 hb6
 have hA6:=Holds.below' hA5 hb6
 have hO6:Only b 0 32 w (W5.alloc (.cells #[.slice (some ⟨b,0,none⟩) 32 32,.slice (some ⟨w4.heap.size,0,none⟩) label.size c5] 23)):=hO4.trans ((Only.of_below hb5 rfl (by omega)).alloc (by omega) _)
 clear hH5 hP5 hH4 hA4 hA5 hL4 hL5 hH3 hcv hb6 hL3
 go_wp2_with fail
 refine (become_any b L ⟨#[97,115,107,101,100]⟩ (some ⟨W5.heap.size,0,none⟩) 2 2 [L.toList,label.data.toList] _ (by decide) rfl (by decide) hPs5 hL6 hl).mono ?_
 rintro e w7 ⟨rfl,hO7,hH7⟩
 clear hPs5
 have hA7:Holds encB w7 r4 0 (askL L label.data.toList n):=by
  intro j hj
  have h1:=hA6 j hj
  have h2:=World.block_lt_of_cell? _ _ h1.1
  have h3:=hO7.other (c:=r4) (o:=0+j) (by omega) h2
  rw[h3.1,h3.2]
  exact h1
 go_wp2
 go_ret2
 exact ⟨r4,rfl,by omega,hO6.trans hO7,hH7,hA7⟩
end SP
section
open Go.RowKit Go.Sort
variable {P:Nat} [NeZero P] {N:Nat}
def ArgsPts (w:World) (q:Option Addr) (n:Nat) (L:Nat→Bs):Prop:=0<n→∃ gg,q=some ⟨gg,0,none⟩∧gg<w.heap.size∧∀ j,j<n→∃ v,w.cell? ⟨gg,j,none⟩=some v∧Arg33 w v (L j)
def PtsR (P:Nat) [NeZero P] (w:World) (n:Nat) (L:Nat→Bs) (e:Value) (w':World):Prop:=
 (∃ k,w.heap.size≤k∧k<w'.heap.size∧e=.tuple #[.slice (some ⟨k,0,none⟩) n n,.int .i64 0]∧∀ j,j<n→∃ p,rd P (L j)=some p∧w'.rangeAt k (8*j) (ws p.1++ws p.2)) ∨
 ((∃ j,j<n∧rd P (L j)=none)∧e=.tuple #[.slice none 0 0,.int .i64 4])
theorem Pts_c (F:Fld P) (n cap:Nat) (hn:n≤512) (q:Option Addr) (L:Nat→Bs) (w:World) (hA:ArgsPts w q n L):Calls Tryz.prog 106 #[.slice q n cap] w (Ret fun e w'=>Below w.heap.size w w'∧PtsR P w n L e w'):=by
 obtain ⟨C,hCl,hmk⟩:=mk112 n hn
 obtain ⟨i,-⟩:∃ i:Nat,i=0:=⟨_,rfl⟩
 obtain ⟨gg,-⟩:∃ i:Nat,i=0:=⟨_,rfl⟩
 obtain ⟨m,-⟩:∃ i:Nat,i=0:=⟨_,rfl⟩
 obtain ⟨v,-⟩:∃ v:Value,v=.bool true:=⟨_,rfl⟩
 obtain ⟨x,-⟩:∃ x:Fin P,x=0:=⟨_,rfl⟩
 obtain ⟨y,-⟩:∃ x:Fin P,x=0:=⟨_,rfl⟩
 obtain ⟨C2,-⟩:∃ c:List Value,c=C:=⟨_,rfl⟩
 go_enter Tryz.func106,Tryz.ntmps106
 refine RG.var1 (v0:=.slice q n cap) (n:=32) (by kernel_rfl) (by kernel_rfl) (by kernel_rfl) ?_
 intro a0 sl0 f0
 have hS0:=RG.St.begin w
 have M0:RG.M w w.heap.size [] 32 [] [] [(0,(.v (.slice q n cap)))] a0 _:=⟨hS0,sl0,⟨f0,trivial⟩⟩
 repeat refine wp_seq ?_
 refine M0.u [.x 2 [] (.slice none 0 0),.x 3 [] (.int .i64 0)] [(0,(.v (.slice q n cap))),(2,(.v (.slice none 0 0))),(3,(.v (.int .i64 0)))] ⟨RG.st,RG.st,trivial⟩ ?_
 intro a1 w1 M1
 repeat refine wp_seq ?_
 refine M1.t [.x 9 [] (.slice q n cap),.x 10 [(9,0)] (.int .i64 n),⟨some 11,[(10,1)],(.s 0 n n),.make 0⟩,.s 4 [(11,2)] (.s 0 n n)] [(2,C)] [] [C] [(0,(.v (.slice q n cap))),(2,(.v (.slice none 0 0))),(3,(.v (.int .i64 0))),(4,(.s 0 n n))] ⟨RG.st,RG.cert_one rfl 9 (.v (.slice q n cap)) (.int .i64 n) rfl RG.sx (fun a w=>by kernel_rfl) (fun μ w=>by kernel_rfl),RG.cert_makes 0 rfl _ rfl 92 85 10 10 n rfl rfl RG.sx RG.sx (hmk),RG.st,trivial⟩ ?_
 intro j2 a2 w2 M2
 repeat refine wp_seq ?_
 refine M2.u [.x 12 [] (.slice q n cap),.x 13 [(12,0)] (.int .i64 n),.x 14 [] (.int .i64 0)] [(2,(.v (.slice none 0 0))),(3,(.v (.int .i64 0))),(4,(.s 0 n n)),(12,(.v (.slice q n cap))),(13,(.v (.int .i64 n))),(14,(.v (.int .i64 0)))] ⟨RG.st,RG.cert_one rfl 12 (.v (.slice q n cap)) (.int .i64 n) rfl RG.sx (fun a w=>by kernel_rfl) (fun μ w=>by kernel_rfl),RG.st,trivial⟩ ?_
 intro a3 w3 M3
 have f2_3:a3.tmps[2]? = some (.slice none 0 0):=M3.at (s:=(.v (.slice none 0 0)))
 have f3_3:a3.tmps[3]? = some (.int .i64 0):=M3.at (s:=(.v (.int .i64 0)))
 have f4_3:a3.tmps[4]? = some (.slice (some ⟨j2,0,none⟩) n n):=M3.at (s:=(.s 0 n n))
 have f12_3:a3.tmps[12]? = some (.slice q n cap):=M3.at (s:=(.v (.slice q n cap)))
 have f13_3:a3.tmps[13]? = some (.int .i64 n):=M3.at (s:=(.v (.int .i64 n)))
 have f14_3:a3.tmps[14]? = some (.int .i64 0):=M3.at (s:=(.v (.int .i64 0)))
 repeat refine wp_seq ?_
 refine wp_block ?_
 refine wp_loop_ghost (fun m a wr=>∃ (i:Nat) (C:List Value),i+m=n∧(∀ j,j<i→(rd P (L j)).isSome=true)∧Rows 8 n (fun j=>match rd P (L j) with|some p=>ws p.1++ws p.2|none=>[]) i C∧RG.Sl a 32∧a.tmps[4]? = some (.slice (some ⟨j2,0,none⟩) n n)∧a.tmps[12]? = some (.slice q n cap)∧a.tmps[13]? = some (.int .i64 n)∧a.tmps[14]? = some (.int .i64 i)∧RG.St w w.heap.size [] [C] [j2] wr) n ⟨0,C,by omega,fun j hj=>by omega,⟨hCl,fun j r hj=>by omega⟩,M3.sl,f4_3,f12_3,f13_3,f14_3,M3.st⟩ ?_
 intro m' a wr
 rintro ⟨i,C,him,hall,hR,sl,p4,p12,p13,p14,hSp⟩
 generalize j2=kt at p4 hSp
 by_cases hi:i<n
 ·obtain ⟨gg,hqe,hgg,hc⟩:=hA (by omega)
  rw[hqe] at p12
  obtain ⟨v,hv,harg⟩:=hc i hi
  have hcell:w.cell? ⟨gg,0+i,none⟩=some v:=by rw[Nat.zero_add];exact hv
  cases hrdv:rd P (L i) with
  | some pp =>
   obtain ⟨x,y⟩:=pp
   have hrd:∀ w',RG.BelX w.heap.size [] w w'→Calls Tryz.prog 112 #[v] w' (Ret fun e w''=>Below w'.heap.size w' w''∧e=.tuple #[pv x y,.bool true]):=fun w' hb=>by
    have:=readPoint_c F v (L i) w' (harg.below hb.below)
    rw[hrdv] at this
    exact this
   have hlen:=hR.len
   have hoff:0+8*i+(ws x++ws y).length≤C.length:=by rw[hlen];show 0+8*i+8≤8*n;omega
   obtain ⟨C2,hC2e⟩:∃ c,RG.rep C (0+8*i) (ws x++ws y)=c:=⟨_,rfl⟩
   have hC2:=hC2e ▸ RG.rep_at hoff
   have hcl:C2.length=C.length:=hC2e ▸ RG.rep_length hoff
   have hR2:Rows 8 n (fun j=>match rd P (L j) with|some p=>ws p.1++ws p.2|none=>[]) (i+1) C2:=by
    have:=hR.next hi (by show List.length (match rd P (L i) with|some p=>_|none=>_)=_;rw[hrdv];rfl)
    rw[← hC2e]
    have e:(fun j=>match rd P (L j) with|some p=>ws p.1++ws p.2|none=>[]) i=(ws x++ws y):=by show (match rd P (L i) with|some p=>_|none=>_)=_;rw[hrdv]
    rw[← e]
    exact this
   have M10:RG.M w w.heap.size [] 32 [C] [kt] [(4,(.s 0 n n)),(12,(.v (.slice (some ⟨gg,0,none⟩) n cap))),(13,(.v (.int .i64 n))),(14,(.v (.int .i64 i)))] a _:=⟨hSp,sl,⟨p4,p12,p13,p14,trivial⟩⟩
   repeat refine wp_seq ?_
   refine M10.u [.x 15 [] (.bool true)] [(4,(.s 0 n n)),(12,(.v (.slice (some ⟨gg,0,none⟩) n cap))),(13,(.v (.int .i64 n))),(14,(.v (.int .i64 i))),(15,(.v (.bool true)))] ⟨RG.cert_bin rfl .lss 3 3 14 13 (.int .i64 i) (.int .i64 n) (.bool true) rfl rfl RG.sx RG.sx (fun w=>by kernel_rfl) (lssn_t hi),trivial⟩ ?_
   intro a11 w11 M11
   repeat refine wp_seq ?_
   refine wp_cond_true M11.ev ?_
   refine wp_skip ?_
   refine wp_seq ?_
   refine wp_block ?_
   repeat refine wp_seq ?_
   refine M11.u [.x 16 [] (.int .i64 i),.x 17 [] (.pointer (some ⟨gg,(0+i),none⟩)),.x 18 [(17,1)] v,.x 5 [(16,0)] (.int .i64 i),.x 6 [(18,2)] v] [(4,(.s 0 n n)),(5,(.v (.int .i64 i))),(6,(.v v)),(12,(.v (.slice (some ⟨gg,0,none⟩) n cap))),(13,(.v (.int .i64 n))),(14,(.v (.int .i64 i)))] ⟨RG.st,RG.cert_idx rfl 22 12 14 rfl (.v (.slice (some ⟨gg,0,none⟩) n cap)) (.int .i64 i) RG.sx RG.sx (fun μ w=>at46 _ 0 _ _ i hi w),RG.cert_load1B rfl gg (0+i) hgg List.not_mem_nil 23 17 rfl v rfl RG.sx hcell u23,RG.st,RG.st,trivial⟩ ?_
   intro a12 w12 M12
   repeat refine wp_seq ?_
   refine M12.t [.x 20 [] v,.c 21 [(20,0)] (.tuple #[(pv x y),(.bool true)]),.x 19 [(21,1)] (.tuple #[(pv x y),(.bool true)]),.x 22 [(19,2)] (pv x y),.x 23 [(19,2)] (.bool true),.m 7 [] 1,.u [(7,5),(22,3)] 1,.x 8 [(23,4)] (.bool true)] [(5,(RG.z 8))] [(1,6,(ws x++(ws y)))] [C,(ws x++(ws y))] [(4,(.s 0 n n)),(5,(.v (.int .i64 i))),(7,(.p 1 0)),(8,(.v (.bool true))),(12,(.v (.slice (some ⟨gg,0,none⟩) n cap))),(13,(.v (.int .i64 n))),(14,(.v (.int .i64 i)))] ⟨RG.st,RG.cert_callB1 rfl 112 20 v (.tuple #[(pv x y),(.bool true)]) rfl (fun a w=>by kernel_rfl) RG.sx hrd,RG.st,RG.st,RG.st,RG.mk 1 85,RG.pt i109,RG.st,trivial⟩ ?_
   intro j13 a13 w13 M13
   repeat refine wp_seq ?_
   refine M13.u [.x 24 [] (.bool true),.x 25 [(24,0)] (.bool false)] [(4,(.s 0 n n)),(5,(.v (.int .i64 i))),(7,(.p 1 0)),(12,(.v (.slice (some ⟨gg,0,none⟩) n cap))),(13,(.v (.int .i64 n))),(14,(.v (.int .i64 i))),(25,(.v (.bool false)))] ⟨RG.st,RG.st,trivial⟩ ?_
   intro a14 w14 M14
   repeat refine wp_seq ?_
   refine wp_cond_false M14.ev ?_
   refine wp_skip ?_
   repeat refine wp_seq ?_
   refine M14.tx [.s 26 [] (.s 0 n n),.x 27 [] (.int .i64 i),.x 28 [] (pv x y),.s 29 [(26,0),(27,1)] (.p 0 (0+8*i)),.u [(29,3),(28,2)] 0] [] [(0,4,C2)] [C2,(ws x++(ws y))] [(4,(.s 0 n n)),(12,(.v (.slice (some ⟨gg,0,none⟩) n cap))),(13,(.v (.int .i64 n))),(14,(.v (.int .i64 i)))] (by kernel_rfl) (congrArg (fun n=>[n]) hcl) ⟨RG.st,RG.st,RG.ld u109 i109,RG.cert_idx rfl 92 26 27 rfl (.s 0 n n) (.int .i64 i) RG.sx RG.sx (fun μ w=>at112 _ 0 _ _ i hi w),RG.cert_putAt 0 (0+8*i) rfl _ rfl 85 (.tmp 29) (.tmp 28) (ws x++ws y) rfl rfl RG.sx RG.sx hoff hC2 i109 rfl,trivial⟩ ?_
   intro a15 w15 M15
   repeat refine wp_seq ?_
   refine M15.u [.x 30 [] (.int .i64 ((i+1:Nat):Int)),.x 14 [(30,0)] (.int .i64 ((i+1:Nat):Int))] [(4,(.s 0 n n)),(12,(.v (.slice (some ⟨gg,0,none⟩) n cap))),(13,(.v (.int .i64 n))),(14,(.v (.int .i64 ((i+1:Nat):Int))))] ⟨RG.cert_binc rfl .add 3 3 14 (.int .i64 i) (.int .i64 1) (.int .i64 ((i+1:Nat):Int)) rfl rfl RG.sx (fun w=>by kernel_rfl) (addn i 1 (by omega) (by omega)),RG.st,trivial⟩ ?_
   intro a16 w16 M16
   have f4_16:a16.tmps[4]? = some (.slice (some ⟨kt,0,none⟩) n n):=M16.at (s:=(.s 0 n n))
   have f12_16:a16.tmps[12]? = some (.slice (some ⟨gg,0,none⟩) n cap):=M16.at (s:=(.v (.slice (some ⟨gg,0,none⟩) n cap)))
   have f13_16:a16.tmps[13]? = some (.int .i64 n):=M16.at (s:=(.v (.int .i64 n)))
   have f14_16:a16.tmps[14]? = some (.int .i64 ((i+1:Nat):Int)):=M16.at (s:=(.v (.int .i64 ((i+1:Nat):Int))))
   show ∃ n',_
   exact ⟨m'-1,by omega,i+1,C2,by omega,fun j hj=>(by
    by_cases hji:j=i
    ·rw[hji,hrdv];rfl
    ·exact hall j (by omega)),hR2,M16.sl,f4_16,(by rw[hqe];exact f12_16),f13_16,f14_16,RG.St.init (cs:=[C2]) (ks:=[kt]) M16.st⟩
  | none =>
   have hrd:∀ w',RG.BelX w.heap.size [] w w'→Calls Tryz.prog 112 #[v] w' (Ret fun e w''=>Below w'.heap.size w' w''∧e=.tuple #[pv (0:Fin P) 0,.bool false]):=fun w' hb=>by
    have:=readPoint_c F v (L i) w' (harg.below hb.below)
    rw[hrdv] at this
    exact this
   have M20:RG.M w w.heap.size [] 32 [C] [kt] [(4,(.s 0 n n)),(12,(.v (.slice (some ⟨gg,0,none⟩) n cap))),(13,(.v (.int .i64 n))),(14,(.v (.int .i64 i)))] a _:=⟨hSp,sl,⟨p4,p12,p13,p14,trivial⟩⟩
   repeat refine wp_seq ?_
   refine M20.u [.x 15 [] (.bool true)] [(12,(.v (.slice (some ⟨gg,0,none⟩) n cap))),(14,(.v (.int .i64 i))),(15,(.v (.bool true)))] ⟨RG.cert_bin rfl .lss 3 3 14 13 (.int .i64 i) (.int .i64 n) (.bool true) rfl rfl RG.sx RG.sx (fun w=>by kernel_rfl) (lssn_t hi),trivial⟩ ?_
   intro a21 w21 M21
   repeat refine wp_seq ?_
   refine wp_cond_true M21.ev ?_
   refine wp_skip ?_
   refine wp_seq ?_
   refine wp_block ?_
   repeat refine wp_seq ?_
   refine M21.u [.x 16 [] (.int .i64 i),.x 17 [] (.pointer (some ⟨gg,(0+i),none⟩)),.x 18 [(17,1)] v,.x 5 [(16,0)] (.int .i64 i),.x 6 [(18,2)] v] [(6,(.v v))] ⟨RG.st,RG.cert_idx rfl 22 12 14 rfl (.v (.slice (some ⟨gg,0,none⟩) n cap)) (.int .i64 i) RG.sx RG.sx (fun μ w=>at46 _ 0 _ _ i hi w),RG.cert_load1B rfl gg (0+i) hgg List.not_mem_nil 23 17 rfl v rfl RG.sx hcell u23,RG.st,RG.st,trivial⟩ ?_
   intro a22 w22 M22
   repeat refine wp_seq ?_
   refine M22.t [.x 20 [] v,.c 21 [(20,0)] (.tuple #[(pv (0:Fin P) (0:Fin P)),(.bool false)]),.x 19 [(21,1)] (.tuple #[(pv (0:Fin P) (0:Fin P)),(.bool false)]),.x 22 [(19,2)] (pv (0:Fin P) (0:Fin P)),.x 23 [(19,2)] (.bool false),.m 7 [] 1,.u [(7,5),(22,3)] 1,.x 8 [(23,4)] (.bool false)] [(5,(RG.z 8))] [(1,6,(ws (0:Fin P)++(ws (0:Fin P))))] [C,(ws (0:Fin P)++(ws (0:Fin P)))] [(8,(.v (.bool false)))] ⟨RG.st,RG.cert_callB1 rfl 112 20 v (.tuple #[(pv (0:Fin P) (0:Fin P)),(.bool false)]) rfl (fun a w=>by kernel_rfl) RG.sx hrd,RG.st,RG.st,RG.st,RG.mk 1 85,RG.pt i109,RG.st,trivial⟩ ?_
   intro j23 a23 w23 M23
   repeat refine wp_seq ?_
   refine M23.u [.x 24 [] (.bool false),.x 25 [(24,0)] (.bool true)] [(25,(.v (.bool true)))] ⟨RG.st,RG.st,trivial⟩ ?_
   intro a24 w24 M24
   repeat refine wp_seq ?_
   refine wp_cond_true M24.ev ?_
   repeat refine wp_seq ?_
   refine M24.u [.x 2 [] (.slice none 0 0),.x 3 [] (.int .i64 4)] [(2,(.v (.slice none 0 0))),(3,(.v (.int .i64 4)))] ⟨RG.st,RG.st,trivial⟩ ?_
   intro a25 w25 M25
   refine wp_ret ?_
   refine bodyPost_ret (v:=.tuple #[.slice none 0 0,.int .i64 4]) (RG.results_tt 2 3 rfl _ _ (M25.at (s:=(.v (.slice none 0 0)))) (M25.at (s:=(.v (.int .i64 4))))) M25.sl.defers ?_
   exact ⟨_,rfl,M25.st.bel.below,Or.inr ⟨⟨i,hi,hrdv⟩,rfl⟩⟩
 ·have hiN:i=n:=by omega
  have M30:RG.M w w.heap.size [] 32 [C] [kt] [(4,(.s 0 n n)),(12,(.v (.slice q n cap))),(13,(.v (.int .i64 n))),(14,(.v (.int .i64 i)))] a _:=⟨hSp,sl,⟨p4,p12,p13,p14,trivial⟩⟩
  repeat refine wp_seq ?_
  refine M30.u [.x 15 [] (.bool false)] [(4,(.s 0 n n)),(15,(.v (.bool false)))] ⟨RG.cert_bin rfl .lss 3 3 14 13 (.int .i64 i) (.int .i64 n) (.bool false) rfl rfl RG.sx RG.sx (fun w=>by kernel_rfl) (lssn_f hi),trivial⟩ ?_
  intro a31 w31 M31
  repeat refine wp_seq ?_
  refine wp_cond_false M31.ev ?_
  refine wp_exit ?_
  dsimp only[Exit.then,Exit.inBlock]
  rw[if_pos rfl]
  repeat refine wp_seq ?_
  refine M31.u [.s 31 [] (.s 0 n n),.s 2 [(31,0)] (.s 0 n n),.x 3 [] (.int .i64 0)] [(2,(.s 0 n n)),(3,(.v (.int .i64 0)))] ⟨RG.st,RG.st,RG.st,trivial⟩ ?_
  intro a32 w32 M32
  refine wp_ret ?_
  refine bodyPost_ret (v:=.tuple #[.slice (some ⟨kt,0,none⟩) n n,.int .i64 0]) (RG.results_tt 2 3 rfl _ _ (M32.at (s:=(.s 0 n n))) (M32.at (s:=(.v (.int .i64 0))))) M32.sl.defers ?_
  refine ⟨_,rfl,M32.st.bel.below,Or.inl ⟨kt,?_,?_,rfl,fun j hj=>?_⟩⟩
  ·exact (M32.st.has 0 C rfl).2.2.2.elim id (fun h=>absurd h List.not_mem_nil)
  ·exact (M32.st.has 0 C rfl).2.2.1
  ·obtain ⟨pp,hpp⟩:=Option.isSome_iff_exists.1 (hall j (by omega))
   refine ⟨pp,hpp,RG.range_sub (M32.st.has 0 C rfl).1 (fun r hr=>?_)⟩
   have h5:=hR.row j r (by omega) hr
   rw[h5]
   show (match rd P (L j) with|some p=>_|none=>_)[r]? = _
   rw[hpp]
def ArgsScs (w:World) (q:Option Addr) (n:Nat) (L:Nat→Bs):Prop:=0<n→∃ gg,q=some ⟨gg,0,none⟩∧gg<w.heap.size∧∀ j,j<n→∃ v,w.cell? ⟨gg,j,none⟩=some v∧Arg w v (L j)
def ScsR (N:Nat) (w:World) (n:Nat) (L:Nat→Bs) (e:Value) (w':World):Prop:=
 (∃ k,w.heap.size≤k∧k<w'.heap.size∧e=.tuple #[.slice (some ⟨k,0,none⟩) n n,.int .i64 0]∧∀ j,j<n→∃ p,rq N (L j)=some p∧w'.rangeAt k (4*j) (wn p)) ∨
 ((∃ j,j<n∧rq N (L j)=none)∧e=.tuple #[.slice none 0 0,.int .i64 3])
theorem Scs_c {N:Nat} (hG:Gap 4624529908474429119 4994812053365940164 1 N) (n cap:Nat) (hn:n≤512) (q:Option Addr) (L:Nat→Bs) (w:World) (hA:ArgsScs w q n L):Calls Tryz.prog 27 #[.slice q n cap] w (Ret fun e w'=>Below w.heap.size w w'∧ScsR N w n L e w'):=by
 obtain ⟨C,hCl,hmk⟩:=mk82 n hn
 obtain ⟨i,-⟩:∃ i:Nat,i=0:=⟨_,rfl⟩
 obtain ⟨gg,-⟩:∃ i:Nat,i=0:=⟨_,rfl⟩
 obtain ⟨m,-⟩:∃ i:Nat,i=0:=⟨_,rfl⟩
 obtain ⟨v,-⟩:∃ v:Value,v=.bool true:=⟨_,rfl⟩
 obtain ⟨C2,-⟩:∃ c:List Value,c=C:=⟨_,rfl⟩
 go_enter Tryz.func27,Tryz.ntmps27
 refine RG.var1 (v0:=.slice q n cap) (n:=33) (by kernel_rfl) (by kernel_rfl) (by kernel_rfl) ?_
 intro a0 sl0 f0
 have hS0:=RG.St.begin w
 have M0:RG.M w w.heap.size [] 33 [] [] [(0,(.v (.slice q n cap)))] a0 _:=⟨hS0,sl0,⟨f0,trivial⟩⟩
 repeat refine wp_seq ?_
 refine M0.u [.x 2 [] (.slice none 0 0),.x 3 [] (.int .i64 0)] [(0,(.v (.slice q n cap))),(2,(.v (.slice none 0 0))),(3,(.v (.int .i64 0)))] ⟨RG.st,RG.st,trivial⟩ ?_
 intro a1 w1 M1
 repeat refine wp_seq ?_
 refine M1.t [.x 9 [] (.slice q n cap),.x 10 [(9,0)] (.int .i64 n),⟨some 11,[(10,1)],(.s 0 n n),.make 0⟩,.s 4 [(11,2)] (.s 0 n n)] [(2,C)] [] [C] [(0,(.v (.slice q n cap))),(2,(.v (.slice none 0 0))),(3,(.v (.int .i64 0))),(4,(.s 0 n n))] ⟨RG.st,RG.cert_one rfl 9 (.v (.slice q n cap)) (.int .i64 n) rfl RG.sx (fun a w=>by kernel_rfl) (fun μ w=>by kernel_rfl),RG.cert_makes 0 rfl _ rfl 81 50 10 10 n rfl rfl RG.sx RG.sx (hmk),RG.st,trivial⟩ ?_
 intro j2 a2 w2 M2
 repeat refine wp_seq ?_
 refine M2.u [.x 12 [] (.slice q n cap),.x 13 [(12,0)] (.int .i64 n),.x 14 [] (.int .i64 0)] [(2,(.v (.slice none 0 0))),(3,(.v (.int .i64 0))),(4,(.s 0 n n)),(12,(.v (.slice q n cap))),(13,(.v (.int .i64 n))),(14,(.v (.int .i64 0)))] ⟨RG.st,RG.cert_one rfl 12 (.v (.slice q n cap)) (.int .i64 n) rfl RG.sx (fun a w=>by kernel_rfl) (fun μ w=>by kernel_rfl),RG.st,trivial⟩ ?_
 intro a3 w3 M3
 have f2_3:a3.tmps[2]? = some (.slice none 0 0):=M3.at (s:=(.v (.slice none 0 0)))
 have f3_3:a3.tmps[3]? = some (.int .i64 0):=M3.at (s:=(.v (.int .i64 0)))
 have f4_3:a3.tmps[4]? = some (.slice (some ⟨j2,0,none⟩) n n):=M3.at (s:=(.s 0 n n))
 have f12_3:a3.tmps[12]? = some (.slice q n cap):=M3.at (s:=(.v (.slice q n cap)))
 have f13_3:a3.tmps[13]? = some (.int .i64 n):=M3.at (s:=(.v (.int .i64 n)))
 have f14_3:a3.tmps[14]? = some (.int .i64 0):=M3.at (s:=(.v (.int .i64 0)))
 repeat refine wp_seq ?_
 refine wp_block ?_
 refine wp_loop_ghost (fun m a wr=>∃ (i:Nat) (C:List Value),i+m=n∧(∀ j,j<i→(rq N (L j)).isSome=true)∧Rows 4 n (fun j=>match rq N (L j) with|some k=>wn k|none=>[]) i C∧RG.Sl a 33∧a.tmps[4]? = some (.slice (some ⟨j2,0,none⟩) n n)∧a.tmps[12]? = some (.slice q n cap)∧a.tmps[13]? = some (.int .i64 n)∧a.tmps[14]? = some (.int .i64 i)∧RG.St w w.heap.size [] [C] [j2] wr) n ⟨0,C,by omega,fun j hj=>by omega,⟨hCl,fun j r hj=>by omega⟩,M3.sl,f4_3,f12_3,f13_3,f14_3,M3.st⟩ ?_
 intro m' a wr
 rintro ⟨i,C,him,hall,hR,sl,p4,p12,p13,p14,hSp⟩
 generalize j2=kt at p4 hSp
 by_cases hi:i<n
 ·obtain ⟨gg,hqe,hgg,hc⟩:=hA (by omega)
  rw[hqe] at p12
  obtain ⟨v,hv,harg⟩:=hc i hi
  have hcell:w.cell? ⟨gg,0+i,none⟩=some v:=by rw[Nat.zero_add];exact hv
  cases hrdv:rq N (L i) with
  | some pp =>
   obtain ⟨m,rfl⟩:∃ m,m=pp:=⟨_,rfl⟩
   have hrd:∀ w',RG.BelX w.heap.size [] w w'→Calls Tryz.prog 42 #[gv1,v] w' (Ret fun e w''=>Below w'.heap.size w' w''∧e=.tuple #[nv m,.bool true]):=fun w' hb=>by
    have:=readQ_c hG v (L i) w' (harg.below hb.below)
    rw[hrdv] at this
    exact this
   have hlen:=hR.len
   have hoff:0+4*i+(wn m).length≤C.length:=by rw[hlen];show 0+4*i+4≤4*n;omega
   obtain ⟨C2,hC2e⟩:∃ c,RG.rep C (0+4*i) (wn m)=c:=⟨_,rfl⟩
   have hC2:=hC2e ▸ RG.rep_at hoff
   have hcl:C2.length=C.length:=hC2e ▸ RG.rep_length hoff
   have hR2:Rows 4 n (fun j=>match rq N (L j) with|some k=>wn k|none=>[]) (i+1) C2:=by
    have:=hR.next hi (by show List.length (match rq N (L i) with|some p=>_|none=>_)=_;rw[hrdv];rfl)
    rw[← hC2e]
    have e:(fun j=>match rq N (L j) with|some k=>wn k|none=>[]) i=(wn m):=by show (match rq N (L i) with|some p=>_|none=>_)=_;rw[hrdv]
    rw[← e]
    exact this
   have M10:RG.M w w.heap.size [] 33 [C] [kt] [(4,(.s 0 n n)),(12,(.v (.slice (some ⟨gg,0,none⟩) n cap))),(13,(.v (.int .i64 n))),(14,(.v (.int .i64 i)))] a _:=⟨hSp,sl,⟨p4,p12,p13,p14,trivial⟩⟩
   repeat refine wp_seq ?_
   refine M10.u [.x 15 [] (.bool true)] [(4,(.s 0 n n)),(12,(.v (.slice (some ⟨gg,0,none⟩) n cap))),(13,(.v (.int .i64 n))),(14,(.v (.int .i64 i))),(15,(.v (.bool true)))] ⟨RG.cert_bin rfl .lss 3 3 14 13 (.int .i64 i) (.int .i64 n) (.bool true) rfl rfl RG.sx RG.sx (fun w=>by kernel_rfl) (lssn_t hi),trivial⟩ ?_
   intro a11 w11 M11
   repeat refine wp_seq ?_
   refine wp_cond_true M11.ev ?_
   refine wp_skip ?_
   refine wp_seq ?_
   refine wp_block ?_
   repeat refine wp_seq ?_
   refine M11.u [.x 16 [] (.int .i64 i),.x 17 [] (.pointer (some ⟨gg,(0+i),none⟩)),.x 18 [(17,1)] v,.x 5 [(16,0)] (.int .i64 i),.x 6 [(18,2)] v] [(4,(.s 0 n n)),(5,(.v (.int .i64 i))),(6,(.v v)),(12,(.v (.slice (some ⟨gg,0,none⟩) n cap))),(13,(.v (.int .i64 n))),(14,(.v (.int .i64 i)))] ⟨RG.st,RG.cert_idx rfl 22 12 14 rfl (.v (.slice (some ⟨gg,0,none⟩) n cap)) (.int .i64 i) RG.sx RG.sx (fun μ w=>at46 _ 0 _ _ i hi w),RG.cert_load1B rfl gg (0+i) hgg List.not_mem_nil 23 17 rfl v rfl RG.sx hcell u23,RG.st,RG.st,trivial⟩ ?_
   intro a12 w12 M12
   repeat refine wp_seq ?_
   refine M12.t [.c 20 [] gv1,.x 21 [] v,.c 22 [(20,0),(21,1)] (.tuple #[(nv m),(.bool true)]),.x 19 [(22,2)] (.tuple #[(nv m),(.bool true)]),.x 23 [(19,3)] (nv m),.x 24 [(19,3)] (.bool true),.m 7 [] 1,.u [(7,6),(23,4)] 1,.x 8 [(24,5)] (.bool true)] [(6,(RG.z 4))] [(1,7,(wn m))] [C,(wn m)] [(4,(.s 0 n n)),(5,(.v (.int .i64 i))),(7,(.p 1 0)),(8,(.v (.bool true))),(12,(.v (.slice (some ⟨gg,0,none⟩) n cap))),(13,(.v (.int .i64 n))),(14,(.v (.int .i64 i)))] ⟨RG.cl (Scalars_c),RG.st,RG.cert_callB2 rfl 42 20 21 gv1 v (.tuple #[(nv m),(.bool true)]) rfl (fun a w=>by kernel_rfl) RG.sx RG.sx hrd,RG.st,RG.st,RG.st,RG.mk 1 50,RG.pt i85,RG.st,trivial⟩ ?_
   intro j13 a13 w13 M13
   repeat refine wp_seq ?_
   refine M13.u [.x 25 [] (.bool true),.x 26 [(25,0)] (.bool false)] [(4,(.s 0 n n)),(5,(.v (.int .i64 i))),(7,(.p 1 0)),(12,(.v (.slice (some ⟨gg,0,none⟩) n cap))),(13,(.v (.int .i64 n))),(14,(.v (.int .i64 i))),(26,(.v (.bool false)))] ⟨RG.st,RG.st,trivial⟩ ?_
   intro a14 w14 M14
   repeat refine wp_seq ?_
   refine wp_cond_false M14.ev ?_
   refine wp_skip ?_
   repeat refine wp_seq ?_
   refine M14.tx [.s 27 [] (.s 0 n n),.x 28 [] (.int .i64 i),.x 29 [] (nv m),.s 30 [(27,0),(28,1)] (.p 0 (0+4*i)),.u [(30,3),(29,2)] 0] [] [(0,4,C2)] [C2,(wn m)] [(4,(.s 0 n n)),(12,(.v (.slice (some ⟨gg,0,none⟩) n cap))),(13,(.v (.int .i64 n))),(14,(.v (.int .i64 i)))] (by kernel_rfl) (congrArg (fun n=>[n]) hcl) ⟨RG.st,RG.st,RG.ld u85 i85,RG.cert_idx rfl 81 27 28 rfl (.s 0 n n) (.int .i64 i) RG.sx RG.sx (fun μ w=>at82 _ 0 _ _ i hi w),RG.cert_putAt 0 (0+4*i) rfl _ rfl 50 (.tmp 30) (.tmp 29) (wn m) rfl rfl RG.sx RG.sx hoff hC2 i85 rfl,trivial⟩ ?_
   intro a15 w15 M15
   repeat refine wp_seq ?_
   refine M15.u [.x 31 [] (.int .i64 ((i+1:Nat):Int)),.x 14 [(31,0)] (.int .i64 ((i+1:Nat):Int))] [(4,(.s 0 n n)),(12,(.v (.slice (some ⟨gg,0,none⟩) n cap))),(13,(.v (.int .i64 n))),(14,(.v (.int .i64 ((i+1:Nat):Int))))] ⟨RG.cert_binc rfl .add 3 3 14 (.int .i64 i) (.int .i64 1) (.int .i64 ((i+1:Nat):Int)) rfl rfl RG.sx (fun w=>by kernel_rfl) (addn i 1 (by omega) (by omega)),RG.st,trivial⟩ ?_
   intro a16 w16 M16
   have f4_16:a16.tmps[4]? = some (.slice (some ⟨kt,0,none⟩) n n):=M16.at (s:=(.s 0 n n))
   have f12_16:a16.tmps[12]? = some (.slice (some ⟨gg,0,none⟩) n cap):=M16.at (s:=(.v (.slice (some ⟨gg,0,none⟩) n cap)))
   have f13_16:a16.tmps[13]? = some (.int .i64 n):=M16.at (s:=(.v (.int .i64 n)))
   have f14_16:a16.tmps[14]? = some (.int .i64 ((i+1:Nat):Int)):=M16.at (s:=(.v (.int .i64 ((i+1:Nat):Int))))
   show ∃ n',_
   exact ⟨m'-1,by omega,i+1,C2,by omega,fun j hj=>(by
    by_cases hji:j=i
    ·rw[hji,hrdv];rfl
    ·exact hall j (by omega)),hR2,M16.sl,f4_16,(by rw[hqe];exact f12_16),f13_16,f14_16,RG.St.init (cs:=[C2]) (ks:=[kt]) M16.st⟩
  | none =>
   have hrd:∀ w',RG.BelX w.heap.size [] w w'→Calls Tryz.prog 42 #[gv1,v] w' (Ret fun e w''=>Below w'.heap.size w' w''∧e=.tuple #[nv 0,.bool false]):=fun w' hb=>by
    have:=readQ_c hG v (L i) w' (harg.below hb.below)
    rw[hrdv] at this
    exact this
   have M20:RG.M w w.heap.size [] 33 [C] [kt] [(4,(.s 0 n n)),(12,(.v (.slice (some ⟨gg,0,none⟩) n cap))),(13,(.v (.int .i64 n))),(14,(.v (.int .i64 i)))] a _:=⟨hSp,sl,⟨p4,p12,p13,p14,trivial⟩⟩
   repeat refine wp_seq ?_
   refine M20.u [.x 15 [] (.bool true)] [(12,(.v (.slice (some ⟨gg,0,none⟩) n cap))),(14,(.v (.int .i64 i))),(15,(.v (.bool true)))] ⟨RG.cert_bin rfl .lss 3 3 14 13 (.int .i64 i) (.int .i64 n) (.bool true) rfl rfl RG.sx RG.sx (fun w=>by kernel_rfl) (lssn_t hi),trivial⟩ ?_
   intro a21 w21 M21
   repeat refine wp_seq ?_
   refine wp_cond_true M21.ev ?_
   refine wp_skip ?_
   refine wp_seq ?_
   refine wp_block ?_
   repeat refine wp_seq ?_
   refine M21.u [.x 16 [] (.int .i64 i),.x 17 [] (.pointer (some ⟨gg,(0+i),none⟩)),.x 18 [(17,1)] v,.x 5 [(16,0)] (.int .i64 i),.x 6 [(18,2)] v] [(6,(.v v))] ⟨RG.st,RG.cert_idx rfl 22 12 14 rfl (.v (.slice (some ⟨gg,0,none⟩) n cap)) (.int .i64 i) RG.sx RG.sx (fun μ w=>at46 _ 0 _ _ i hi w),RG.cert_load1B rfl gg (0+i) hgg List.not_mem_nil 23 17 rfl v rfl RG.sx hcell u23,RG.st,RG.st,trivial⟩ ?_
   intro a22 w22 M22
   repeat refine wp_seq ?_
   refine M22.t [.c 20 [] gv1,.x 21 [] v,.c 22 [(20,0),(21,1)] (.tuple #[(nv 0),(.bool false)]),.x 19 [(22,2)] (.tuple #[(nv 0),(.bool false)]),.x 23 [(19,3)] (nv 0),.x 24 [(19,3)] (.bool false),.m 7 [] 1,.u [(7,6),(23,4)] 1,.x 8 [(24,5)] (.bool false)] [(6,(RG.z 4))] [(1,7,(wn 0))] [C,(wn 0)] [(8,(.v (.bool false)))] ⟨RG.cl (Scalars_c),RG.st,RG.cert_callB2 rfl 42 20 21 gv1 v (.tuple #[(nv 0),(.bool false)]) rfl (fun a w=>by kernel_rfl) RG.sx RG.sx hrd,RG.st,RG.st,RG.st,RG.mk 1 50,RG.pt i85,RG.st,trivial⟩ ?_
   intro j23 a23 w23 M23
   repeat refine wp_seq ?_
   refine M23.u [.x 25 [] (.bool false),.x 26 [(25,0)] (.bool true)] [(26,(.v (.bool true)))] ⟨RG.st,RG.st,trivial⟩ ?_
   intro a24 w24 M24
   repeat refine wp_seq ?_
   refine wp_cond_true M24.ev ?_
   repeat refine wp_seq ?_
   refine M24.u [.x 2 [] (.slice none 0 0),.x 3 [] (.int .i64 3)] [(2,(.v (.slice none 0 0))),(3,(.v (.int .i64 3)))] ⟨RG.st,RG.st,trivial⟩ ?_
   intro a25 w25 M25
   refine wp_ret ?_
   refine bodyPost_ret (v:=.tuple #[.slice none 0 0,.int .i64 3]) (RG.results_tt 2 3 rfl _ _ (M25.at (s:=(.v (.slice none 0 0)))) (M25.at (s:=(.v (.int .i64 3))))) M25.sl.defers ?_
   exact ⟨_,rfl,M25.st.bel.below,Or.inr ⟨⟨i,hi,hrdv⟩,rfl⟩⟩
 ·have hiN:i=n:=by omega
  have M30:RG.M w w.heap.size [] 33 [C] [kt] [(4,(.s 0 n n)),(12,(.v (.slice q n cap))),(13,(.v (.int .i64 n))),(14,(.v (.int .i64 i)))] a _:=⟨hSp,sl,⟨p4,p12,p13,p14,trivial⟩⟩
  repeat refine wp_seq ?_
  refine M30.u [.x 15 [] (.bool false)] [(4,(.s 0 n n)),(15,(.v (.bool false)))] ⟨RG.cert_bin rfl .lss 3 3 14 13 (.int .i64 i) (.int .i64 n) (.bool false) rfl rfl RG.sx RG.sx (fun w=>by kernel_rfl) (lssn_f hi),trivial⟩ ?_
  intro a31 w31 M31
  repeat refine wp_seq ?_
  refine wp_cond_false M31.ev ?_
  refine wp_exit ?_
  dsimp only[Exit.then,Exit.inBlock]
  rw[if_pos rfl]
  repeat refine wp_seq ?_
  refine M31.u [.s 32 [] (.s 0 n n),.s 2 [(32,0)] (.s 0 n n),.x 3 [] (.int .i64 0)] [(2,(.s 0 n n)),(3,(.v (.int .i64 0)))] ⟨RG.st,RG.st,RG.st,trivial⟩ ?_
  intro a32 w32 M32
  refine wp_ret ?_
  refine bodyPost_ret (v:=.tuple #[.slice (some ⟨kt,0,none⟩) n n,.int .i64 0]) (RG.results_tt 2 3 rfl _ _ (M32.at (s:=(.s 0 n n))) (M32.at (s:=(.v (.int .i64 0))))) M32.sl.defers ?_
  refine ⟨_,rfl,M32.st.bel.below,Or.inl ⟨kt,?_,?_,rfl,fun j hj=>?_⟩⟩
  ·exact (M32.st.has 0 C rfl).2.2.2.elim id (fun h=>absurd h List.not_mem_nil)
  ·exact (M32.st.has 0 C rfl).2.2.1
  ·obtain ⟨pp,hpp⟩:=Option.isSome_iff_exists.1 (hall j (by omega))
   refine ⟨pp,hpp,RG.range_sub (M32.st.has 0 C rfl).1 (fun r hr=>?_)⟩
   have h5:=hR.row j r (by omega) hr
   rw[h5]
   show (match rq N (L j) with|some p=>_|none=>_)[r]? = _
   rw[hpp]
end
section
open Go.RowKit Go.Sort Go.Deep
variable {P:Nat} [NeZero P] {N:Nat}
omit [NeZero P] in
theorem words2 (x y:Fin P):∃ a b c d p q r s:Nat,pv x y=.agg #[.int .u64 a,.int .u64 b,.int .u64 c,.int .u64 d,.int .u64 p,.int .u64 q,.int .u64 r,.int .u64 s]∧ws x++ws y=[.int .u64 a,.int .u64 b,.int .u64 c,.int .u64 d,.int .u64 p,.int .u64 q,.int .u64 r,.int .u64 s]:=
 ⟨_,_,_,_,_,_,_,_,rfl,rfl⟩
def OutE (c:Int) (e:Value):Prop:=e=.tuple #[.slice none 0 0,.int .i64 c]
def OutP (w:World) (T:Bs) (e:Value) (w':World):Prop:=∃ g cap,e=.tuple #[.slice (some ⟨g,0,none⟩) 33 cap,.int .i64 0]∧33≤cap∧w.heap.size≤g∧g<w'.heap.size∧Holds encB w' g 0 T
theorem gPoint_c (C:Fld P) (v:Value) (bs:Bs) (w:World) (hv:Arg33 w v bs):Calls Tryz.prog 59 #[v] w (Ret fun e w'=>Below w.heap.size w w'∧e=.bool (rd P bs).isSome):=by
 have hc:∃ (a1 b1 c1 d1 p1 q1 r1 s1:Nat),Calls Tryz.prog 112 #[v] w (Ret fun e w'=>Below w.heap.size w w'∧e=.tuple #[.agg #[.int .u64 a1,.int .u64 b1,.int .u64 c1,.int .u64 d1,.int .u64 p1,.int .u64 q1,.int .u64 r1,.int .u64 s1],.bool (rd P bs).isSome]):=by
  have h:=readPoint_c C v bs w hv
  cases hrd:rd P bs with
  | none =>
   obtain ⟨a1,b1,c1,d1,p1,q1,r1,s1,e1,-⟩:=words2 (0:Fin P) 0
   refine ⟨a1,b1,c1,d1,p1,q1,r1,s1,?_⟩
   rw[hrd] at h
   rw[← e1]
   exact h
  | some p =>
   obtain ⟨a1,b1,c1,d1,p1,q1,r1,s1,e1,-⟩:=words2 p.1 p.2
   refine ⟨a1,b1,c1,d1,p1,q1,r1,s1,?_⟩
   rw[hrd] at h
   rw[← e1]
   exact h
 obtain ⟨a1,b1,c1,d1,p1,q1,r1,s1,hc⟩:=hc
 generalize (rd P bs).isSome=bb at hc ⊢
 obtain ⟨q,n,cap,rfl,-⟩:=hv
 go_enter Tryz.func59,Tryz.ntmps59
 go_wp2_with fail
 refine hc.mono ?_
 rintro e w1 ⟨v,rfl,hb1,rfl⟩
 have HB:Hid (Below w.heap.size w w1):=hb1
 clear hb1 hc
 go_wp2
 go_ret
 exact ⟨_,rfl,HB.out.alloc HB.out.size _,rfl⟩
def ptP (s:T3 P):Fin P × Fin P:=(s.1*(EC.inv s.2.2*EC.inv s.2.2),s.2.1*(EC.inv s.2.2*EC.inv s.2.2)*EC.inv s.2.2)
theorem cell_below {w w1:World} {k j:Nat} {v:Value} (h:w.cell? ⟨k,j,none⟩=some v) (hb:Below w.heap.size w w1) (hk:k<w.heap.size):w1.cell? ⟨k,j,none⟩=some v:=by
 have h1:w.rangeAt k j [v]:=fun i u hu=>by
  cases i with
  | zero =>
   obtain rfl:v=u:=Option.some.inj hu
   exact h
  | succ i=>exact absurd hu (by simp)
 exact RG.range_below h1 hb hk 0 v rfl
theorem ArgsPts.below {w w1:World} {q:Option Addr} {n:Nat} {L:Nat→Bs} (h:ArgsPts w q n L) (hb:Below w.heap.size w w1):ArgsPts w1 q n L:=fun hn=>by
 obtain ⟨gg,hq,hlt,hc⟩:=h hn
 refine ⟨gg,hq,Nat.lt_of_lt_of_le hlt hb.size,fun j hj=>?_⟩
 obtain ⟨v,hv,ha⟩:=hc j hj
 exact ⟨v,cell_below hv hb hlt,ha.below hb⟩
def SumR (P:Nat) [NeZero P] (N:Nat) (w:World) (n a:Nat) (L M:Nat→Bs) (e:Value) (w':World):Prop:=
 (n≠a∧OutE 2 e)∨(n=a∧512<n∧OutE 1 e)∨(n=a∧n≤512∧(((∃ j,j<n∧rq N (L j)=none)∧OutE 3 e) ∨
  ∃ ns:Nat→Nat,(∀ j,j<n→rq N (L j)=some (ns j))∧(((∃ j,j<n∧rd P (M j)=none)∧OutE 4 e) ∨
   ∃ xs ys:Nat→Fin P,(∀ j,j<n→rd P (M j)=some (xs j,ys j))∧OutP w (by33 (ptP (sumJ ns xs ys n 257)).1 (ptP (sumJ ns xs ys n 257)).2) e w')))
theorem choose_nat {A:Type} [Inhabited A] {n:Nat} {p:Nat→A→Prop} (h:∀ j,j<n→∃ a,p j a):∃ f:Nat→A,∀ j,j<n→p j (f j):=
 ⟨fun j=>if hj:j<n then (h j hj).choose else default,fun j hj=>by
  show p j (if hj:j<n then (h j hj).choose else default)
  rw[dif_pos hj]
  exact (h j hj).choose_spec⟩
theorem rq_top {N:Nat} (hN:N≤top) {bs:Bs} {m:Nat} (h:rq N bs=some m):m<top:=by
 unfold rq at h
 split at h
 ·rename_i h1
  obtain rfl:beV bs.toList=m:=Option.some.inj h
  exact Nat.lt_of_lt_of_le h1.2 hN
 ·exact absurd h (by simp)
theorem gSum_c {N:Nat} (C:Fld P) (hG:Gap 4624529908474429119 4994812053365940164 1 N) (hN:N≤top) (q q':Option Addr) (n cap a cap':Nat) (L M:Nat→Bs) (w:World) (hL:ArgsScs w q n L) (hM:ArgsPts w q' a M) :
 Calls Tryz.prog 51 #[.slice q n cap,.slice q' a cap'] w (Ret fun e w'=>Below w.heap.size w w'∧SumR P N w n a L M e w'):=by
 have HL:Hid (ArgsScs w q n L):=hL
 have HM:Hid (ArgsPts w q' a M):=hM
 clear hL hM
 by_cases hna:n=a
 ·subst hna
  by_cases h512:512<n
  ·go_enter Tryz.func51,Tryz.ntmps51
   go_wp2
   go_ret2
   exact ⟨_,rfl,RowKit.Below.refl _ _,Or.inr (Or.inl ⟨rfl,h512,rfl⟩)⟩
  ·have H5:n≤512:=by omega
   go_enter Tryz.func51,Tryz.ntmps51
   go_wp2_with fail
   refine (Scs_c hG n cap H5 q L w HL.out).mono ?_
   rintro e w1 ⟨v,rfl,hb1,⟨k,hk1,hk2,rfl,hrow⟩|⟨hno,rfl⟩⟩
   ·obtain ⟨ns,hns⟩:=choose_nat hrow
    have HB:Hid (Below w.heap.size w w1):=hb1
    have HS:Hid (k<w1.heap.size∧∀ j,j<n→w1.rangeAt k (4*j) (wn (ns j))):=⟨hk2,fun j hj=>(hns j hj).2⟩
    have HN:Hid (∀ j,j<n→rq N (L j)=some (ns j)):=fun j hj=>(hns j hj).1
    clear hrow hns hk1 hk2 hb1
    go_wp2_with fail
    refine (Pts_c C n cap' H5 q' M w1 (HM.out.below HB.out)).mono ?_
    rintro e w2 ⟨v,rfl,hb2,⟨k',hk1,hk2,rfl,hrow⟩|⟨hno,rfl⟩⟩
    ·obtain ⟨ps,hps⟩:=choose_nat hrow
     have HB2:Hid (Below w.heap.size w w2):=HB.out.trans (hb2.mono HB.out.size)
     have HS2:Hid (k<w2.heap.size∧∀ j,j<n→w2.rangeAt k (4*j) (wn (ns j))):=⟨Nat.lt_of_lt_of_le HS.out.1 hb2.size,fun j hj=>RG.range_below (HS.out.2 j hj) hb2 HS.out.1⟩
     have HP:Hid (k'<w2.heap.size∧∀ j,j<n→w2.rangeAt k' (8*j) (ws (ps j).1++ws (ps j).2)):=⟨hk2,fun j hj=>(hps j hj).2⟩
     have HM2:Hid (∀ j,j<n→rd P (M j)=some ((ps j).1,(ps j).2)):=fun j hj=>(hps j hj).1
     clear hrow hps hk1 hk2 hb2
     have hBt:∀ w,Calls Tryz.prog 32 #[pv (ptP (sumJ ns (fun j=>(ps j).1) (fun j=>(ps j).2) n 257)).1 (ptP (sumJ ns (fun j=>(ps j).1) (fun j=>(ps j).2) n 257)).2] w (Ret fun e w'=>Below w.heap.size w w'∧BytesR w (by33 (ptP (sumJ ns (fun j=>(ps j).1) (fun j=>(ps j).2) n 257)).1 (ptP (sumJ ns (fun j=>(ps j).1) (fun j=>(ps j).2) n 257)).2) e w'):=bytes_c C _ _
     have hS:Calls Tryz.prog 28 #[.slice (some ⟨k,0,none⟩) n n,.slice (some ⟨k',0,none⟩) n n] w2 (Ret fun e w'=>Below w2.heap.size w2 w'∧e=pv (ptP (sumJ ns (fun j=>(ps j).1) (fun j=>(ps j).2) n 257)).1 (ptP (sumJ ns (fun j=>(ps j).1) (fun j=>(ps j).2) n 257)).2):=by
      refine (sums_c C n H5 ns (fun j=>(ps j).1) (fun j=>(ps j).2) (fun i hi=>rq_top hN (HN.out i hi)) k k' w2 HS2.out.1 HP.out.1 HS2.out.2 HP.out.2).mono ?_
      rintro e w' ⟨v,rfl,hb,s,rfl,rfl⟩
      exact ⟨_,rfl,hb,rfl⟩
     generalize hz:ptP (sumJ ns (fun j=>(ps j).1) (fun j=>(ps j).2) n 257)=z at hS hBt
     have HZ:Hid (ptP (sumJ ns (fun j=>(ps j).1) (fun j=>(ps j).2) n 257)=z):=hz
     clear hz
     generalize pv z.1 z.2=v4 at hS hBt
     go_wp2_with fail
     refine hS.mono ?_
     rintro e w3 ⟨v,rfl,hb3,rfl⟩
     have HB3:Hid (Below w.heap.size w w3):=HB2.out.trans (hb3.mono HB2.out.size)
     clear hb3
     go_wp2_with fail
     refine (hBt _).mono ?_
     rintro e w4 ⟨v,rfl,hb4,g,cap3,rfl,hc3,hg3,hlt3,hH3⟩
     have HB4:Hid (Below w.heap.size w w4):=HB3.out.trans (hb4.mono HB3.out.size)
     have HO:Hid (OutP w (by33 z.1 z.2) (.tuple #[.slice (some ⟨g,0,none⟩) 33 cap3,.int .i64 0]) w4):=⟨g,cap3,rfl,hc3,Nat.le_trans HB3.out.size hg3,hlt3,hH3⟩
     clear hb4 hH3
     go_wp2
     go_ret2
     refine ⟨_,rfl,HB4.out,Or.inr (Or.inr ⟨rfl,H5,Or.inr ⟨ns,HN.out,Or.inr ⟨_,_,HM2.out,?_⟩⟩⟩)⟩
     rw[HZ.out]
     exact HO.out
    ·have HB2:Hid (Below w.heap.size w w2):=HB.out.trans (hb2.mono HB.out.size)
     have HO:Hid (∃ j,j<n∧rd P (M j)=none):=hno
     clear hb2 hno
     go_wp2
     go_ret2
     exact ⟨_,rfl,HB2.out,Or.inr (Or.inr ⟨rfl,H5,Or.inr ⟨ns,HN.out,Or.inl ⟨HO.out,rfl⟩⟩⟩)⟩
   ·have HB:Hid (Below w.heap.size w w1):=hb1
    have HO:Hid (∃ j,j<n∧rq N (L j)=none):=hno
    clear hb1 hno
    go_wp2
    go_ret2
    exact ⟨_,rfl,HB.out,Or.inr (Or.inr ⟨rfl,H5,Or.inl ⟨HO.out,rfl⟩⟩)⟩
 ·go_enter Tryz.func51,Tryz.ntmps51
  go_wp2
  go_ret2
  exact ⟨_,rfl,RowKit.Below.refl _ _,Or.inl ⟨hna,rfl⟩⟩
def zs33:Bs:=Array.replicate 33 0
theorem sq_mod (r d:Nat):d*d%(r+d)=r*r%(r+d):=by
 have h:d*d+(r+d)*r=r*r+(r+d)*d:=by
  rw[Nat.add_mul,Nat.add_mul,Nat.mul_comm d r]
  omega
 have h1:=congrArg (· % (r+d)) h
 simp only[Nat.add_mul_mod_self_left] at h1
 exact h1
theorem rt_sq {m y:Fin P} (h:rt m=some y):y*y=m:=by
 have h0:=rt_yes h
 unfold rt at h
 rw[if_pos h0] at h
 obtain rfl:=Option.some.inj h
 have hP:=Nat.pos_of_neZero P
 have hr:m.val^(P/4+1)%P<P:=Nat.mod_lt _ hP
 generalize m.val^(P/4+1)%P=r at h0 hr
 apply Fin.ext
 rw[Fin.val_mul]
 show (even P r%P)*(even P r%P)%P=m.val
 rw[Nat.mod_eq_of_lt (even_lt hP hr),← h0]
 unfold even
 split
 ·have h2:=sq_mod r (P-r)
  rw[show r+(P-r)=P by omega] at h2
  exact h2
 ·rfl
theorem zero33_iff {bs:Bs} (hs:bs.size=33):Zero33 bs↔bs=zs33:=by
 constructor
 ·intro h
  apply Array.ext
  ·rw[hs];rfl
  ·intro i h1 h2
   have:=h i (List.mem_range.2 (by omega))
   rw[getElem!_pos bs i h1] at this
   have h3:bs[i].toNat=0:=by
    have h4:ub bs[i]=(bs[i].toNat:Int):=rfl
    rw[h4] at this
    omega
   have h5:(zs33)[i]=0:=by
    have h6:(Array.replicate 33 (0:UInt8))[i]'h2=0:=Array.getElem_replicate _
    exact h6
   rw[h5]
   exact UInt8.toNat_inj.1 h3
 ·rintro rfl i hi
  have hi:=List.mem_range.1 hi
  unfold zs33
  rw[getElem!_pos _ i (by rw[Array.size_replicate];exact hi),Array.getElem_replicate]
  rfl
theorem on_of {x y:Fin P} (h:y*y=x*x*x+7):EC.On (.some (x,y):EC.Pt P):=by
 show y^2=x^3+7
 grobner
theorem on_neg {x y:Fin P} (h:y*y=x*x*x+7):EC.On (.some (x,0-y):EC.Pt P):=by
 show (0-y)^2=x^3+7
 grobner
def wr:EC.Pt P→Bs
 | none=>zs33
 | some (x,y)=>#[mark y.val]++bx x.val
theorem by33_wr (C:Fld P) {x y:Fin P} {p:EC.Pt P} (h:EC.Pair x y p) (ho:EC.On p):by33 x y=wr p:=by
 unfold by33
 match p,h,ho with
 | none,h,_=>rw[if_pos (show x=0∧y=0 from h)];rfl
 | some (a,b),h,ho =>
  obtain ⟨rfl,rfl⟩:=h
  rw[if_neg (fun e=>C.cur.y_ne ho e.2)]
  rfl
def pt (p:Fin P × Fin P):EC.Pt P:=if p.1=0∧p.2=0 then none else some p
theorem pair_pt (C:Fld P) {x y:Fin P} {q:EC.Pt P} (h:EC.Pair x y q) (ho:EC.On q):q=pt (x,y):=by
 unfold pt
 match q,h,ho with
 | none,h,_=>rw[if_pos (show x=0∧y=0 from h)]
 | some (a,b),h,ho =>
  obtain ⟨rfl,rfl⟩:=h
  rw[if_neg (fun e=>C.cur.y_ne ho e.2)]
theorem rd_on (C:Fld P) {bs:Bs} {p:Fin P × Fin P} (h:rd P bs=some p):EC.Pair p.1 p.2 (pt p)∧EC.On (pt p):=by
 have key:∃ q:EC.Pt P,EC.Pair p.1 p.2 q∧EC.On q:=by
  unfold rd at h
  split at h
  ·split at h
   ·obtain rfl:=Option.some.inj h
    exact ⟨none,⟨rfl,rfl⟩,EC.none_on⟩
   ·split at h
    ·split at h
     ·obtain ⟨y,hr,rfl⟩:=Option.map_eq_some_iff.1 h
      have hsq:=rt_sq hr
      refine ⟨some (rdx P bs,if ub bs[0]! = 3 then 0-y else y),⟨rfl,rfl⟩,?_⟩
      split
      ·exact on_neg hsq
      ·exact on_of hsq
     ·cases h
    ·cases h
  ·cases h
 obtain ⟨q,h1,h2⟩:=key
 have:=pair_pt C h1 h2
 rw[show pt p=q from this.symm]
 exact ⟨h1,h2⟩
omit [NeZero P] in
theorem wr_size (p:EC.Pt P):(wr p).size=33:=by
 match p with
 | none=>rfl
 | some (x,y) =>
  show (#[mark y.val]++bx x.val).size=33
  rw[Array.size_append,bx_size]
  rfl
end
section
variable {P:Nat} [NeZero P] {N:Nat}
theorem root_mod {a P:Nat} (h:NT.IsP P) (h4:P%4=3):(a*a%P)^(P/4+1)%P*((a*a%P)^(P/4+1)%P)%P=a*a%P:=by
 rw[← Nat.mul_mod,← Nat.pow_add,← Nat.pow_mod,← Nat.pow_two,← Nat.pow_mul,show 2*(P/4+1+(P/4+1))=P+1 by omega,Nat.pow_succ,Nat.mul_mod,h.fermat a,← Nat.mul_mod,Nat.pow_two]
theorem root_is {a R P:Nat} (h:NT.IsP P) (ha:a<P) (hR:R<P) (he:R*R%P=a*a%P):R=a∨R+a=P:=by
 have key:∀ x y:Nat,x<P→y<P→y≤x→x*x%P=y*y%P→x=y∨x+y=P:=by
  intro x y hx hy hxy hxe
  have hd:P ∣ x*x-y*y:=by
   refine Nat.dvd_of_mod_eq_zero ?_
   exact Nat.sub_mod_eq_zero_of_mod_eq hxe
  have hf:x*x-y*y=(x-y)*(x+y):=by
   rw[Nat.mul_comm (x-y),Nat.mul_self_sub_mul_self_eq]
  rw[hf] at hd
  rcases h.euclid hd with h1|h1
  ·left
   have:=Nat.eq_zero_of_dvd_of_lt h1 (by omega)
   omega
  ·obtain ⟨k,hk⟩:=h1
   have:k=0∨k=1∨2≤k:=by omega
   rcases this with rfl|rfl|h2
   ·left;omega
   ·right;omega
   ·have:=Nat.mul_le_mul_left P h2
    omega
 rcases Nat.le_total a R with h1|h1
 ·exact key R a hR ha h1 he
 ·rcases key a R ha hR h1 he.symm with h2|h2
  ·left;exact h2.symm
  ·right;omega
end
section
open Go.RowKit Go.Sort Go.Deep
theorem w8_be8 (x:Nat) (hx:x<18446744073709551616) :
 w8 (UInt8.ofNat (x/72057594037927936)) (UInt8.ofNat (x/281474976710656)) (UInt8.ofNat (x/1099511627776)) (UInt8.ofNat (x/4294967296)) (UInt8.ofNat (x/16777216)) (UInt8.ofNat (x/65536)) (UInt8.ofNat (x/256)) (UInt8.ofNat x)=x:=by
 unfold w8
 simp only[UInt8.toNat_ofNat']
 omega
theorem be32_list (a b c d:Nat):(be32 a b c d).toList=[UInt8.ofNat (d/72057594037927936),UInt8.ofNat (d/281474976710656),UInt8.ofNat (d/1099511627776),UInt8.ofNat (d/4294967296),UInt8.ofNat (d/16777216),UInt8.ofNat (d/65536),UInt8.ofNat (d/256),UInt8.ofNat d,UInt8.ofNat (c/72057594037927936),UInt8.ofNat (c/281474976710656),UInt8.ofNat (c/1099511627776),UInt8.ofNat (c/4294967296),UInt8.ofNat (c/16777216),UInt8.ofNat (c/65536),UInt8.ofNat (c/256),UInt8.ofNat c,UInt8.ofNat (b/72057594037927936),UInt8.ofNat (b/281474976710656),UInt8.ofNat (b/1099511627776),UInt8.ofNat (b/4294967296),UInt8.ofNat (b/16777216),UInt8.ofNat (b/65536),UInt8.ofNat (b/256),UInt8.ofNat b,UInt8.ofNat (a/72057594037927936),UInt8.ofNat (a/281474976710656),UInt8.ofNat (a/1099511627776),UInt8.ofNat (a/4294967296),UInt8.ofNat (a/16777216),UInt8.ofNat (a/65536),UInt8.ofNat (a/256),UInt8.ofNat a]:=by
 simp only[be32,be8,Array.toList_append,List.cons_append,List.nil_append]
theorem val_congr {a b c d p q r s:Nat} (h1:a=p) (h2:b=q) (h3:c=r) (h4:d=s):val a b c d=val p q r s:=by subst h1 h2 h3 h4;rfl
theorem beV_be32 (a b c d:Nat) (ha:a<18446744073709551616) (hb:b<18446744073709551616) (hc:c<18446744073709551616) (hd:d<18446744073709551616):beV (be32 a b c d).toList=val a b c d:=
 (congrArg beV (be32_list a b c d)).trans ((beV_32 _ _ _ _ _ _ _ _ _ _ _ _ _ _ _ _ _ _ _ _ _ _ _ _ _ _ _ _ _ _ _ _).trans (val_congr (w8_be8 a ha) (w8_be8 b hb) (w8_be8 c hc) (w8_be8 d hd)))
theorem bx_val {n:Nat} (hn:n<top):beV (bx n).toList=n:=by
 unfold bx
 rw[beV_be32 _ _ _ _ (by omega) (by omega) (by omega) (by omega)]
 unfold val
 unfold top at hn
 omega
variable {P:Nat} [NeZero P]
theorem rt_of (C:Fld P) {y m:Fin P} (h:y*y=m):rt m=some (if y.val%2=1 then 0-y else y):=by
 have hm:y.val*y.val%P=m.val:=by rw[← h,Fin.val_mul]
 have h1:=root_mod (a:=y.val) C.cur.pr C.p3
 rw[hm] at h1
 unfold rt
 rw[if_pos h1]
 have hP:=Nat.pos_of_neZero P
 have hr:m.val^(P/4+1)%P<P:=Nat.mod_lt _ hP
 generalize m.val^(P/4+1)%P=r at h1 hr
 have hy:=y.isLt
 have h3:=C.p3
 have hor:=root_is C.cur.pr hy hr (h1.trans hm.symm)
 congr 1
 apply Fin.ext
 show even P r%P=_
 unfold even
 have h0:(0-y:Fin P).val=(P-y.val)%P:=by rw[← sub_fin,EC.val_zero,Nat.zero_add]
 by_cases ho:y.val%2=1
 ·rw[if_pos ho,h0]
  rcases hor with e|e
  ·rw[e,if_pos ho]
  ·rw[if_neg (by omega),show P-y.val=r by omega]
 ·rw[if_neg ho]
  rcases hor with e|e
  ·rw[e,if_neg ho,Nat.mod_eq_of_lt hy]
  ·by_cases hz:y.val=0
   ·omega
   ·rw[if_pos (by omega),show P-r=y.val by omega,Nat.mod_eq_of_lt hy]
theorem ub_mark (n:Nat):ub (mark n)=if n%2=1 then 3 else 2:=by
 unfold mark
 split<;>rfl
theorem tl_mark {m:UInt8} {b:Bs} (h:b.size=32):tl33 (#[m]++b)=b:=by
 unfold tl33
 rw[Array.extract_append]
 have h1:(#[m]:Bs).extract 1 33=#[]:=by rfl
 rw[h1]
 simp[h]
theorem mark_0 (m:UInt8) (b:Bs):(#[m]++b)[0]! = m:=by
 rw[getElem!_pos _ 0 (by rw[Array.size_append];simp;omega),Array.getElem_append_left (by simp)]
 rfl
theorem rd_of (C:Fld P) {b:Bs} (hs:b.size=33) {x y:Fin P} (hm:ub b[0]! = if y.val%2=1 then 3 else 2) (hv:beV (tl33 b).toList=x.val) (h:EC.On (some (x,y):EC.Pt P)):rd P b=some (x,y):=by
 have hz:¬ Zero33 b:=fun hz=>by
  have:=hz 0 (List.mem_range.2 (by decide))
  rw[hm] at this
  split at this<;>omega
 have hx:rdx P b=x:=by
  unfold rdx
  rw[hv]
  exact Fin.ext (Nat.mod_eq_of_lt x.isLt)
 have hy:y*y=x*x*x+7:=by
  have:y^2=x^3+7:=h
  grobner
 unfold rd
 rw[if_pos hs,if_neg hz,hm,hv,if_pos x.isLt,hx,rt_of C hy]
 by_cases ho:y.val%2=1
 ·rw[if_pos ho,if_pos (Or.inr rfl),if_pos ho,Option.map_some,if_pos rfl]
  have e:0-(0-y)=y:=by grobner
  rw[e]
 ·rw[if_neg ho,if_pos (Or.inl rfl),if_neg ho,Option.map_some,if_neg (by decide)]
theorem rd_wr (C:Fld P) {X:EC.Pt P} (h:EC.On X):∃ p,rd P (wr X)=some p∧pt p=X:=by
 match X,h with
 | none,_ =>
  refine ⟨(0,0),?_,by unfold pt;rw[if_pos ⟨rfl,rfl⟩]⟩
  have h1:(wr (none:EC.Pt P)).size=33:=wr_size _
  have h2:Zero33 (wr (none:EC.Pt P)):=(zero33_iff h1).2 rfl
  generalize wr (none:EC.Pt P)=b at h1 h2
  unfold rd
  rw[if_pos h1,if_pos h2]
 | some (x,y),h =>
  have hs:=wr_size (P:=P) (some (x,y))
  have hb0:(wr (some (x,y):EC.Pt P))[0]! = mark y.val:=mark_0 _ _
  have ht:tl33 (wr (some (x,y):EC.Pt P))=bx x.val:=tl_mark (bx_size _)
  refine ⟨(x,y),rd_of C hs (by rw[hb0,ub_mark]) (by rw[ht,bx_val (C.top x)]) h,by unfold pt;rw[if_neg (fun e=>C.cur.y_ne h e.2)]⟩
end
section
open Go.RowKit Go.Sort Go.Deep
variable {P:Nat} [NeZero P] {N:Nat}
def gxl:List Value:=[.int .u64 6481385041966929816,.int .u64 188021827762530521,.int .u64 6170039885052185351,.int .u64 8772561819708210092]
def gyl:List Value:=[.int .u64 11261198710074299576,.int .u64 18237243440184513561,.int .u64 6747795201694173352,.int .u64 5204712524664259685]
def gX (P:Nat) [NeZero P]:Fin P:=Fin.ofNat P 55066263022277343669578718895168534326250603453777594175500187360389116729240
def gY (P:Nat) [NeZero P]:Fin P:=Fin.ofNat P 32670510020758816978083085130507043184471273380659243275938904335757337482424
def gG (P:Nat) [NeZero P]:EC.Pt P:=some (gX P,gY P)
theorem Fld.eq (C:Fld P):P=115792089237316195423570985008687907853269984665640564039457584007908834671663:=by
 have h:=C.gap.hP
 have e:val 4294968273 0 0 0=4294968273:=by decide
 rw[e] at h
 unfold Go.Proofs.YtnfpdihkjkimiaaGreat.top at h
 omega
theorem gX_val (C:Fld P):(gX P).val=55066263022277343669578718895168534326250603453777594175500187360389116729240:=by
 have h:=C.eq
 exact Nat.mod_eq_of_lt (by omega)
theorem gY_val (C:Fld P):(gY P).val=32670510020758816978083085130507043184471273380659243275938904335757337482424:=by
 have h:=C.eq
 exact Nat.mod_eq_of_lt (by omega)
theorem gxl_ws (C:Fld P):gxl=ws (gX P):=by
 show _=wn (gX P).val
 rw[gX_val C]
 kernel_rfl
theorem gyl_ws (C:Fld P):gyl=ws (gY P):=by
 show _=wn (gY P).val
 rw[gY_val C]
 kernel_rfl
theorem gG_on (C:Fld P):EC.On (gG P):=by
 refine on_of (Fin.ext ?_)
 have h7:(7:Fin P).val=7:=Nat.mod_eq_of_lt C.p7
 rw[Fin.val_mul,Fin.val_add,Fin.val_mul,Fin.val_mul,gX_val C,gY_val C,h7]
 have h:=C.eq
 rw[h]
theorem base_v:Gives 31 #[] (.agg (gxl++gyl).toArray):=by
 intro w
 go_enter Tryz.func31,Tryz.ntmps31
 refine RG.M.enter [] 4 (by kernel_rfl) ?_
 intro a0 M0
 repeat refine wp_seq ?_
 refine M0.t [.m 0 [] 0] [(0,RG.z 8)] [] [RG.z 8] [(0,.p 0 0)] ⟨RG.mk 0 85,trivial⟩ ?_
 intro j1 a1 w1 M1
 repeat refine wp_seq ?_
 refine M1.t [.x 1 [] (.agg gxl.toArray),.x 2 [] (.agg gyl.toArray),.x 3 [(1,0),(2,1)] (.agg (gxl++gyl).toArray),.u [(3,2)] 0] [] [(0,3,gxl++gyl)] [gxl++gyl] [(0,.p 0 0)] ⟨RG.st,RG.st,RG.st,RG.pt i109,trivial⟩ ?_
 intro a2 w2 M2
 refine wp_ret ?_
 refine bodyPost_ret (v:=.agg (gxl++gyl).toArray) (RG.results_row M2.st 0 85 rfl 0 _ rfl (M2.at (s:=.p 0 0)) u109 i109) M2.sl.defers ?_
 exact ⟨_,rfl,M2.st.bel.below,rfl⟩
theorem base_c (C:Fld P):Gives 31 #[] (pv (gX P) (gY P)):=by
 unfold pv
 rw[← gxl_ws C,← gyl_ws C]
 exact base_v
end
section
open Go.RowKit Go.Sort Go.Deep Go.Shelf
attribute [local go_sem] Oper.semAt_some
section
variable {F:Fence} {n:Nat} {P:Program} {ops:Array Oper} {rest:List Oper} {op:Oper} {a:Act} {w:World} {Q:Exit→Act→World→Prop}
theorem wpListIn_load_mid (hgd:op.guard=none) (ty:TypeId) (x:Operand) (ho:op.op=.load ty x) (b o:Nat) (hx:a.eval x=.pointer (some ⟨b,o,none⟩)) (cs:List Value) (d:TypeDesc) (hc:w.rangeAt b o cs)
 (hu:P.underlying ty=some d) (hd:d.isRow=true) (hi:(P.info? ty).map (·.size)=some cs.length) (h:wpListIn F n P ops Q rest (a.put op.dst (.agg cs.toArray)) w):wpListIn F n P ops Q (op :: rest) a w:=
 wpListIn_plain hgd fun K hK=>by
  refine ⟨fun f hf=>(by unfold Oper.about at hf;rw[ho] at hf;cases hf),?_⟩
  rw[Oper.semAt_eq _ _ _ (fun c=>by rw[ho];intro e;cases e)]
  unfold execOp
  simp only[ho,hx,Instr.loadAt,Instr.sureAddr,Sem.run_bind,Sem.run_pure,Result.andThen_ok,run_loadVar_mid w b o ty cs d hc hu hd hi]
  exact hK _ _ h
theorem wpListIn_store_mid (hgd:op.guard=none) (ty:TypeId) (x y:Operand) (ho:op.op=.store ty x y) (b o:Nat) (cells:Array Value) (hx:a.eval x=.pointer (some ⟨b,o,none⟩)) (hy:a.eval y=.agg cells)
 (ht:w.there b o cells.size) (hi:(P.info? ty).map (·.size)=some cells.size) (h1:cells.all (·.oneCell')=true)
 (h:wpListIn F n P ops Q rest (a.put op.dst undef) (w.setCells b o cells.toList)):wpListIn F n P ops Q (op :: rest) a w:=
 wpListIn_plain hgd fun K hK=>by
  refine ⟨fun f hf=>(by unfold Oper.about at hf;rw[ho] at hf;cases hf),?_⟩
  rw[Oper.semAt_eq _ _ _ (fun c=>by rw[ho];intro e;cases e)]
  unfold execOp
  simp only[ho,hx,hy,Instr.storeAt,Instr.sureAddr,Sem.run_bind,Sem.run_pure,Result.andThen_ok,run_storeVar_mid w b o ty cells ht hi h1]
  exact hK _ _ h
end
def Row (W:World) (k:Nat) (vs:List Value):Prop:=k<W.heap.size∧W.rangeAt k 0 vs∧W.there k 0 vs.length
theorem row_own (k:Nat) (vs:List Value):Own (fun (_:Unit) W=>Row W k vs):=fun s A B row hs hg hr=>by
 refine ⟨Nat.lt_of_lt_of_le hs.1 hg.size,fun j v hj=>?_,fun j hj=>?_⟩
 ·exact cell_kept (hs.2.1 j v hj) hg hr
 ·have h1:=hs.2.1 j vs[j] (List.getElem?_eq_getElem hj)
  have h2:=cell_kept h1 hg hr
  exact ⟨by rw[h2];rfl,(frozen_kept h1 hg hr).trans (hs.2.2 j hj).2⟩
theorem ko_setCells (k:Nat):∀ (vs:List Value) (o:Nat) (W:World),KeepsOthers W (W.setCells k o vs)
 | [],_,W=>KeepsOthers.refl W
 | v :: vs,o,W=>(KeepsOthers.setCell W ⟨k,o,none⟩ v).trans (ko_setCells k vs (o+1) _)
theorem Row.alloc {W:World} {k:Nat} {vs:List Value} (h:Row W k vs) (o:Obj):Row (W.alloc o) k vs:=
 row_own k vs () W (W.alloc o) none h (World.grownBy_alloc W o none) (fun _ e=>by cases e)
theorem Row.putObj {W:World} {k D:Nat} {vs:List Value} (h:Row W k vs) {o:Obj} (hD:W.heap[D]? = some o) (ho:o.isCells=false) (o':Obj):Row (W.putObj D o') k vs:=
 row_own k vs () W (W.putObj D o') (some D) h (grownBy_putObj' W D o') (fun r e=>by cases e;exact ⟨_,hD,ho⟩)
theorem Row.below {W W':World} {k:Nat} {vs:List Value} (h:Row W k vs) (hb:Below W.heap.size W W'):Row W' k vs:=by
 have e:=hb.block k h.1
 refine ⟨Nat.lt_of_lt_of_le h.1 hb.size,fun j v hj=>?_,fun j hj=>?_⟩
 ·exact (World.cell?_of_block e).trans (h.2.1 j v hj)
 ·have h1:=h.2.2 j hj
  exact ⟨by rw[World.cell?_of_block e];exact h1.1,(World.frozen?_of_block e).trans h1.2⟩
theorem results_cell {P:Program} {fn:Func} {tmps:Array Value} {W:World} {k:Nat} {vs:List Value} (t:Tmp) (T:TypeId) (hr:fn.results=#[.cell t T]) (h:Row W k vs) (ht:tmps[t]? = some (.pointer (some ⟨k,0,none⟩)))
 (hu:(P.underlying T).map (·.isRow)=some true) (hi:(P.info? T).map (·.size)=some vs.length):(results fn tmps).run P W=.ok (.agg vs.toArray) W:=by
 obtain ⟨d,hu,hd⟩:=Option.map_eq_some_iff.1 hu
 have h1:=run_loadVar_mid (P:=P) W k 0 T vs d h.2.1 hu hd hi
 have h2:tmps.getD t undef=.pointer (some ⟨k,0,none⟩):=by rw[Array.getD_eq_getD_getElem?,ht];rfl
 unfold results
 rw[hr]
 simp only[Array.mapM_eq_mapM_toList,List.mapM_cons,List.mapM_nil,h2,asAddr]
 simp[Sem.run_bind,h1]
theorem Row.put {W:World} {k:Nat} {vs us:List Value} (h:Row W k vs) (hl:us.length=vs.length):Row (W.setCells k 0 us) k us:=
 ⟨by rw[RG.setCells_size];exact h.1,World.rangeAt_setCells_same W k 0 us (by rw[hl];exact h.2.2),by rw[hl];exact World.there_setCells h.2.2 _ _ _⟩
theorem Row.other {W:World} {k j:Nat} {vs us:List Value} (h:Row W k vs) (hne:k≠j):Row (W.setCells j 0 us) k vs:=
 ⟨by rw[RG.setCells_size];exact h.1,World.rangeAt_setCells_apart h.2.1 j 0 us (Or.inl hne),World.there_setCells h.2.2 _ _ _⟩
variable {P:Nat} [NeZero P]
theorem first_c (C:Fld P) (lb:Array Value) (L:List (Fin P × Fin P)) (N:Nat) (w:World)
 (hseq:∀ n,SeqStopsK Fence.wide n Tryz.prog 70 lb (fun x:Fin P × Fin P=>#[pv x.1 x.2]) (Below w.heap.size) (fun xs=>xs=L) (fun pre=>pre <+: L) N w) :
 Calls Tryz.prog 29 #[.func (.func 70) #[] lb] w (Ret fun e w'=>Below w.heap.size w w'∧e=pv (L.headD (gX P,gY P)).1 (L.headD (gX P,gY P)).2):=by
 refine (callsIn_wide (n:=5)).1 ?_
 refine callsIn_of_wp_marks Tryz.func29 rfl trivial ?_ rfl
 simp only[Tryz.ntmps29,List.size_toArray,List.length_cons,List.length_nil,Nat.reduceAdd,Nat.reduceSub,Array.replicate_succ,Array.replicate_zero,List.push_toArray,List.append_toArray,List.nil_append,List.cons_append]
 gi_wp2
 have hM:=RG.Made.alloc w [.int .u64 0,.int .u64 0,.int .u64 0,.int .u64 0,.int .u64 0,.int .u64 0,.int .u64 0,.int .u64 0] 85
 have hR0:Row (w.alloc (.cells #[.int .u64 0,.int .u64 0,.int .u64 0,.int .u64 0,.int .u64 0,.int .u64 0,.int .u64 0,.int .u64 0] 85)) w.heap.size [.int .u64 0,.int .u64 0,.int .u64 0,.int .u64 0,.int .u64 0,.int .u64 0,.int .u64 0,.int .u64 0]:=⟨hM.lt,hM.range,hM.there⟩
 have hB0:Below w.heap.size w (w.alloc (.cells #[.int .u64 0,.int .u64 0,.int .u64 0,.int .u64 0,.int .u64 0,.int .u64 0,.int .u64 0,.int .u64 0] 85)):=hM.bel
 clear hM
 obtain ⟨W0,hW0⟩:∃ W0,W0=w.alloc (.cells #[.int .u64 0,.int .u64 0,.int .u64 0,.int .u64 0,.int .u64 0,.int .u64 0,.int .u64 0,.int .u64 0] 85):=⟨_,rfl⟩
 have hsz:W0.heap.size=w.heap.size+1:=by rw[hW0,World.size_alloc]
 rw[← hW0] at hR0 hB0 ⊢
 clear hW0
 refine wpIn_rangeFunc_ownH (α:=Fin P × Fin P) rfl (by decide) (gf:=70) (lb:=lb) rfl trivial (enters_of Tryz.func70 (by kernel_rfl) rfl) (hseq 4) belowK_t (belowK_b (by omega)) hB0 (fun _=>rfl)
  (fun pre W=>(pre=[]∧Row W w.heap.size [.int .u64 0,.int .u64 0,.int .u64 0,.int .u64 0,.int .u64 0,.int .u64 0,.int .u64 0,.int .u64 0])∧Below w.heap.size w W)
  (fun c pre W=>(c=.ret∧∃ x:Fin P × Fin P,pre=[x]∧Row W w.heap.size (ws x.1++ws x.2))∧Below w.heap.size w W)
  (OwnFrom.and (Own.from (fun s A B row hs hg hr=>⟨hs.1,row_own _ _ () A B row hs.2 hg hr⟩) _) (ownFrom_below (Nat.le_refl _) (by omega)))
  (fun c=>OwnFrom.and (Own.from (fun s A B row hs hg hr=>⟨hs.1,hs.2.imp fun x hx=>⟨hx.1,row_own _ _ () A B row hx.2 hg hr⟩⟩) _) (ownFrom_below (Nat.le_refl _) (by omega)))
  ⟨⟨rfl,hR0⟩,hB0⟩
  (fun x a' W=>∃ Bx,w.heap.size<Bx∧Row W Bx (ws x.1++ws x.2)∧a' = { tmps:=#[.func (.func 70) #[] lb,undef,.pointer (some ⟨w.heap.size,0,none⟩),.pointer (some ⟨Bx,0,none⟩),.func (.func 70) #[] lb,pv x.1 x.2,undef,undef],defers:=[] })
  (fun x a'=>Own.from (fun s A B row hs hg hr=>hs.imp fun Bx hx=>⟨hx.1,row_own _ _ () A B row hx.2.1 hg hr,hx.2.2⟩) _) ?assign ?body ?done ?stop
 case assign =>
  intro l pre x W K hI hK
  have hMx:=RG.Made.alloc W [.int .u64 0,.int .u64 0,.int .u64 0,.int .u64 0,.int .u64 0,.int .u64 0,.int .u64 0,.int .u64 0] 85
  have hth:=hMx.there
  gi_wp2_with (refine wpListIn_store_mid rfl 85 _ _ rfl W.heap.size 0 (ws x.1++ws x.2).toArray rfl rfl hth i109 (by kernel_rfl) ?_)
  have hle:=hI.1.2.1
  have hbl:Below w.heap.size W ((W.alloc (.cells #[.int .u64 0,.int .u64 0,.int .u64 0,.int .u64 0,.int .u64 0,.int .u64 0,.int .u64 0,.int .u64 0] 85)).setCells W.heap.size 0 (ws x.1++ws x.2)):=
   RG.below_setCells (Nat.le_of_lt hle) _ _ _ ((Below.refl _ W).alloc (Nat.le_of_lt hle) _)
  exact hK _ _ (((KeepsOthers.alloc W _).trans (ko_setCells _ _ _ _)).from _) hbl ⟨⟨hI.1.1,(hI.1.2.alloc _).other (Nat.ne_of_lt hle)⟩,hI.2.trans hbl⟩
   ⟨W.heap.size,hle,Row.put (vs:=[.int .u64 0,.int .u64 0,.int .u64 0,.int .u64 0,.int .u64 0,.int .u64 0,.int .u64 0,.int .u64 0]) ⟨hMx.lt,hMx.range,hMx.there⟩ rfl,rfl⟩
 case body =>
  rintro l pre x a' W hl ⟨r,hr⟩ ⟨⟨rfl,hRow⟩,hB⟩ ⟨Bx,hBx,hX,rfl⟩ hlt
  obtain ⟨d,hd1,hd2⟩:=Option.map_eq_some_iff.1 u109
  have hXr:=hX.2.1
  have hth:=hRow.2.2
  gi_wp2_with (first|refine wpListIn_load_mid rfl 85 _ rfl Bx 0 rfl (ws x.1++ws x.2) d hXr hd1 hd2 i109 ?_|refine wpListIn_store_mid rfl 85 _ _ rfl w.heap.size 0 (ws x.1++ws x.2).toArray rfl rfl hth i109 (by kernel_rfl) ?_)
  exact ⟨(ko_setCells _ _ _ _).from _,⟨rfl,x,rfl,hRow.put rfl⟩,RG.below_setCells (Nat.le_refl _) _ _ _ hB⟩
 case done =>
  rintro D ys W hD rfl ⟨⟨rfl,hRow⟩,hB⟩ hK
  have hth:=hRow.2.2
  gi_wp2_with fail
  refine ⟨trivial,(callsIn_wide.2 (base_c C _)).mono ?_⟩
  rintro e w2 ⟨v,rfl,hb2,rfl⟩
  have hRow2:Row w2 w.heap.size [.int .u64 0,.int .u64 0,.int .u64 0,.int .u64 0,.int .u64 0,.int .u64 0,.int .u64 0,.int .u64 0]:=hRow.below hb2
  have hth2:=hRow2.2.2
  gi_wp2_with (refine wpListIn_store_mid rfl 85 _ _ rfl w.heap.size 0 (ws (gX P)++ws (gY P)).toArray rfl rfl hth2 i109 (by kernel_rfl) ?_)
  have hK2:(w2.setCells w.heap.size 0 (ws (gX P)++ws (gY P))).heap[D]? = some (.deferred (some [])):=by
   rw[RG.setCells_other _ _ _ _ _ (by omega),hb2.block D (Array.getElem?_eq_some_iff.1 hK).1]
   exact hK
  have hB2:Below w.heap.size w (w2.setCells w.heap.size 0 (ws (gX P)++ws (gY P))):=RG.below_setCells (Nat.le_refl _) _ _ _ (hB.trans (hb2.mono hB.size))
  have hRow3:Row (w2.setCells w.heap.size 0 (ws (gX P)++ws (gY P))) w.heap.size (ws (gX P)++ws (gY P)):=hRow2.put rfl
  refine ⟨by simp,.inl ⟨_,_,rfl,run_takeDeferred hK2,?_⟩⟩
  exact ⟨_,results_cell 2 85 rfl (hRow3.putObj hK2 rfl _) rfl u109 i109,_,rfl,hB2.trans (belowK_b (w:=W0) (by omega) _ D _ _ hD hK2 rfl rfl),rfl⟩
 case stop =>
  rintro D c pre W hD hpre ⟨⟨rfl,x,rfl,hRow⟩,hB⟩ hK
  gi_wp2
  obtain ⟨L',hL⟩:=hpre
  have hL2:L=x :: L':=hL.symm
  rw[hL2]
  refine ⟨by simp,.inl ⟨_,_,rfl,run_takeDeferred hK,?_⟩⟩
  exact ⟨_,results_cell 2 85 rfl (hRow.putObj hK rfl _) rfl u109 i109,_,rfl,hB.trans (belowK_b (w:=W0) (by omega) _ D _ _ hD hK rfl rfl),rfl⟩
end
section
open Go.RowKit Go.Sort Go.Deep
variable {P:Nat} [NeZero P] {N:Nat}
theorem redS_of {w W:World} {k0 k1 g0 g1 g2:Nat} (h:Kept w k0 [⟨k0,0,g0,g1,g2,0⟩,⟨k1,0,0,0,0,0⟩] W):W.cell? ⟨k0,0,none⟩=some (.int .u64 g0)∧W.cell? ⟨k0,1,none⟩=some (.int .u64 g1)∧W.cell? ⟨k0,2,none⟩=some (.int .u64 g2)∧W.cell? ⟨k0,3,none⟩=some (.int .u64 0)∧Kept w k0 [⟨k0,0,g0,g1,g2,0⟩,⟨k1,0,0,0,0,0⟩] W:=⟨h.head.c0,h.head.c1,h.head.c2,h.head.c3,h⟩
theorem redS_get {w W:World} {k0 k1 g0 g1 g2:Nat} (h:W.cell? ⟨k0,0,none⟩=some (.int .u64 g0)∧W.cell? ⟨k0,1,none⟩=some (.int .u64 g1)∧W.cell? ⟨k0,2,none⟩=some (.int .u64 g2)∧W.cell? ⟨k0,3,none⟩=some (.int .u64 0)∧Kept w k0 [⟨k0,0,g0,g1,g2,0⟩,⟨k1,0,0,0,0,0⟩] W):Kept w k0 [⟨k0,0,g0,g1,g2,0⟩,⟨k1,0,0,0,0,0⟩] W:=h.2.2.2.2
theorem redS_alloc {w W:World} {k0 k1 g0 g1 g2:Nat} {o:Obj} (h:W.cell? ⟨k0,0,none⟩=some (.int .u64 g0)∧W.cell? ⟨k0,1,none⟩=some (.int .u64 g1)∧W.cell? ⟨k0,2,none⟩=some (.int .u64 g2)∧W.cell? ⟨k0,3,none⟩=some (.int .u64 0)∧Kept w k0 [⟨k0,0,g0,g1,g2,0⟩,⟨k1,0,0,0,0,0⟩] W):(W.alloc o).cell? ⟨k0,0,none⟩=some (.int .u64 g0)∧(W.alloc o).cell? ⟨k0,1,none⟩=some (.int .u64 g1)∧(W.alloc o).cell? ⟨k0,2,none⟩=some (.int .u64 g2)∧(W.alloc o).cell? ⟨k0,3,none⟩=some (.int .u64 0)∧Kept w k0 [⟨k0,0,g0,g1,g2,0⟩,⟨k1,0,0,0,0,0⟩] (W.alloc o):=redS_of ((redS_get h).alloc o)
theorem redS_allocd {w W:World} {k0 k1 g0 g1 g2:Nat} {o:Obj} (h:W.drew.cell? ⟨k0,0,none⟩=some (.int .u64 g0)∧W.drew.cell? ⟨k0,1,none⟩=some (.int .u64 g1)∧W.drew.cell? ⟨k0,2,none⟩=some (.int .u64 g2)∧W.drew.cell? ⟨k0,3,none⟩=some (.int .u64 0)∧Kept w k0 [⟨k0,0,g0,g1,g2,0⟩,⟨k1,0,0,0,0,0⟩] W.drew):(W.alloc o).drew.cell? ⟨k0,0,none⟩=some (.int .u64 g0)∧(W.alloc o).drew.cell? ⟨k0,1,none⟩=some (.int .u64 g1)∧(W.alloc o).drew.cell? ⟨k0,2,none⟩=some (.int .u64 g2)∧(W.alloc o).drew.cell? ⟨k0,3,none⟩=some (.int .u64 0)∧Kept w k0 [⟨k0,0,g0,g1,g2,0⟩,⟨k1,0,0,0,0,0⟩] (W.alloc o).drew:=redS_of (((redS_get h).undrew).alloc o).drew
theorem holds_part {w:World} {g o:Nat} {bs:Bs} (p l:Nat) (h:Holds encB w g o bs) (hp:p+l≤bs.size):Holds encB w g (o+p) (bs.extract p (p+l)):=by
 refine Holds.part h (by rw[Array.size_extract];omega) (fun j hj=>?_)
 rw[Array.size_extract] at hj
 rw[getElem!_pos (bs.extract p (p+l)) j (by rw[Array.size_extract];omega),getElem!_pos bs (p+j) (by omega),Array.getElem_extract]
theorem holds_front {w:World} {g o:Nat} {bs:Bs} (f:Nat) (h:Holds encB w g o bs) (hf:f≤bs.size):Holds encB w g o (bs.extract 0 f):=by
 have:=holds_part 0 f h (by omega)
 rwa[Nat.zero_add,Nat.add_zero] at this
def RedR (w:World) (k0 k1 g0 g1 g2 N:Nat) (s6:Value) (wx:World):Prop:=
 ∃ k6 a b c d:Nat,s6=.pointer (some ⟨k6,0,none⟩)∧Kept w k0 [⟨k6,0,a,b,c,d⟩,⟨k0,0,g0,g1,g2,0⟩,⟨k1,0,0,0,0,0⟩] wx∧k6≠k0∧k6≠k1∧k0≤k6 ∧
  Hid (Four (.agg #[.int .u64 a,.int .u64 b,.int .u64 c,.int .u64 d]) N)
theorem RedR.made {w w1:World} {k0 k1 g0 g1 g2 N a b c d:Nat} (KP:Kept w k0 [⟨k0,0,g0,g1,g2,0⟩,⟨k1,0,0,0,0,0⟩] w1) (hF:Hid (Four (.agg #[.int .u64 a,.int .u64 b,.int .u64 c,.int .u64 d]) N)) :
 RedR w k0 k1 g0 g1 g2 N (.pointer (some ⟨w1.heap.size,0,none⟩)) (w1.alloc (.cells #[.int .u64 a,.int .u64 b,.int .u64 c,.int .u64 d] 109)):=
 ⟨w1.heap.size,a,b,c,d,rfl,(KP.alloc _).cons (At4.made w1 109 a b c d rfl).blk,Nat.ne_of_gt KP.head.lt,Nat.ne_of_gt KP.tail.head.lt,KP.le,hF⟩
theorem RedR.put {w w1:World} {k0 k1 k6 g0 g1 g2 N a b c d x y z u:Nat} (KP:Kept w k0 [⟨k0,0,g0,g1,g2,0⟩,⟨k1,0,0,0,0,0⟩] w1) (T:At4 w1 k6 x y z u) (M7:k0≤k6) (N7:∀ x∈([⟨k0,0,g0,g1,g2,0⟩,⟨k1,0,0,0,0,0⟩]:List Blk),x.k<k6) (hF:Hid (Four (.agg #[.int .u64 a,.int .u64 b,.int .u64 c,.int .u64 d]) N)) :
 RedR w k0 k1 g0 g1 g2 N (.pointer (some ⟨k6,0,none⟩)) ((((w1.setCell ⟨k6,0,none⟩ (.int .u64 a)).setCell ⟨k6,1,none⟩ (.int .u64 b)).setCell ⟨k6,2,none⟩ (.int .u64 c)).setCell ⟨k6,3,none⟩ (.int .u64 d)):=
 ⟨k6,a,b,c,d,rfl,(KP.set4' M7 (fun x hx=>Nat.ne_of_gt (N7 x hx)) _ _ _ _).cons (T.self4 a b c d).blk,Nat.ne_of_gt (N7 ⟨k0,0,g0,g1,g2,0⟩ (by simp)),Nat.ne_of_gt (N7 ⟨k1,0,0,0,0,0⟩ (by simp)),M7,hF⟩
theorem red_step {P:Nat} (bs:Bs) (p:Nat) (hp:p+32≤bs.size):(beV (bs.extract p (p+32)).toList+top*(beV (bs.extract 0 p).toList%P))%P=beV (bs.extract 0 (p+32)).toList%P:=by
 have e:(bs.extract 0 (p+32)).toList=(bs.extract 0 p).toList++(bs.extract p (p+32)).toList:=by
  rw[← Array.toList_append,Array.extract_append_extract,Nat.min_eq_left (by omega),Nat.max_eq_right (by omega)]
 have l32:(bs.extract p (p+32)).toList.length=32:=by rw[Array.length_toList,Array.size_extract];omega
 have ht:256^32=top:=by unfold top;decide
 rw[e,beV_append,l32,ht,Nat.add_comm,Nat.add_mod,Nat.mul_mod,Nat.mod_mod,← Nat.mul_mod,← Nat.add_mod,Nat.mul_comm]
theorem PReduce_any (g0 g1 g2 P g o n cap : Nat) (bs : Bs) (hG : Gap g0 g1 g2 P) (w : World) (hs : bs.size = n) (hc : n ≤ cap) (hg : g < w.heap.size) (hB : Holds encB w g o bs) :
    Calls Tryz.prog 177 #[.agg #[.int .u64 (g0 : Int), .int .u64 (g1 : Int), .int .u64 (g2 : Int), .int .u64 0], .slice (some ⟨g, o, none⟩) n cap] w (Ret fun e w' => Below w.heap.size w w' ∧ Four e (beV bs.toList % P)) := by
  obtain ⟨f, hf⟩ : ∃ f, f = n % 32 := ⟨_, rfl⟩
  have hf32 : f < 32 := by omega
  have hfn : f ≤ n := by omega
  have e1 : (n : Int) % 32 = (f : Int) := by omega
  have e2 : (f : Int) ≤ (cap : Int) := by omega
  have e3 : (f : Int) ≤ (n : Int) := by omega
  have e4 : f ≤ cap := by omega
  have hsz0 : (bs.extract 0 f).size = f := by rw [Array.size_extract]; omega
  have Hf : Hid (f = n % 32) := hf
  have HS : Hid ((bs.extract 0 f).size = f) := hsz0
  have hbs : f ≤ bs.size := by omega
  have HSZ : Hid (bs.size = n) := hs
  have HG : Hid (Gap g0 g1 g2 P) := hG
  clear hf hsz0 hG
  go_enter Tryz.func177, Tryz.ntmps177
  go_upto_region 2 with fail
  rw [e1]
  clear e1
  have PR := (At4.made w 111 g0 g1 g2 0 rfl).alloc (.cells #[.int .u64 0, .int .u64 0, .int .u64 0, .int .u64 0] 50)
  have RE := At4.made (w.alloc (.cells #[.int .u64 (g0 : Int), .int .u64 (g1 : Int), .int .u64 (g2 : Int), .int .u64 0] 111)) 50 0 0 0 0 (World.size_alloc _ _)
  have KP := ((Kept.mk1 (below2 w (.cells #[.int .u64 (g0 : Int), .int .u64 (g1 : Int), .int .u64 (g2 : Int), .int .u64 0] 111) (.cells #[.int .u64 0, .int .u64 0, .int .u64 0, .int .u64 0] 50)) (below2 w (.cells #[.int .u64 (g0 : Int), .int .u64 (g1 : Int), .int .u64 (g2 : Int), .int .u64 0] 111) (.cells #[.int .u64 0, .int .u64 0, .int .u64 0, .int .u64 0] 50)).size).cons RE.blk).cons PR.blk
  clear PR RE
  generalize World.alloc _ _ = W0 at KP ⊢
  generalize h1 : w.heap.size + 1 = k1 at KP ⊢
  have Q1 : Hid (w.heap.size ≤ k1) := by unfold Hid; omega
  generalize h0 : w.heap.size = k0 at KP Q1 hg ⊢
  have n01 : k0 ≠ k1 := by omega
  have H0 : Hid (w.heap.size = k0) := h0
  have HBS : Hid (Holds encB w g o bs) := hB
  clear h0 h1 hB hs
  go_cut [6] (fun s6 wx => RedR w k0 k1 g0 g1 g2 (beV (bs.extract 0 f).toList % P) s6 wx)
  case first =>
    go_region_held3 (fun w' => w'.cell? ⟨k0, 0, none⟩ = some (.int .u64 (g0 : Int)) ∧ w'.cell? ⟨k0, 1, none⟩ = some (.int .u64 (g1 : Int)) ∧ w'.cell? ⟨k0, 2, none⟩ = some (.int .u64 (g2 : Int)) ∧ w'.cell? ⟨k0, 3, none⟩ = some (.int .u64 0) ∧ Kept w k0 [⟨k0, 0, g0, g1, g2, 0⟩, ⟨k1, 0, 0, 0, 0, 0⟩] w') (first | (with_reducible exact redS_of KP) | (with_reducible exact redS_of KP.drew) | (with_reducible exact redS_allocd (by assumption)) | (with_reducible exact redS_alloc (by assumption)) | (with_reducible exact redS_of (KP.alloc _)) | (with_reducible exact redS_of (KP.set4' M7 (fun x hx => Nat.ne_of_gt (N7 x hx)) _ _ _ _)) | (with_reducible exact redS_of (KP.alloc _).drew) | (with_reducible exact redS_of (KP.set4' M7 (fun x hx => Nat.ne_of_gt (N7 x hx)) _ _ _ _).drew) | fail) (first | (go_at_call 95; refine (fromBytes_any (some ⟨g, o, none⟩) g o f cap (bs.extract 0 f) _ (Nat.le_of_lt hf32) e4 HS.out (Or.inr ⟨rfl, holds_front f (Holds.below HBS.out (redS_get (by assumption)).bl hg) hbs⟩)).mono ?_; rintro e w1 ⟨v, rfl, hb1, hF1⟩; obtain ⟨a1, b1, c1, d1, rfl, ha1, hb1', hc1, hd1, es1⟩ := id hF1; clear es1; have HF1 : Hid (Four _ _) := hF1; clear hF1; (try (with_reducible have T1 := T.call hb1; clear T; have T := T1; clear T1)); (try (first | (with_reducible have T := (At4.made _ 109 0 0 0 0 rfl).call hb1) | (with_reducible have T := (At4.made _ 109 0 0 0 0 rfl).drew.call hb1)); have N7 := KP.lts; have M7 := KP.le); have KP1 := Kept.call (redS_get (by assumption)) hb1; clear KP; have KP := KP1; clear KP1 hb1) | (go_at_call 97; refine (four_any _ _ HF1.out _).mono ?_; rintro e w1 ⟨v, rfl, hb1, rfl⟩; (try (with_reducible have T1 := T.call hb1; clear T; have T := T1; clear T1)); (try (first | (with_reducible have T := (At4.made _ 109 0 0 0 0 rfl).call hb1) | (with_reducible have T := (At4.made _ 109 0 0 0 0 rfl).drew.call hb1)); have N7 := KP.lts; have M7 := KP.le); have KP1 := Kept.call (redS_get (by assumption)) hb1; clear KP; have KP := KP1; clear KP1 hb1) | (go_at_call 173; refine (fold_any g0 g1 g2 _ _ _ _ P HG.out.h0 HG.out.h1 HG.out.h2 HG.out.hor HG.out.hP HG.out.hP2 HF1.out (Four.mk (a := 0) (b := 0) (c := 0) (d := 0) (by decide) (by decide) (by decide) (by decide) rfl) _).mono ?_; rintro e w1 ⟨v, rfl, hb1, hF3⟩; obtain ⟨a', b', c', d', rfl, ha', hb', hc', hd', es3⟩ := id hF3; clear es3; have HF3 : Hid (Four _ _) := hF3; clear hF3; (try (with_reducible have T1 := T.call hb1; clear T; have T := T1; clear T1)); (try (first | (with_reducible have T := (At4.made _ 109 0 0 0 0 rfl).call hb1) | (with_reducible have T := (At4.made _ 109 0 0 0 0 rfl).drew.call hb1)); have N7 := KP.lts; have M7 := KP.le); have KP1 := Kept.call (redS_get (by assumption)) hb1; clear KP; have KP := KP1; clear KP1 hb1; (try (obtain ⟨tc0, tc1, tc2, tc3, tf⟩ := id T; have zt := T.lt))))
    all_goals (try go_wp2)
    all_goals (rw [show val 0 0 0 0 = 0 from rfl, Nat.mul_zero, Nat.add_zero] at HF3)
    all_goals (go_meet; first | (with_reducible exact RedR.made KP HF3) | (with_reducible exact (RedR.made KP HF3).drew) | (with_reducible exact RedR.put KP T M7 N7 HF3) | (with_reducible exact (RedR.put KP T M7 N7 HF3).drew) | fail)
  case rest =>
    clear KP
    obtain ⟨k6, a, b, c, d, rfl, KP, n60, n61, M6, HF⟩ := hcut
    have f0 : (0 : Int) ≤ (f : Int) := Int.natCast_nonneg _
    go_upto_region 3 with fail
    go_cut [1] (fun s1 wx => ∃ q : Nat, s1 = .slice (some ⟨g, q, none⟩) (n - f) (cap - f) ∧ Hid (0 < n - f → q = o + f) ∧ Kept w k0 [⟨k6, 0, a, b, c, d⟩, ⟨k0, 0, g0, g1, g2, 0⟩, ⟨k1, 0, 0, 0, 0, 0⟩] wx)
    case first =>
      by_cases ec : cap = f
      · have en : n = f := by omega
        have HEN : Hid (n = f ∧ cap = f) := ⟨en, ec⟩
        go_wp2
        go_meet
        refine ⟨o, ?_, fun h => ?_, KP⟩
        · rw [HEN.out.1, HEN.out.2]; try simp
        · have := HEN.out.1; omega
      · go_wp2
        go_meet
        exact ⟨o + f, rfl, fun _ => rfl, KP⟩
    case rest =>
    clear KP
    obtain ⟨q0, rfl, HQ0, KP⟩ := hcut
    go_wp2_with fail
    go_loopg [1] (n - f) (fun gk s1 wr => ∃ (l q lc a b c d : Nat), gk = l ∧ l ≤ n ∧ s1 = .slice (some ⟨g, q, none⟩) l lc ∧ Hid (l % 32 = 0 ∧ (0 < l → q = o + (n - l)) ∧ lc = cap - (n - l)) ∧ Kept w k0 [⟨k6, 0, a, b, c, d⟩, ⟨k0, 0, g0, g1, g2, 0⟩, ⟨k1, 0, 0, 0, 0, 0⟩] wr ∧
      Hid (Four (.agg #[.int .u64 (a : Int), .int .u64 (b : Int), .int .u64 (c : Int), .int .u64 (d : Int)]) (beV (bs.extract 0 (n - l)).toList % P)))
    case atStart =>
      refine ⟨n - f, q0, cap - f, a, b, c, d, rfl, by omega, rfl, ⟨by have := Hf.out; omega, fun h => by have := HQ0.out h; omega, by omega⟩, KP, ?_⟩
      rw [show n - (n - f) = f by omega]
      exact HF
    case round =>
      clear KP HF
      obtain ⟨l, q, lc, a, b, c, d, hgk, hln, rfl, HQ3, KP, HF⟩ := hrel
      clear e2 e3 e4 f0 hbs HS hf32 hfn HQ0
      have hlcl : l ≤ lc := by have := HQ3.out; omega
      by_cases h0 : l = 0
      · subst h0
        obtain ⟨xc0, xc1, xc2, xc3, xf⟩ := KP.head.at4
        have z7 := KP.head.lt
        go_wp2_with fail
        refine (number_any _ _ HF.out _).mono ?_
        rintro e w3 ⟨v, rfl, hb3, rfl⟩
        have KP3 := KP.call hb3
        clear hb3 xc0 xc1 xc2 xc3 xf z7 KP
        obtain ⟨rc0, rc1, rc2, rc3, rf⟩ := KP3.tail.tail.head.at4
        have z3 := KP3.tail.tail.head.lt
        go_wp2
        have RF := KP3.tail.tail.head.at4.self4 a b c d
        unfold set4 at RF
        refine bodyPost_ret (v := ?v) ?hr rfl ?hR
        case hr => simp [results, Tryz.results177, go_sem, RF.c0, RF.c1, RF.c2, RF.c3]; rfl
        refine ⟨_, rfl, ?_, ?_⟩
        · rw [H0.out]
          exact below_set4 KP3.bl Q1.out _ _ _ _
        · have := HF.out
          rw [Nat.sub_zero, ← HSZ.out, Array.extract_size] at this
          exact this
      · have h32 : 32 ≤ l := by have := HQ3.out; omega
        have HQ : Hid (o + (n - l) = q) := (HQ3.out.2.1 (by omega)).symm
        have h32c : 32 ≤ lc := by omega
        have i1 : (32 : Int) ≤ (lc : Int) := by omega
        have i2 : (32 : Int) ≤ (l : Int) := by omega
        have i3 : (0 : Int) < (l : Int) := by omega
        have HSL : Hid (n - l + 32 ≤ bs.size) := by unfold Hid; have := HSZ.out; omega
        have HS3 : Hid ((bs.extract (n - l) (n - l + 32)).size = 32) := by unfold Hid; rw [Array.size_extract]; have := HSL.out; omega
        obtain ⟨tc0, tc1, tc2, tc3, tf⟩ := KP.head.at4
        have zt := KP.head.lt
        obtain ⟨pc0, pc1, pc2, pc3, pf⟩ := KP.tail.head.at4
        have hl6 : ∀ x ∈ ([⟨k0, 0, g0, g1, g2, 0⟩, ⟨k1, 0, 0, 0, 0, 0⟩] : List Blk), k6 ≠ x.k := by simp only [List.mem_cons, List.not_mem_nil, or_false]; rintro x (rfl | rfl); exact n60; exact n61
        have HFF : Hid (_ = _) := red_step (P := P) bs (n - l) HSL.out
        go_wp2_with fail
        go_region_with (first | (go_at_call 95; refine (fromBytes_any (some ⟨g, q, none⟩) g q 32 lc (bs.extract (n - l) (n - l + 32)) _ (Nat.le_refl 32) h32c HS3.out (Or.inr ⟨rfl, HQ.out ▸ holds_part (n - l) 32 (by first | (with_reducible exact Holds.below HBS.out KP.bl hg) | (with_reducible exact Holds.below HBS.out KP.drew.bl hg) | fail) HSL.out⟩)).mono ?_; rintro e w1 ⟨v, rfl, hb1, hF1⟩; obtain ⟨a1, b1, c1, d1, rfl, ha1, hb1', hc1, hd1, es1⟩ := id hF1; clear es1; have HF1 : Hid (Four _ _) := hF1; clear hF1; (first | (with_reducible have KP1 := KP.call hb1) | (with_reducible have KP1 := KP.drew.call hb1) | fail); clear KP; have KP := KP1; clear KP1 hb1; obtain ⟨tc0, tc1, tc2, tc3, tf⟩ := KP.head.at4; have zt := KP.head.lt; obtain ⟨pc0, pc1, pc2, pc3, pf⟩ := KP.tail.head.at4) | (go_at_call 97; refine (four_any _ _ HF1.out _).mono ?_; rintro e w1 ⟨v, rfl, hb1, rfl⟩; (first | (with_reducible have KP1 := KP.call hb1) | (with_reducible have KP1 := KP.drew.call hb1) | fail); clear KP; have KP := KP1; clear KP1 hb1; obtain ⟨tc0, tc1, tc2, tc3, tf⟩ := KP.head.at4; have zt := KP.head.lt; obtain ⟨pc0, pc1, pc2, pc3, pf⟩ := KP.tail.head.at4) | (go_at_call 173; refine (fold_any g0 g1 g2 _ _ _ _ P HG.out.h0 HG.out.h1 HG.out.h2 HG.out.hor HG.out.hP HG.out.hP2 HF1.out HF.out _).mono ?_; rintro e w1 ⟨v, rfl, hb1, hF3⟩; obtain ⟨a', b', c', d', rfl, ha', hb', hc', hd', es3⟩ := id hF3; clear es3; have HF3 : Hid (Four _ _) := hF3; clear hF3; (first | (with_reducible have KP1 := KP.call hb1) | (with_reducible have KP1 := KP.drew.call hb1) | fail); clear KP; have KP := KP1; clear KP1 hb1; obtain ⟨tc0, tc1, tc2, tc3, tf⟩ := KP.head.at4; have zt := KP.head.lt; obtain ⟨pc0, pc1, pc2, pc3, pf⟩ := KP.tail.head.at4))
        all_goals (rw [HFF.out] at HF3)
        all_goals (by_cases i4 : lc = 32)
        all_goals (try go_wp2)
        all_goals
          (go_roundg (l - 32)
           case measure => omega
           case rel =>
            first
              | refine ⟨l - 32, q + 32, lc - 32, a', b', c', d', rfl, by omega, rfl, ⟨by have := HQ3.out; omega, fun _ => by have := HQ.out; omega, by have := HQ3.out; omega⟩, ?_, ?_⟩
              | refine ⟨l - 32, q, lc - 32, a', b', c', d', rfl, by omega, by first | rfl | (rw [i4]), ⟨by have := HQ3.out; omega, fun h => by omega, by have := HQ3.out; omega⟩, ?_, ?_⟩
              | fail
            · first | (with_reducible exact KP.put M6 hl6 a' b' c' d') | (with_reducible exact (KP.put M6 hl6 a' b' c' d').drew) | fail
            · rw [show n - (l - 32) = n - l + 32 by omega]; exact HF3)
def sPl (N a b:Nat):Nat:=(a+b)%N
theorem sPlus_c (O:Ord N) {a b:Nat} (ha:a<N) (hb:b<N):Gives 128 #[gv1,nv a,nv b] (nv (sPl N a b)):=fun w =>
 (Plus_any _ _ _ N _ _ a b O.gap (O.four ha) (O.four hb) ha hb w).mono (by rintro e w' ⟨v,rfl,hb,hF⟩;exact ⟨_,rfl,hb,hF.nv⟩)
theorem sPlu_c (O:Ord N) (a b:Nat) (ha:a<N) (hb:b<N):Gives 88 #[(nv a),(nv b)] (nv (sPl N a b)):=by
 intro w
 go_enter Tryz.func88,Tryz.ntmps88
 refine RG.M.enter [(0,(.v (nv a))),(1,(.v (nv b)))] 12 (by kernel_rfl) ?_
 intro a0 M0
 repeat refine wp_seq ?_
 refine M0.t [.m 2 [] 0,.m 3 [] 1,.m 4 [] 2] [(0,(wn a)),(1,(wn b)),(2,(RG.z 4))] [] [(wn a),(wn b),(RG.z 4)] [(2,(.p 0 0)),(3,(.p 1 0)),(4,(.p 2 0))] ⟨RG.mk 0 52,RG.mk 1 52,RG.mk 2 52,trivial⟩ ?_
 intro j1 i1 m1 a1 w1 M1
 repeat refine wp_seq ?_
 refine M1.d [.c 5 [] gv1,.s 6 [] (.p 0 0),.x 7 [(6,1)] (nv a),.s 8 [] (.p 1 0),.x 9 [(8,3)] (nv b),.c 10 [(5,0),(7,2),(9,4)] (nv (sPl N a b)),.x 11 [(10,5)] (nv (sPl N a b)),.u [(11,6)] 2] [] [(2,7,(wn (sPl N a b)))] [(wn a),(wn b),(wn (sPl N a b))] [(4,(.p 2 0))] ⟨RG.cl (Scalars_c),RG.st,RG.ld u38 i38,RG.st,RG.ld u38 i38,RG.cl (sPlus_c O ha hb),RG.st,RG.pt i40,trivial⟩ ?_
 intro a2 w2 M2
 refine wp_ret ?_
 refine bodyPost_ret (v:=(nv (sPl N a b))) (RG.results_row M2.st 4 52 rfl 2 _ rfl (M2.at (s:=(.p 2 0))) u40 i40) M2.sl.defers ?_
 exact ⟨_,rfl,M2.st.bel.below,rfl⟩
def redu (N:Nat) (bs:Bs):Nat:=beV bs.toList%N
def FSRd_1 (v:Value) (n:Nat):List RG.It:=[.c 3 [] gv1,.x 4 [] v,.c 5 [(3,0),(4,1)] (nv n),.x 6 [(5,2)] (nv n),.u [(6,3)] 0]
theorem reduced_c (O:Ord N) (g:Nat) (bs:Bs) (hs:bs.size=64) (w:World) (hg:g<w.heap.size) (hB:Holds encB w g 0 bs):Calls Tryz.prog 165 #[.slice (some ⟨g,0,none⟩) 64 64] w (Ret fun e w'=>Below w.heap.size w w'∧e=nv (redu N bs)):=by
 have hc:∀ w',RG.BelX w.heap.size [] w w'→Calls Tryz.prog 177 #[gv1,.slice (some ⟨g,0,none⟩) 64 64] w' (Ret fun e w''=>Below w'.heap.size w' w''∧e=nv (redu N bs)):=fun w' hb =>
  (PReduce_any _ _ _ N g 0 64 64 bs O.gap w' hs (Nat.le_refl _) (Nat.lt_of_lt_of_le hg hb.below.size) (Holds.below hB hb.below hg)).mono (by rintro e w'' ⟨v,rfl,hb,hF⟩;exact ⟨_,rfl,hb,hF.nv⟩)
 go_enter Tryz.func165,Tryz.ntmps165
 refine RG.M.enter [(0,(.v (.slice (some ⟨g,0,none⟩) 64 64)))] 7 (by kernel_rfl) ?_
 intro a0 M0
 repeat refine wp_seq ?_
 refine M0.t [.m 2 [] 0] [(0,(RG.z 4))] [] [(RG.z 4)] [(0,(.v (.slice (some ⟨g,0,none⟩) 64 64))),(2,(.p 0 0))] ⟨RG.mk 0 52,trivial⟩ ?_
 intro j1 a1 w1 M1
 repeat refine wp_seq ?_
 refine M1.t (FSRd_1 (.slice (some ⟨g,0,none⟩) 64 64) (redu N bs)) [] [(0,4,(wn (redu N bs)))] [(wn (redu N bs))] [(2,(.p 0 0))] ⟨RG.cl (Scalars_c),RG.st,RG.clB (fun _ _=>by kernel_rfl) hc,RG.st,RG.pt i40,trivial⟩ ?_
 intro a2 w2 M2
 refine wp_ret ?_
 refine bodyPost_ret (v:=(nv (redu N bs))) (RG.results_row M2.st 2 52 rfl 0 _ rfl (M2.at (s:=(.p 0 0))) u40 i40) M2.sl.defers ?_
 exact ⟨_,rfl,M2.st.bel.below,rfl⟩
theorem redu_lt (O:Ord N) (bs:Bs):redu N bs<N:=Nat.mod_lt _ O.pos
theorem row_new (w:World) (c:List Value) (T:TypeId):Row (w.alloc (.cells c.toArray T)) w.heap.size c:=
 have h:=RG.Made.alloc w c T
 ⟨h.lt,h.range,h.there⟩
theorem wn_one (n:Nat):(wn n).toArray.all (·.oneCell')=true:=by kernel_rfl
end
section
open Go.RowKit Go.Sort Go.Deep
section
variable {P:Program} {ops:Array Oper} {rest:List Oper} {op:Oper} {a:Act} {w w':World} {v:Value} {Q:Exit→Act→World→Prop}
theorem wpList_op (hgd:op.guard=none) (X:Op) (_:op.op=X) (hr:(execOp a.eval op).run P w=.ok (.value v) w') (h:wpList P ops Q rest (a.put op.dst v) w'):wpList P ops Q (op :: rest) a w:=
 wpList_plain hgd fun K hK=>by
  unfold Oper.wp
  rw[hr]
  exact hK _ _ h
end
variable {N:Nat}
theorem Row.only {W W':World} {k b o n:Nat} {vs:List Value} (h:Row W k vs) (hO:SP.Only b o n W W') (hne:k≠b):Row W' k vs:=by
 refine ⟨Nat.lt_of_lt_of_le h.1 hO.size,fun j v hj=>?_,fun j hj=>?_⟩
 ·rw[(hO.other (c:=k) (o:=0+j) hne h.1).1];exact h.2.1 j v hj
 ·have h1:=h.2.2 j hj
  have h2:=hO.other (c:=k) (o:=0+j) hne h.1
  exact ⟨by rw[h2.1];exact h1.1,by rw[h2.2];exact h1.2⟩
theorem only_setCells {w W:World} {y o n k:Nat} {vs:List Value} (h:SP.Only y o n w W) (hy:y<w.heap.size) (hk:w.heap.size≤k) (q:Nat):SP.Only y o n w (W.setCells k q vs):=
 have hb:Below w.heap.size W (W.setCells k q vs):=RG.below_setCells hk _ _ _ (Below.refl _ _)
 ⟨hb.os.trans h.os,hb.tape.trans h.tape,hb.output.trans h.output,Nat.le_trans h.size hb.size,fun j hj hne=>(hb.block j hj).trans (h.block j hj hne),fun p hp=>(World.cell?_of_block (a:=⟨y,p,none⟩) (hb.block y hy)).trans (h.cell p hp),fun p=>(World.frozen?_of_block (a:=⟨y,p,none⟩) (hb.block y hy)).trans (h.froz p)⟩
theorem Hid.mk' {p:Prop} (h:p):Hid p:=h
theorem u124:(Tryz.prog.underlying 68).map (·.isRow)=some true:=by kernel_rfl
theorem i124:(Tryz.prog.info? 68).map (·.size)=some 1:=by kernel_rfl
theorem sNewLog_c (label:ByteArray) (w:World) (hlab:label.size≤1048576):Calls Tryz.prog 110 #[.string label] w (Ret fun e w'=>Below w.heap.size w w'∧∃ r,e=.agg #[.pointer (some ⟨r,0,none⟩)]∧w.heap.size≤r∧r<w'.heap.size∧Holds encB w' r 0 (SP.newL label.data.toList)):=by
 obtain ⟨L,hL⟩:∃ L,Hid (SP.newL label.data.toList=L):=⟨_,rfl⟩
 have hLs:L.size=32:=by rw[← hL.out];exact SP.newL_size _
 rw[hL.out]
 obtain ⟨w1,hw1⟩:∃ w1,Hid (w.alloc (.cells #[.pointer none] 68)=w1):=⟨_,rfl⟩
 have K1:Hid (Row w1 w.heap.size [.pointer none]∧Below w.heap.size w w1):=by rw[← hw1.out];exact ⟨row_new w _ _,below1 w _⟩
 go_enter Tryz.func110,Tryz.ntmps110
 go_wp2_with fail
 rw[hw1.out]
 clear hw1
 refine (SP.NewLog_any label w1 hlab).mono ?_
 rintro e w2 ⟨rfl,hb2,hH2⟩
 rw[hL.out] at hH2
 have hlt:w1.heap.size<w2.heap.size:=Holds.lt hH2 (by omega)
 obtain ⟨r,hr⟩:∃ r,Hid (w1.heap.size=r):=⟨_,rfl⟩
 rw[hr.out] at hH2 hlt ⊢
 have hle:w.heap.size<r:=by rw[← hr.out];exact K1.out.1.1
 have K2:Hid (Row w2 w.heap.size [.pointer none]∧Below w.heap.size w w2∧Holds encB w2 r 0 L):=⟨K1.out.1.below hb2,K1.out.2.trans (hb2.mono K1.out.2.size),hH2⟩
 clear hb2 hH2 K1 hr
 obtain ⟨w5,hw5⟩:∃ w5,Hid (w2.setCells w.heap.size 0 [.pointer (some ⟨r,0,none⟩)]=w5):=⟨_,rfl⟩
 have K5:Hid (Row w5 w.heap.size [.pointer (some ⟨r,0,none⟩)]∧Below w.heap.size w w5∧Holds encB w5 r 0 L∧r<w5.heap.size):=by
  rw[← hw5.out]
  refine ⟨K2.out.1.put rfl,RG.below_setCells (Nat.le_refl _) _ _ _ K2.out.2.1,fun j hj=>?_,by rw[RG.setCells_size];exact hlt⟩
  have h:=K2.out.2.2 j hj
  have e:=RG.setCells_other w.heap.size [.pointer (some ⟨r,0,none⟩)] 0 w2 r (by omega)
  rw[World.cell?_of_block (a:=⟨r,0+j,none⟩) e,World.frozen?_of_block (a:=⟨r,0+j,none⟩) e]
  exact h
 go_wp2_with (refine wpList_op (v:=.agg #[.pointer (some ⟨r,0,none⟩)]) (w':=w2) rfl (.build 68 _) rfl ?_ ?_;kernel_rfl;refine Hid.out ?_)
 show wpList _ _ _ _ _ _
 refine wpList_store_mid rfl 68 _ _ rfl w.heap.size 0 #[.pointer (some ⟨r,0,none⟩)] ?_ ?_ ?_ ?_ ?_ ?_
 ·kernel_rfl
 ·kernel_rfl
 ·exact K2.out.1.2.2
 ·exact i124
 ·kernel_rfl
 rw[show (#[Value.pointer (some ⟨r,0,none⟩)]).toList=[.pointer (some ⟨r,0,none⟩)] from rfl,hw5.out]
 go_wp2
 refine bodyPost_ret (results_cell 2 68 rfl K5.out.1 rfl u124 i124) rfl ?_
 exact ⟨_,rfl,K5.out.2.1,r,rfl,by omega,K5.out.2.2.2,K5.out.2.2.1⟩
def cha (N:Nat) (L:Bs):Nat:=redu N (SP.askL L [99,104,97,108,108,101,110,103,101] 64)
end
namespace SP
open Go.RowKit Go.Sort Go.Deep
attribute [local go_sem] bits_xor64 bits_and64 bits_or64 wrap_u
end SP
namespace SP
open Go.RowKit Go.Sort Go.Deep
attribute [local go_sem] bits_xor64 bits_and64 bits_or64 wrap_u
end SP
namespace SP
open Go.RowKit Go.Sort Go.Deep
attribute [local go_sem] bits_xor64 bits_and64 bits_or64 bits_not64 wrap_u
end SP
namespace SP
open Go.RowKit Go.Sort Go.Deep
attribute [local go_sem] bits_xor64 bits_and64 bits_or64 bits_not64 wrap_u wrap_ub low_u
end SP
namespace SP
open Go.RowKit Go.Sort Go.Deep
attribute [local go_sem] bits_xor8
end SP
namespace SP
open Go.RowKit Go.Sort Go.Deep
end SP
namespace SP
open Go.RowKit Go.Sort Go.Deep
end SP
namespace SP
open Go.RowKit Go.Sort Go.Deep
end SP
namespace SP
open Go.RowKit Go.Sort Go.Deep
end SP
section
open Go.RowKit Go.Sort Go.Deep
variable {P:Nat} [NeZero P] {N:Nat}
end
section
open Go.RowKit Go.Sort
variable {P:Nat} [NeZero P] {N:Nat}
end
section
open Go.RowKit Go.Sort Go.Deep
variable {P:Nat} [NeZero P] {N:Nat}
def n12 (P:Nat) [NeZero P]:List Value:=ws (0:Fin P)++(ws (1:Fin P)++ws (0:Fin P))
end
section
open Go.RowKit Go.Sort
variable {P:Nat} [NeZero P] {N:Nat}
end
section
open Go.RowKit Go.Sort Go.Deep
variable {P:Nat} [NeZero P] {N:Nat}
end
section
open Go.RowKit Go.Sort
variable {P:Nat} [NeZero P] {N:Nat}
end
section
open Go.RowKit Go.Sort Go.Deep
variable {P:Nat} [NeZero P] {N:Nat}
end
section
open Go.RowKit Go.Sort
variable {P:Nat} [NeZero P] {N:Nat}
end
section
open Go.RowKit Go.Sort Go.Deep
variable {P:Nat} [NeZero P] {N:Nat}
theorem beV_lt (l:List UInt8):beV l<256^l.length:=by
 induction l with
 | nil=>decide
 | cons x r ih =>
  have h:=beV_append [x] r
  rw[show [x]++r=x :: r from rfl] at h
  have hx:beV [x]=x.toNat:=by simp[beV]
  have hx2:=x.toNat_lt
  rw[h,hx,List.length_cons,Nat.pow_succ,Nat.mul_comm (256^r.length)]
  have:=Nat.mul_le_mul_right (256^r.length) (show x.toNat+1≤256 by omega)
  rw[Nat.add_mul,Nat.one_mul] at this
  omega
end
section
open Go.RowKit Go.Sort Go.Deep
variable {N:Nat}
variable {P:Nat} [NeZero P]
end
section
open Go.RowKit Go.Sort Go.Deep
variable {P:Nat} [NeZero P] {N:Nat}
theorem undCP:Tryz.prog.underlying 61=some (.array 33 5):=by kernel_rfl
theorem bl33_lit {b:Bs} (h:b.size=33):bl33 b=[.int .u8 (ub b[0]!),.int .u8 (ub b[1]!),.int .u8 (ub b[2]!),.int .u8 (ub b[3]!),.int .u8 (ub b[4]!),.int .u8 (ub b[5]!),.int .u8 (ub b[6]!),.int .u8 (ub b[7]!),.int .u8 (ub b[8]!),.int .u8 (ub b[9]!),.int .u8 (ub b[10]!),.int .u8 (ub b[11]!),.int .u8 (ub b[12]!),.int .u8 (ub b[13]!),.int .u8 (ub b[14]!),.int .u8 (ub b[15]!),.int .u8 (ub b[16]!),.int .u8 (ub b[17]!),.int .u8 (ub b[18]!),.int .u8 (ub b[19]!),.int .u8 (ub b[20]!),.int .u8 (ub b[21]!),.int .u8 (ub b[22]!),.int .u8 (ub b[23]!),.int .u8 (ub b[24]!),.int .u8 (ub b[25]!),.int .u8 (ub b[26]!),.int .u8 (ub b[27]!),.int .u8 (ub b[28]!),.int .u8 (ub b[29]!),.int .u8 (ub b[30]!),.int .u8 (ub b[31]!),.int .u8 (ub b[32]!)]:=by
 apply List.ext_getElem?
 intro i
 by_cases hi:i<33
 ·rw[bl33_at b i (by omega)]
  match i,hi with
  | 0,_=>rfl
  | 1,_=>rfl
  | 2,_=>rfl
  | 3,_=>rfl
  | 4,_=>rfl
  | 5,_=>rfl
  | 6,_=>rfl
  | 7,_=>rfl
  | 8,_=>rfl
  | 9,_=>rfl
  | 10,_=>rfl
  | 11,_=>rfl
  | 12,_=>rfl
  | 13,_=>rfl
  | 14,_=>rfl
  | 15,_=>rfl
  | 16,_=>rfl
  | 17,_=>rfl
  | 18,_=>rfl
  | 19,_=>rfl
  | 20,_=>rfl
  | 21,_=>rfl
  | 22,_=>rfl
  | 23,_=>rfl
  | 24,_=>rfl
  | 25,_=>rfl
  | 26,_=>rfl
  | 27,_=>rfl
  | 28,_=>rfl
  | 29,_=>rfl
  | 30,_=>rfl
  | 31,_=>rfl
  | 32,_=>rfl
  | n+33,h=>exact absurd h (by omega)
 ·rw[List.getElem?_eq_none (by rw[bl33_length h];omega),List.getElem?_eq_none (by show 33≤i;omega)]
theorem bytes_eq {a b:Bs} (ha:a.size=33) (hb:b.size=33):(∀ i∈List.range 33,ub a[i]! = ub b[i]!)↔a=b:=by
 constructor
 ·intro h
  apply Array.ext (by rw[ha,hb])
  intro i h1 h2
  have h3:=h i (List.mem_range.2 (by omega))
  rw[getElem!_pos a i h1,getElem!_pos b i h2] at h3
  have h4:a[i].toNat=b[i].toNat:=by unfold ub at h3;omega
  exact UInt8.toNat_inj.1 h4
 ·rintro rfl i _
  rfl
theorem eqCP {a b:Bs} (ha:a.size=33) (hb:b.size=33) (w:World):(Op.equal 61 (.agg (bl33 a).toArray) (.agg (bl33 b).toArray)).run Tryz.prog w=.ok (decide (a=b)) w:=by
 have hi:(Tryz.prog.info? 5).isSome=true:=by kernel_rfl
 obtain ⟨inf,hinf⟩:=Option.isSome_iff_exists.1 hi
 show (Op.equalIn 10000 61 _ _).run Tryz.prog w=_
 rw[run_equalIn_array w 9999 _ _ undCP hinf,cells5,
  eqI _ _ (fun i=>ub a[i]!) (fun i=>ub b[i]!) 9998 w (List.range 33) (fun i hi=>by
   rw[List.getElem?_toArray]
   exact bl33_at a i (by rw[ha];exact List.mem_range.1 hi)) (fun i hi=>by
   rw[List.getElem?_toArray]
   exact bl33_at b i (by rw[hb];exact List.mem_range.1 hi))]
 rw[decide_eq_decide.2 (bytes_eq ha hb)]
theorem checkCP {b:Bs} (hb:b.size=33) (e:Bool) (w:World):(Instr.checkKey e 10000 61 (.agg (bl33 b).toArray)).run Tryz.prog w=.ok () w:=by
 rw[bl33_lit hb]
 kernel_rfl
def at? (b:Bs):List Bs→Nat→Option Nat
 | [],_=>none
 | k :: r,i=>if b=k then some i else at? b r (i+1)
def ents:List Bs→Nat→List MapEntry
 | [],_=>[]
 | k :: r,i=>{ key:=.agg (bl33 k).toArray,val:=.int .i64 i,born:=i } :: ents r (i+1)
theorem find_run {b:Bs} (hb:b.size=33) (w:World):∀ (D:List Bs) (i:Nat),(∀ k∈D,k.size=33)→(Instr.findAsking 61 (.agg (bl33 b).toArray) (ents D i) i).run Tryz.prog w=.ok ((at? b D i).map fun j=>(j,.int .i64 j)) w
 | [],i,_=>rfl
 | k :: r,i,h=>by
  have ih:=find_run hb w r (i+1) (fun x hx=>h x (List.mem_cons_of_mem _ hx))
  have he:=eqCP hb (h k List.mem_cons_self) w
  unfold ents Instr.findAsking at?
  simp only[Sem.run_bind,he,Result.andThen_ok]
  by_cases hk:b=k
  ·simp only[hk,decide_true,if_true,Sem.run_pure,Option.map_some]
  ·simp only[hk,decide_false,Bool.false_eq_true,if_false,ih]
theorem key_run {b:Bs} (hb:b.size=33) (D:List Bs) (h:∀ k∈D,k.size=33) (w:World):(Instr.findKey 61 (.agg (bl33 b).toArray) (ents D 0)).run Tryz.prog w=.ok ((at? b D 0).map fun j=>(j,.int .i64 j)) w:=by
 have hu:(underlying 61).run Tryz.prog w=.ok (.array 33 5) w:=run_underlying undCP w
 unfold Instr.findKey
 rw[Sem.run_bind,hu,Result.andThen_ok]
 cases D with
 | nil=>rfl
 | cons k r =>
  have h1:Instr.findNow (.array 33 5) (.agg (bl33 b).toArray) (ents (k :: r) 0) 0=none:=rfl
  simp only[h1]
  exact find_run hb w (k :: r) 0 h
theorem at?_none {b:Bs}:∀ {D:List Bs} {i:Nat},at? b D i=none↔b ∉ D
 | [],i=>by simp[at?]
 | k :: r,i=>by
  unfold at?
  by_cases h:b=k
  ·simp[h]
  ·simp[h,at?_none (D:=r) (i:=i+1)]
end
section
open Go.RowKit Go.Sort Go.Deep
section
variable {P:Program} {ops:Array Oper} {rest:List Oper} {op:Oper} {a:Act} {w w':World} {v u:Value} {Q:Exit→Act→World→Prop}
theorem wpList_box (hgd:op.guard=none) (T:TypeId) (x:Operand) (ho:op.op=.box T x) (hx:a.eval x=u) (hr:(Instr.box T u).run P w=.ok v w') (h:wpList P ops Q rest (a.put op.dst v) w'):wpList P ops Q (op :: rest) a w:=
 wpList_plain hgd fun K hK=>by
  unfold Oper.wp execOp
  simp only[ho,hx,Sem.run_bind,hr,Result.andThen_ok,Sem.run_pure]
  exact hK _ _ h
end
variable {N:Nat}
theorem infoCP:(Tryz.prog.info? 61).map (·.size)=some 33:=by kernel_rfl
theorem uCP:(Tryz.prog.underlying 61).map (·.isRow)=some true:=by kernel_rfl
theorem boxCP {a:Bs} (ha:a.size=33) (w:World):(Instr.box 61 (.agg (bl33 a).toArray)).run Tryz.prog w=.ok (.pointer (some ⟨w.heap.size,0,none⟩)) (w.alloc (.cells (bl33 a).toArray 61)):=by
 rw[bl33_lit ha]
 kernel_rfl
theorem slCP (k:Nat) (w:World):(Instr.sliceAt 61 (.pointer (some ⟨k,0,none⟩)) none none none).run Tryz.prog w=.ok (.slice (some ⟨k,0,none⟩) 33 33) w:=by kernel_rfl
theorem row_holds {W:World} {k:Nat} {a:Bs} (h:Row W k (bl33 a)):Holds encB W k 0 a:=cb_holds h.2.1 h.2.2
theorem row_part {W:World} {k:Nat} {a:Bs} (ha:a.size=33) (h:Row W k (bl33 a)):SP.PartOk W (.slice (some ⟨k,0,none⟩) 33 33) a.toList:=
 ⟨_,k,0,33,a,by rw[ha],rfl,by omega,by omega,Or.inr ⟨rfl,row_holds h⟩⟩
theorem sp_h {W:World} {r:Nat} {L:Bs} (h:Holds encB W r 0 L):Holds SP.encB W r 0 L:=h
theorem sp_k {W:World} {r:Nat} {L:Bs} (h:Holds SP.encB W r 0 L):Holds encB W r 0 L:=h
end
section
open Go.RowKit Go.Sort Go.Deep
variable {P:Nat} [NeZero P] {N:Nat}
theorem arrCP (g cg:Nat) (w:World):(Instr.arrayAt 61 (.slice (some ⟨g,0,none⟩) 33 cg)).run Tryz.prog w=.ok (.pointer (some ⟨g,0,none⟩)) w:=by kernel_rfl
theorem row_cp {W:World} {k:Nat} {a:Bs} (ha:Holds encB W k 0 a) (hk:k<W.heap.size):Row W k (bl33 a):=⟨hk,(cb_range ha).1,(cb_range ha).2⟩
theorem bl33_one (a:Bs):(bl33 a).toArray.all (·.oneCell')=true:=by
 rw[Array.all_eq_true']
 intro v hv
 obtain ⟨x,-,rfl⟩:=List.mem_map.1 (List.mem_toArray.1 hv)
 rfl
def pvl (a:Bs):Value:=.agg (bl33 a).toArray
end
section
open Go.RowKit Go.Sort Go.Deep
section
variable {P:Program} {ops:Array Oper} {rest:List Oper} {op:Oper} {a:Act} {w w':World} {v:Value} {Q:Exit→Act→World→Prop}
theorem wpList_bld (hgd:op.guard=none) (T:TypeId) (parts:Array (Nat × Operand)) (ho:op.op=.build T parts) (vs:Array (Nat × Value)) (hx:(parts.map fun (i,x)=>(i,a.eval x))=vs) (hr:(Instr.build T vs).run P w=.ok v w') (h:wpList P ops Q rest (a.put op.dst v) w'):wpList P ops Q (op :: rest) a w:=
 wpList_plain hgd fun K hK=>by
  unfold Oper.wp execOp
  simp only[ho,hx,Sem.run_bind,hr,Result.andThen_ok,Sem.run_pure]
  exact hK _ _ h
theorem wpList_bsl (hgd:op.guard=none) (T:TypeId) (n:Nat) (parts:Array (Nat × Operand)) (ho:op.op=.buildSlice T n parts) (vs:Array (Nat × Value)) (hx:(parts.map fun (i,x)=>(i,a.eval x))=vs) (hr:(Instr.buildSlice T n vs).run P w=.ok v w') (h:wpList P ops Q rest (a.put op.dst v) w'):wpList P ops Q (op :: rest) a w:=
 wpList_plain hgd fun K hK=>by
  unfold Oper.wp execOp
  simp only[ho,hx,Sem.run_bind,hr,Result.andThen_ok,Sem.run_pure]
  exact hK _ _ h
end
theorem bldT {a:Bs} (ha:a.size=33) (n:Nat) (w:World):(Instr.build 121 #[(0,nv n),(1,pvl a)]).run Tryz.prog w=.ok (.agg (wn n++bl33 a).toArray) w:=by
 unfold pvl
 rw[bl33_lit ha]
 kernel_rfl
theorem bslT {a:Bs} (ha:a.size=33) (n:Nat) (w:World):(Instr.buildSlice 56 1 #[(0,.agg (wn n++bl33 a).toArray)]).run Tryz.prog w=.ok (.slice (some ⟨w.heap.size,0,none⟩) 1 1) (w.alloc (.cells (wn n++bl33 a).toArray 121)):=by
 rw[bl33_lit ha]
 kernel_rfl
theorem boxS (n:Nat) (w:World):(Instr.box 52 (nv n)).run Tryz.prog w=.ok (.pointer (some ⟨w.heap.size,0,none⟩)) (w.alloc (.cells (wn n).toArray 52)):=by kernel_rfl
theorem ptTimes_c (a:Bs) (ha:a.size=33) (n:Nat) (w:World):Calls Tryz.prog 62 #[pvl a,nv n] w (Ret fun e w'=>Below w.heap.size w w'∧∃ k,e=.slice (some ⟨k,0,none⟩) 1 1∧w.heap.size≤k∧Row w' k (wn n++bl33 a)):=by
 have B1:=Hid.mk' (boxCP ha w)
 obtain ⟨w1,hw1⟩:∃ w1,Hid (w.alloc (.cells (bl33 a).toArray 61)=w1):=⟨_,rfl⟩
 rw[hw1.out] at B1
 have e1:w1.heap.size=w.heap.size+1:=by rw[← hw1.out,World.size_alloc]
 have B2:=Hid.mk' (boxS n w1)
 obtain ⟨w2,hw2⟩:∃ w2,Hid (w1.alloc (.cells (wn n).toArray 52)=w2):=⟨_,rfl⟩
 rw[hw2.out,e1] at B2
 have e2:w2.heap.size=w.heap.size+2:=by rw[← hw2.out,World.size_alloc,e1]
 have B3:=Hid.mk' (bldT ha n w2)
 have B4:=Hid.mk' (bslT ha n w2)
 obtain ⟨w3,hw3⟩:∃ w3,Hid (w2.alloc (.cells (wn n++bl33 a).toArray 121)=w3):=⟨_,rfl⟩
 rw[hw3.out,e2] at B4
 have K:Hid (Row w2 w.heap.size (bl33 a)∧Row w2 (w.heap.size+1) (wn n)∧Below w.heap.size w w3∧Row w3 (w.heap.size+2) (wn n++bl33 a)):=by
  have q1:Row w1 w.heap.size (bl33 a):=by rw[← hw1.out];exact row_new w _ _
  have q2:Row w2 (w.heap.size+1) (wn n):=by rw[← hw2.out,← e1];exact row_new w1 _ _
  have q3:Row w3 (w.heap.size+2) (wn n++bl33 a):=by rw[← hw3.out,← e2];exact row_new w2 _ _
  have b1:Below w.heap.size w w1:=by rw[← hw1.out];exact below1 w _
  have b2:Below w1.heap.size w1 w2:=by rw[← hw2.out];exact below1 w1 _
  have b3:Below w2.heap.size w2 w3:=by rw[← hw3.out];exact below1 w2 _
  exact ⟨q1.below b2,q2,(b1.trans (b2.mono (by omega))).trans (b3.mono (by omega)),q3⟩
 have HL:Hid ((Tryz.prog.info? 61).map (·.size)=some (bl33 a).length):=by show _=_;rw[bl33_length ha];exact infoCP
 obtain ⟨d,hd1,hd2⟩:=Option.map_eq_some_iff.1 uCP
 obtain ⟨d',hd3,hd4⟩:=Option.map_eq_some_iff.1 u40
 have HD:Hid ((Tryz.prog.underlying 61=some d∧d.isRow=true)∧Tryz.prog.underlying 52=some d'∧d'.isRow=true):=⟨⟨hd1,hd2⟩,hd3,hd4⟩
 clear hd1 hd2 hd3 hd4 hw1 hw2 hw3 e1 e2
 obtain ⟨va,hva⟩:∃ v,Hid (pvl a=v):=⟨_,rfl⟩
 obtain ⟨vn,hvn⟩:∃ v,Hid (nv n=v):=⟨_,rfl⟩
 obtain ⟨vt,hvt⟩:∃ v,Hid (Value.agg (wn n++bl33 a).toArray=v):=⟨_,rfl⟩
 have B1':Hid ((Instr.box 61 va).run Tryz.prog w=.ok (.pointer (some ⟨w.heap.size,0,none⟩)) w1):=by rw[← hva.out];exact B1
 rw[hvn.out] at B2
 rw[hva.out,hvn.out,hvt.out] at B3
 rw[hvt.out] at B4
 rw[hva.out,hvn.out]
 clear B1
 go_enter Tryz.func62,Tryz.ntmps62
 go_wp2_with (first|(refine wpList_box (u:=va) (v:=.pointer (some ⟨w.heap.size,0,none⟩)) (w':=w1) rfl 61 (.tmp 0) rfl ?_ ?_ ?_;rfl;exact B1'.out)|(refine wpList_box (u:=vn) (v:=.pointer (some ⟨w.heap.size+1,0,none⟩)) (w':=w2) rfl 52 (.tmp 1) rfl ?_ ?_ ?_;rfl;exact B2.out)|(refine wpList_load_mid rfl 52 _ rfl (w.heap.size+1) 0 ?_ (wn n) d' ?_ ?_ ?_ ?_ ?_;rfl;exact K.out.2.1.2.1;exact HD.out.2.1;exact HD.out.2.2;exact i40;rw[show Value.agg (wn n).toArray=vn from hvn.out])|(refine wpList_load_mid rfl 61 _ rfl w.heap.size 0 ?_ (bl33 a) d ?_ ?_ ?_ ?_ ?_;rfl;exact K.out.1.2.1;exact HD.out.1.1;exact HD.out.1.2;exact HL.out;rw[show Value.agg (bl33 a).toArray=va from hva.out])|(refine wpList_bld (v:=vt) (w':=w2) rfl 121 _ rfl #[(0,vn),(1,va)] ?_ ?_ ?_;kernel_rfl;exact B3.out)|(refine wpList_bsl (v:=.slice (some ⟨w.heap.size+2,0,none⟩) 1 1) (w':=w3) rfl 56 1 _ rfl #[(0,vt)] ?_ ?_ ?_;kernel_rfl;exact B4.out))
 go_ret
 exact ⟨_,rfl,K.out.2.2.1,w.heap.size+2,rfl,by omega,K.out.2.2.2⟩
end
section
open Go.RowKit Go.Sort Go.Deep
variable {P:Nat} [NeZero P] {N:Nat}
theorem boxT {a:Bs} (ha:a.size=33) (n:Nat) (w:World):(Instr.box 121 (.agg (wn n++bl33 a).toArray)).run Tryz.prog w=.ok (.pointer (some ⟨w.heap.size,0,none⟩)) (w.alloc (.cells (wn n++bl33 a).toArray 121)):=by
 rw[bl33_lit ha]
 kernel_rfl
theorem bldS (w:World):(Instr.build 52 #[]).run Tryz.prog w=.ok (nv 0) w:=by kernel_rfl
def tvl (n:Nat) (a:Bs):Value:=.agg (wn n++bl33 a).toArray
theorem range_front {W:World} {k:Nat} {xs ys:List Value} (h:W.rangeAt k 0 (xs++ys)):W.rangeAt k 0 xs:=fun j v hj=>h j v (by rw[List.getElem?_append_left (List.getElem?_eq_some_iff.1 hj).1];exact hj)
theorem range_back {W:World} {k:Nat} {xs ys:List Value} (h:W.rangeAt k 0 (xs++ys)):W.rangeAt k xs.length ys:=fun j v hj=>by
 have:=h (xs.length+j) v (by rw[List.getElem?_append_right (Nat.le_add_right _ _),Nat.add_sub_cancel_left];exact hj)
 rwa[Nat.zero_add] at this
theorem none_c {n:Nat} (hn:n<top) {a:Bs} (ha:a.size=33):Gives 105 #[tvl n a] (.bool (decide (n=0))):=by
 intro w
 have B1:=Hid.mk' (boxT ha n w)
 obtain ⟨w1,hw1⟩:∃ w1,Hid (w.alloc (.cells (wn n++bl33 a).toArray 121)=w1):=⟨_,rfl⟩
 rw[hw1.out] at B1
 have K:Hid (Row w1 w.heap.size (wn n++bl33 a)∧Below w.heap.size w w1):=by rw[← hw1.out];exact ⟨row_new w _ _,below1 w _⟩
 obtain ⟨d',hd3,hd4⟩:=Option.map_eq_some_iff.1 u40
 have HD:Hid (Tryz.prog.underlying 52=some d'∧d'.isRow=true):=⟨hd3,hd4⟩
 clear hd3 hd4 hw1
 obtain ⟨va,hva⟩:∃ v,Hid (tvl n a=v):=⟨_,rfl⟩
 obtain ⟨vn,hvn⟩:∃ v,Hid (nv n=v):=⟨_,rfl⟩
 obtain ⟨v0,hv0⟩:∃ v,Hid (nv 0=v):=⟨_,rfl⟩
 have B1':Hid ((Instr.box 121 va).run Tryz.prog w=.ok (.pointer (some ⟨w.heap.size,0,none⟩)) w1):=by rw[← hva.out];exact B1
 have B2:Hid ((Instr.build 52 #[]).run Tryz.prog w1=.ok v0 w1):=by rw[← hv0.out];exact bldS w1
 have B3:=Hid.mk' (eqS hn (show 0<top by unfold top;omega) w1)
 rw[hvn.out,hv0.out] at B3
 have hq:=B3.out
 obtain ⟨z,hz⟩:∃ z,Hid (decide (n=0)=z):=⟨_,rfl⟩
 rw[hz.out] at hq
 have hg:(eqGuard .eql 52 (.tmp 4) (.tmp 5) vn v0).run Tryz.prog w1=.ok () w1:=by rw[← hvn.out,← hv0.out];kernel_rfl
 rw[hva.out,hz.out]
 clear B1 B3
 go_enter Tryz.func105,Tryz.ntmps105
 go_wp2_with (first|(refine wpList_box (u:=va) (v:=.pointer (some ⟨w.heap.size,0,none⟩)) (w':=w1) rfl 121 (.tmp 0) rfl ?_ ?_ ?_;rfl;exact B1'.out)|(refine wpList_load_mid rfl 52 _ rfl w.heap.size 0 ?_ (wn n) d' ?_ ?_ ?_ ?_ ?_;rfl;exact range_front K.out.1.2.1;exact HD.out.1;exact HD.out.2;exact i40;rw[show Value.agg (wn n).toArray=vn from hvn.out])|(refine wpList_bld (v:=v0) (w':=w1) rfl 52 _ rfl #[] ?_ ?_ ?_;kernel_rfl;exact B2.out))
 go_wp2
 go_ret
 exact ⟨_,rfl,K.out.2,rfl⟩
theorem uT:(Tryz.prog.underlying 121).map (·.isRow)=some true:=by kernel_rfl
theorem iT:(Tryz.prog.info? 121).map (·.size)=some 37:=by kernel_rfl
theorem atT (k o n c i:Nat) (hi:i<n) (w:World):(Instr.indexAt 56 (.slice (some ⟨k,o,none⟩) n c) (.int .i64 i)).run Tryz.prog w=.ok (.pointer (some ⟨k,o+37*i,none⟩)) w:=by
 have h1:¬ (i:Int)<0:=by omega
 have h2:(i:Int)<n:=by omega
 go_simp
def firstZ (ns:Nat→Nat):Nat→Nat→Int
 | _,0=>-1
 | i,m+1=>if ns i=0 then (i:Int) else firstZ ns (i+1) m
def FIx_2 (b:Bool):List RG.It:=[.x 9 [] (.bool b)]
def FIx_4 (g k c i n:Nat) (a:Bs) (z:Bool):List RG.It:=[.x 11 [] (.func (.func 105) #[] #[]),.x 12 [] (.slice (some ⟨g,0,none⟩) k c),.x 13 [] (.int .i64 i),.x 14 [(12,1),(13,2)] (.pointer (some ⟨g,(0+37*i),none⟩)),.x 15 [(14,3)] (tvl n a),.c 16 [(11,0),(15,4)] (.bool z)]
theorem index_c (g k c:Nat) (hk:k≤1000000) (ns:Nat→Nat) (az:Nat→Bs) (hn:∀ j,j<k→ns j<top) (ha:∀ j,j<k→(az j).size=33) (w:World) (hg:g<w.heap.size) (hr:∀ j,j<k→w.rangeAt g (37*j) (wn (ns j)++bl33 (az j))) :
 Calls Tryz.prog 148 #[(.slice (some ⟨g,0,none⟩) k c),(.func (.func 105) #[] #[])] w (Ret fun e w'=>Below w.heap.size w w'∧e=.int .i64 (firstZ ns 0 k)):=by
 obtain ⟨R,hR⟩:∃ R,firstZ ns 0 k=R:=⟨_,rfl⟩
 rw[hR]
 go_enter Tryz.func148,Tryz.ntmps148
 refine RG.M.enter [(0,.v (.slice (some ⟨g,0,none⟩) k c)),(1,.v (.func (.func 105) #[] #[]))] 19 (by kernel_rfl) ?_
 intro a0 M0
 repeat refine wp_seq ?_
 refine M0.u [.x 4 [] (.int .i64 0)] [(0,.v (.slice (some ⟨g,0,none⟩) k c)),(1,.v (.func (.func 105) #[] #[]))] ⟨RG.st,trivial⟩ ?_
 intro a1 w1 M1
 repeat refine wp_seq ?_
 refine M1.u [.x 6 [] (.slice (some ⟨g,0,none⟩) k c),.x 7 [(6,0)] (.int .i64 k),.x 8 [] (.int .i64 0)] [(0,.v (.slice (some ⟨g,0,none⟩) k c)),(1,.v (.func (.func 105) #[] #[])),(7,.v (.int .i64 k)),(8,.v (.int .i64 0))] ⟨RG.st,RG.st,RG.st,trivial⟩ ?_
 intro a2 w2 M2
 repeat refine wp_seq ?_
 refine wp_block ?_
 refine wp_loop_ghost (fun m a wr=>∃ i:Nat,i+m=k∧firstZ ns i m=R∧RG.M w w.heap.size [] 19 [] [] [(0,.v (.slice (some ⟨g,0,none⟩) k c)),(1,.v (.func (.func 105) #[] #[])),(7,.v (.int .i64 k)),(8,.v (.int .i64 i))] a wr) k ⟨0,by omega,hR,M2⟩ ?_
 intro m' a wr
 rintro ⟨i,him,hf,M20⟩
 by_cases hi:i<k
 ·obtain ⟨n,hne⟩:∃ n,ns i=n:=⟨_,rfl⟩
  obtain ⟨b,hbe⟩:∃ b,az i=b:=⟨_,rfl⟩
  have hnt:=hn i hi
  have hbs:=ha i hi
  have hri:=hr i hi
  rw[hne] at hnt hri
  rw[hbe] at hbs hri
  have hri':w.rangeAt g (0+37*i) (wn n++bl33 b):=by rw[Nat.zero_add];exact hri
  have hlen:(Tryz.prog.info? 121).map (·.size)=some (wn n++bl33 b).length:=by rw[List.length_append,bl33_length hbs];exact iT
  have hz:=none_c hnt hbs
  obtain ⟨m2,rfl⟩:∃ m2,m'=m2+1:=⟨m'-1,by omega⟩
  unfold firstZ at hf
  rw[hne] at hf
  repeat refine wp_seq ?_
  refine M20.u (FIx_2 true) [(0,.v (.slice (some ⟨g,0,none⟩) k c)),(1,.v (.func (.func 105) #[] #[])),(7,.v (.int .i64 k)),(8,.v (.int .i64 i)),(9,.v (.bool true))] ⟨RG.cert_bin rfl .lss 3 3 8 7 (.int .i64 i) (.int .i64 k) (.bool true) rfl rfl RG.sx RG.sx (fun w=>by kernel_rfl) (lssn_t hi),trivial⟩ ?_
  intro a21 w21 M21
  repeat refine wp_seq ?_
  refine wp_cond_true M21.ev ?_
  refine wp_skip ?_
  refine wp_seq ?_
  refine wp_block ?_
  repeat refine wp_seq ?_
  refine M21.u [.x 10 [] (.int .i64 i),.x 5 [(10,0)] (.int .i64 i)] [(0,.v (.slice (some ⟨g,0,none⟩) k c)),(1,.v (.func (.func 105) #[] #[])),(7,.v (.int .i64 k)),(8,.v (.int .i64 i)),(5,.v (.int .i64 i))] ⟨RG.st,RG.st,trivial⟩ ?_
  intro a22 w22 M22
  repeat refine wp_seq ?_
  by_cases h0:n=0
  ·rw[decide_eq_true h0] at hz
   rw[if_pos h0] at hf
   refine M22.u (FIx_4 g k c i n b true) [(0,.v (.slice (some ⟨g,0,none⟩) k c)),(1,.v (.func (.func 105) #[] #[])),(7,.v (.int .i64 k)),(8,.v (.int .i64 i)),(5,.v (.int .i64 i)),(16,.v (.bool true))] ⟨RG.st,RG.st,RG.st,RG.cert_idx rfl 56 12 13 rfl (.v (.slice (some ⟨g,0,none⟩) k c)) (.int .i64 i) RG.sx RG.sx (fun μ w=>atT _ 0 _ _ i hi w),RG.cert_loadB rfl g (0+37*i) hg List.not_mem_nil 121 14 rfl (wn n++bl33 b) rfl RG.sx hri' uT hlen,RG.clB (fun _ _=>by kernel_rfl) (fun w' _=>hz w'),trivial⟩ ?_
   intro a23 w23 M23
   repeat refine wp_seq ?_
   refine wp_cond_true M23.ev ?_
   repeat refine wp_seq ?_
   refine M23.u [.x 17 [] (.int .i64 i),.x 4 [(17,0)] (.int .i64 i)] [(4,.v (.int .i64 i))] ⟨RG.st,RG.st,trivial⟩ ?_
   intro a24 w24 M24
   refine wp_ret ?_
   refine bodyPost_ret (v:=.int .i64 i) (RG.results_t 4 rfl (.int .i64 i) M24.av) M24.sl.defers ?_
   exact ⟨_,rfl,M24.st.bel.below,by rw[hf]⟩
  ·rw[decide_eq_false h0] at hz
   rw[if_neg h0] at hf
   refine M22.u (FIx_4 g k c i n b false) [(0,.v (.slice (some ⟨g,0,none⟩) k c)),(1,.v (.func (.func 105) #[] #[])),(7,.v (.int .i64 k)),(8,.v (.int .i64 i)),(16,.v (.bool false))] ⟨RG.st,RG.st,RG.st,RG.cert_idx rfl 56 12 13 rfl (.v (.slice (some ⟨g,0,none⟩) k c)) (.int .i64 i) RG.sx RG.sx (fun μ w=>atT _ 0 _ _ i hi w),RG.cert_loadB rfl g (0+37*i) hg List.not_mem_nil 121 14 rfl (wn n++bl33 b) rfl RG.sx hri' uT hlen,RG.clB (fun _ _=>by kernel_rfl) (fun w' _=>hz w'),trivial⟩ ?_
   intro a23 w23 M23
   repeat refine wp_seq ?_
   refine wp_cond_false M23.ev ?_
   refine wp_skip ?_
   repeat refine wp_seq ?_
   refine M23.u [.x 18 [] (.int .i64 ((i+1:Nat):Int)),.x 8 [(18,0)] (.int .i64 ((i+1:Nat):Int))] [(0,.v (.slice (some ⟨g,0,none⟩) k c)),(1,.v (.func (.func 105) #[] #[])),(7,.v (.int .i64 k)),(8,.v (.int .i64 ((i+1:Nat):Int)))] ⟨RG.cert_binc rfl .add 3 3 8 (.int .i64 i) (.int .i64 1) (.int .i64 ((i+1:Nat):Int)) rfl rfl RG.sx (fun w=>by kernel_rfl) (addn i 1 (by omega) (by omega)),RG.st,trivial⟩ ?_
   intro a24 w24 M24
   show ∃ n',_
   exact ⟨m2,by omega,i+1,by omega,hf,M24⟩
 ·have hik:m'=0:=by omega
  rw[hik] at hf
  unfold firstZ at hf
  repeat refine wp_seq ?_
  refine M20.u (FIx_2 false) [(9,.v (.bool false))] ⟨RG.cert_bin rfl .lss 3 3 8 7 (.int .i64 i) (.int .i64 k) (.bool false) rfl rfl RG.sx RG.sx (fun w=>by kernel_rfl) (lssn_f hi),trivial⟩ ?_
  intro a21 w21 M21
  repeat refine wp_seq ?_
  refine wp_cond_false M21.ev ?_
  refine wp_exit ?_
  dsimp only[Exit.then,Exit.inBlock]
  rw[if_pos rfl]
  repeat refine wp_seq ?_
  refine M21.u [.x 4 [] (.int .i64 (-1))] [(4,.v (.int .i64 (-1)))] ⟨RG.st,trivial⟩ ?_
  intro a22 w22 M22
  refine wp_ret ?_
  refine bodyPost_ret (v:=.int .i64 (-1)) (RG.results_t 4 rfl (.int .i64 (-1)) M22.av) M22.sl.defers ?_
  exact ⟨_,rfl,M22.st.bel.below,by rw[← hf]⟩
theorem firstZ_none {ns:Nat→Nat}:∀ (m i:Nat),(∀ j,i≤j→j<i+m→ns j≠0)→firstZ ns i m = -1
 | 0,_,_=>rfl
 | m+1,i,h=>by
  unfold firstZ
  rw[if_neg (h i (Nat.le_refl _) (by omega))]
  exact firstZ_none m (i+1) (fun j h1 h2=>h j (by omega) (by omega))
theorem delete_none (g k c:Nat) (hk:k≤1000000) (ns:Nat→Nat) (az:Nat→Bs) (hn:∀ j,j<k→ns j<top) (hn0:∀ j,j<k→ns j≠0) (ha:∀ j,j<k→(az j).size=33) (w:World) (hg:g<w.heap.size) (hr:∀ j,j<k→w.rangeAt g (37*j) (wn (ns j)++bl33 (az j))) :
 Calls Tryz.prog 104 #[(.slice (some ⟨g,0,none⟩) k c),(.func (.func 105) #[] #[])] w (Ret fun e w'=>Below w.heap.size w w'∧e=(.slice (some ⟨g,0,none⟩) k c)):=by
 have hI:∀ w',RG.BelX w.heap.size [] w w'→Calls Tryz.prog 148 #[(.slice (some ⟨g,0,none⟩) k c),(.func (.func 105) #[] #[])] w' (Ret fun e w''=>Below w'.heap.size w' w''∧e=.int .i64 (-1)):=fun w' hb=>by
  have h:=index_c g k c hk ns az hn ha w' (Nat.lt_of_lt_of_le hg hb.below.size) (fun j hj=>RG.range_below (hr j hj) hb.below hg)
  rw[firstZ_none k 0 (fun j _ h2=>hn0 j (by omega))] at h
  exact h
 go_enter Tryz.func104,Tryz.ntmps104
 refine RG.M.enter [(0,.v (.slice (some ⟨g,0,none⟩) k c)),(1,.v (.func (.func 105) #[] #[]))] 42 (by kernel_rfl) ?_
 intro a0 M0
 repeat refine wp_seq ?_
 refine M0.u [.x 4 [] (.slice none 0 0)] [(0,.v (.slice (some ⟨g,0,none⟩) k c)),(1,.v (.func (.func 105) #[] #[]))] ⟨RG.st,trivial⟩ ?_
 intro a1 w1 M1
 repeat refine wp_seq ?_
 refine M1.u [.x 8 [] (.slice (some ⟨g,0,none⟩) k c),.x 9 [] (.func (.func 105) #[] #[]),.c 10 [(8,0),(9,1)] (.int .i64 (-1)),.x 5 [(10,2)] (.int .i64 (-1))] [(0,.v (.slice (some ⟨g,0,none⟩) k c)),(5,.v (.int .i64 (-1)))] ⟨RG.st,RG.st,RG.clB (fun _ _=>by kernel_rfl) hI,RG.st,trivial⟩ ?_
 intro a2 w2 M2
 repeat refine wp_seq ?_
 refine M2.u [.x 11 [] (.int .i64 (-1)),.x 12 [(11,0)] (.bool true)] [(0,.v (.slice (some ⟨g,0,none⟩) k c)),(12,.v (.bool true))] ⟨RG.st,RG.st,trivial⟩ ?_
 intro a3 w3 M3
 repeat refine wp_seq ?_
 refine wp_cond_true M3.ev ?_
 repeat refine wp_seq ?_
 refine M3.u [.x 13 [] (.slice (some ⟨g,0,none⟩) k c),.x 4 [(13,0)] (.slice (some ⟨g,0,none⟩) k c)] [(4,.v (.slice (some ⟨g,0,none⟩) k c))] ⟨RG.st,RG.st,trivial⟩ ?_
 intro a4 w4 M4
 refine wp_ret ?_
 refine bodyPost_ret (v:=(.slice (some ⟨g,0,none⟩) k c)) (RG.results_t 4 rfl _ M4.av) M4.sl.defers ?_
 exact ⟨_,rfl,M4.st.bel.below,rfl⟩
theorem undM:Tryz.prog.underlying 189=some (.map 61 3):=by kernel_rfl
theorem zero3 (w:World):(zeroValue 3).run Tryz.prog w=.ok (.int .i64 0) w:=by kernel_rfl
theorem ents_snoc (b:Bs):∀ (D:List Bs) (i:Nat),ents (D++[b]) i=ents D i++[{ key:=.agg (bl33 b).toArray,val:=.int .i64 ((i+D.length:Nat):Int),born:=i+D.length }]
 | [],i=>rfl
 | k :: r,i=>by
  rw[List.cons_append]
  unfold ents
  rw[ents_snoc b r (i+1),List.length_cons,show i+1+r.length=i+(r.length+1) by omega]
  rfl
theorem look_run {b:Bs} (hb:b.size=33) (D:List Bs) (hD:∀ k∈D,k.size=33) (m clock:Nat) (w:World) (hm:w.heap[m]? = some (.map (ents D 0).toArray clock)) :
 (Instr.lookup 189 (.map (some m)) (.agg (bl33 b).toArray) true).run Tryz.prog w=.ok (.tuple #[.int .i64 (((at? b D 0).getD 0:Nat):Int),.bool (at? b D 0).isSome]) w:=by
 have h1:=run_underlying undM w
 have h2:=fun e=>checkCP hb e w
 have h3:=key_run hb D hD w
 have h4:(getObj m).run Tryz.prog w=.ok (.map (ents D 0).toArray clock) w:=by
  simp[getObj,Sem.run,hm]
 unfold Instr.lookup
 simp only[Sem.run_bind,h1,Result.andThen_ok,h4,Sem.run_pure,h2,h3]
 cases h:at? b D 0 with
 | none=>simp[Sem.run_bind,zero3]
 | some j=>simp
theorem upd_run {b:Bs} (hb:b.size=33) (D:List Bs) (hD:∀ k∈D,k.size=33) (m:Nat) (w:World) (hm:w.heap[m]? = some (.map (ents D 0).toArray D.length)) (hn:at? b D 0=none) :
 (Instr.mapUpdate 189 (.map (some m)) (.agg (bl33 b).toArray) (.int .i64 (D.length:Int))).run Tryz.prog w=.ok () (w.putObj m (.map (ents (D++[b]) 0).toArray (D.length+1))):=by
 have h1:=run_underlying undM w
 have h2:=fun e=>checkCP hb e w
 have h3:=key_run hb D hD w
 rw[hn] at h3
 have h4:(getObj m).run Tryz.prog w=.ok (.map (ents D 0).toArray D.length) w:=by
  simp[getObj,Sem.run,hm]
 unfold Instr.mapUpdate
 simp only[Sem.run_bind,h1,Result.andThen_ok,h4,Sem.run_pure,h2,h3]
 rw[ents_snoc,Nat.zero_add]
 simp[setObj,Sem.run,hm,World.putObj]
theorem undS:Tryz.prog.underlying 56=some (.slice 121):=by kernel_rfl
theorem infoT:(Tryz.prog.info? 121).map (fun i=>(i.size,i.bytes,i.zero.map fun z=>z.cells.size))=some (37,72,some 37):=by kernel_rfl
theorem cells_one (n:Nat) (a:Bs):∀ u∈wn n++bl33 a,u.oneCell'=true:=by
 intro u hu
 rcases List.mem_append.1 hu with h|h
 ·unfold wn at h
  simp only[List.mem_cons,List.not_mem_nil,or_false] at h
  rcases h with rfl|rfl|rfl|rfl<;>rfl
 ·obtain ⟨x,-,rfl⟩:=List.mem_map.1 h
  rfl
theorem app_term {base k g n:Nat} {v:Value} {xs:List Value} {a:Bs} (ha:a.size=33) {W:World} (hown:W.ownsRow base 121 37 v k xs) (hR:Row W g (wn n++bl33 a)) (hk:k≤1000000) (hb:base≤W.heap.size) :
 ∃ v' W',(Builtin.append_ #[56,56] 56 #[v,.slice (some ⟨g,0,none⟩) 1 1]).run Tryz.prog W=.ok v' W'∧W'.ownsRow base 121 37 v' (k+1) (xs++(wn n++bl33 a))∧W.grownBy W' v.ownBlock:=by
 obtain ⟨i,hi,he⟩:=Option.map_eq_some_iff.1 infoT
 simp only[Prod.mk.injEq] at he
 obtain ⟨h1,h2,h3⟩:=he
 obtain ⟨z,hz,hz2⟩:=Option.map_eq_some_iff.1 h3
 obtain ⟨v',W',r1,r2,r3,-⟩:=run_append_own (P:=Tryz.prog) W base 56 56 121 i z 37 72 undS hi hz h1 h2 hz2 (by decide) v k xs hown ⟨g,0,none⟩ 1 1 (wn n++bl33 a) (by rw[List.length_append,bl33_length ha];rfl)
  (fun j u hj=>by
   have:=hR.2.1 j u hj
   rw[Nat.zero_add] at this
   rw[show (⟨g,0,none⟩:Addr).add j=⟨g,j,none⟩ by unfold Addr.add;split<;>simp_all]
   exact this) (cells_one n a) (by unfold maxLen;omega) (by omega) hb
 exact ⟨v',W',r1,r2,r3⟩
def addT (N:Nat):List (Nat × Bs)→Nat→Bs→List (Nat × Bs)
 | [],n,p=>[(n,p)]
 | (s,q) :: r,n,p=>if p=q then (sPl N s n,q) :: r else (s,q) :: addT N r n p
def mrg (N:Nat) (ns:Nat→Nat) (az:Nat→Bs):Nat→List (Nat × Bs)
 | 0=>[]
 | i+1=>addT N (mrg N ns az i) (ns i) (az i)
def cellsT (l:List (Nat × Bs)):List Value:=l.flatMap fun x=>wn x.1++bl33 x.2
theorem addT_new {N n:Nat} {p:Bs}:∀ {l:List (Nat × Bs)},at? p (l.map (·.2)) 0=none→addT N l n p=l++[(n,p)]
 | [],_=>rfl
 | (s,q) :: r,h=>by
  have h2:=at?_none.1 h
  rw[List.map_cons,List.mem_cons,not_or] at h2
  unfold addT
  rw[if_neg h2.1,addT_new (l:=r) (at?_none.2 h2.2)]
  rfl
theorem cellsT_snoc (l:List (Nat × Bs)) (n:Nat) (p:Bs):cellsT (l++[(n,p)])=cellsT l++(wn n++bl33 p):=by
 unfold cellsT
 rw[List.flatMap_append]
 simp
structure Mx (w W:World) (m:Nat) (l:List (Nat × Bs)) (v:Value):Prop where
 bl:Below w.heap.size w W
 mp:W.heap[m]? = some (.map (ents (l.map (·.2)) 0).toArray l.length)
 lm:w.heap.size≤m
 ow:W.ownsRow w.heap.size 121 37 v l.length (cellsT l)
theorem Mx.own_ne {w W:World} {m:Nat} {l:List (Nat × Bs)} {v:Value} (h:Mx w W m l v) {g:Nat} (hg:v.ownBlock=some g):g≠m∧w.heap.size≤g∧g<W.heap.size:=by
 rcases h.ow.2 with ⟨rfl,-⟩|⟨g',cap,cur,rfl,h1,h2,-⟩
 ·cases hg
 ·obtain rfl:g'=g:=by simpa[Value.ownBlock] using hg
  refine ⟨fun e=>?_,h1,(Array.getElem?_eq_some_iff.1 h2).1⟩
  have:=h.mp
  rw[← e,h2] at this
  cases this
theorem owns_kept {W W':World} {base k:Nat} {e:TypeId} {s:Nat} {v:Value} {xs:List Value} (h:W.ownsRow base e s v k xs) (hk:∀ g,v.ownBlock=some g→W'.heap[g]? = W.heap[g]?):W'.ownsRow base e s v k xs:=by
 refine ⟨h.1,?_⟩
 rcases h.2 with h2|⟨g,cap,cur,rfl,h1,h2,h3⟩
 ·exact Or.inl h2
 ·exact Or.inr ⟨g,cap,cur,rfl,h1,by rw[hk g rfl];exact h2,h3⟩
theorem Mx.kept {w W W':World} {m:Nat} {l:List (Nat × Bs)} {v:Value} (h:Mx w W m l v) (hb:Below W.heap.size W W'):Mx w W' m l v:=
 ⟨h.bl.trans (hb.mono h.bl.size),by rw[hb.block m (Array.getElem?_eq_some_iff.1 h.mp).1];exact h.mp,h.lm,owns_kept h.ow fun g hg=>hb.block g (h.own_ne hg).2.2⟩
theorem ents_map (l:List (Nat × Bs)) (n:Nat) (p:Bs):(l++[(n,p)]).map (·.2)=l.map (·.2)++[p]:=by simp
theorem Mx.push {w W:World} {m:Nat} {l:List (Nat × Bs)} {v:Value} (h:Mx w W m l v) {p:Bs} (hp:p.size=33) (hk:l.length≤1000000) (n:Nat) :
 ∃ v' W5x,(Builtin.append_ #[56,56] 56 #[v,.slice (some ⟨W.heap.size,0,none⟩) 1 1]).run Tryz.prog ((W.putObj m (.map (ents (l.map (·.2)++[p]) 0).toArray (l.length+1))).alloc (.cells (wn n++bl33 p).toArray 121))=.ok v' W5x∧Mx w W5x m (l++[(n,p)]) v'∧W.heap.size<W5x.heap.size∧∀ j,j<W.heap.size→w.heap.size≤j→j≠m→some j≠v.ownBlock→W5x.heap[j]? = W.heap[j]?:=by
 obtain ⟨W3,h3⟩:∃ W3,W.putObj m (.map (ents (l.map (·.2)++[p]) 0).toArray (l.length+1))=W3:=⟨_,rfl⟩
 have s3:W3.heap.size=W.heap.size:=by rw[← h3];simp[World.putObj]
 have hmW:m<W.heap.size:=(Array.getElem?_eq_some_iff.1 h.mp).1
 have o3:∀ j,j≠m→W3.heap[j]? = W.heap[j]?:=fun j hj=>by rw[← h3];exact World.putObj_heap_other hj
 have b3:Below w.heap.size w W3:=h.bl.trans ⟨by rw[← h3];rfl,by rw[← h3];rfl,by rw[← h3];rfl,by omega,fun j hj=>o3 j (by have:=h.lm;omega)⟩
 have w3:W3.ownsRow w.heap.size 121 37 v l.length (cellsT l):=owns_kept h.ow fun g hg=>o3 g (h.own_ne hg).1
 have m3:W3.heap[m]? = some (.map (ents (l.map (·.2)++[p]) 0).toArray (l.length+1)):=by rw[← h3];exact World.putObj_heap_same hmW
 rw[h3]
 have R4:=row_new W3 (wn n++bl33 p) 121
 have b4:=below1 W3 (.cells (wn n++bl33 p).toArray 121)
 have s4:(W3.alloc (.cells (wn n++bl33 p).toArray 121)).heap.size=W.heap.size+1:=by rw[World.size_alloc,s3]
 generalize W3.alloc (.cells (wn n++bl33 p).toArray 121)=W4 at R4 b4 s4 ⊢
 have w4:W4.ownsRow w.heap.size 121 37 v l.length (cellsT l):=owns_kept w3 fun g hg=>b4.block g (by have:=(h.own_ne hg).2.2;omega)
 rw[s3] at R4
 obtain ⟨v',W5x,r1,r2,r3⟩:=app_term hp w4 R4 hk (by have:=b3.size;omega)
 have hm5:some m≠v.ownBlock:=fun e=>(h.own_ne e.symm).1 rfl
 refine ⟨v',W5x,r1,⟨?_,?_,h.lm,?_⟩,by have:=r3.size;omega,fun j hj _ hjm hjo=>?_⟩
 ·exact (b3.trans (b4.mono b3.size)).grown r3 (by have:=b3.size;omega) (fun k e=>(h.own_ne e).2.1)
 ·rw[r3.block m (by omega) hm5,b4.block m (by omega),m3,ents_map,List.length_append]
  rfl
 ·rw[cellsT_snoc,List.length_append]
  exact r2
 ·rw[r3.block j (by omega) hjo,b4.block j (by omega),o3 j hjm]
end
section
open Go.RowKit Go.Sort Go.Deep
variable {N:Nat}
section
variable {P:Program} {ops:Array Oper} {rest:List Oper} {op:Oper} {a:Act} {w w':World} {v x y z:Value} {Q:Exit→Act→World→Prop}
theorem wpList_lk (hgd:op.guard=none) (T:TypeId) (m k:Operand) (ok:Bool) (ho:op.op=.lookup T m k ok) (hm:a.eval m=x) (hk:a.eval k=y) (hr:(Instr.lookup T x y ok).run P w=.ok v w') (h:wpList P ops Q rest (a.put op.dst v) w'):wpList P ops Q (op :: rest) a w:=
 wpList_plain hgd fun K hK=>by
  unfold Oper.wp execOp
  simp only[ho,hm,hk,Sem.run_bind,hr,Result.andThen_ok,Sem.run_pure]
  exact hK _ _ h
theorem wpList_mu (hgd:op.guard=none) (T:TypeId) (m k u:Operand) (ho:op.op=.mapUpdate T m k u) (hm:a.eval m=x) (hk:a.eval k=y) (hu:a.eval u=z) (hr:(Instr.mapUpdate T x y z).run P w=.ok () w') (h:wpList P ops Q rest (a.put op.dst undef) w'):wpList P ops Q (op :: rest) a w:=
 wpList_plain hgd fun K hK=>by
  unfold Oper.wp execOp
  simp only[ho,hm,hk,hu,Sem.run_bind,hr,Result.andThen_ok,Sem.run_pure]
  exact hK _ _ h
theorem wpList_app (hgd:op.guard=none) (s u:Operand) (t:TypeId) (ho:op.op=.call { callee:=.builtin .append,args:=#[s,u],argTypes:=#[t,t] }) (hs:a.eval s=x) (hu:a.eval u=y) (hr:(Builtin.append_ #[t,t] op.type #[x,y]).run P w=.ok v w') (h:wpList P ops Q rest (a.put op.dst v) w'):wpList P ops Q (op :: rest) a w:=
 wpList_plain hgd fun K hK=>by
  unfold Oper.wp execOp
  simp only[ho,resolve,invoke,builtin,Sem.run_bind,Sem.run_pure,Result.andThen_ok,List.map_toArray,List.map_cons,List.map_nil,hs,hu,hr]
  exact hK _ _ h
end
def zT:List Value:=[.int .u64 0,.int .u64 0,.int .u64 0,.int .u64 0]++z33
theorem owns_form {W:World} {base k:Nat} {e:TypeId} {s:Nat} {v:Value} {xs:List Value} (h:W.ownsRow base e s v k xs):∃ q cap,v=.slice q k cap:=by
 rcases h.2 with ⟨rfl,rfl⟩|⟨g,cap,cur,rfl,-⟩
 ·exact ⟨none,0,rfl⟩
 ·exact ⟨some ⟨g,0,none⟩,cap,rfl⟩
theorem mrg_len (ns:Nat→Nat) (az:Nat→Bs):∀ i,(mrg N ns az i).length≤i
 | 0=>Nat.le_refl _
 | i+1=>by
  have ih:=mrg_len ns az i
  have h:∀ (l:List (Nat × Bs)) n p,(addT N l n p).length≤l.length+1:=by
   intro l n p
   induction l with
   | nil=>exact Nat.le_refl _
   | cons x r ihr =>
    unfold addT
    split
    ·simp
    ·simp only[List.length_cons];omega
  exact Nat.le_trans (h _ _ _) (by omega)
theorem mrg_size (ns:Nat→Nat) (az:Nat→Bs) {k:Nat} (ha:∀ j,j<k→(az j).size=33):∀ i,i≤k→∀ x∈(mrg N ns az i).map (·.2),x.size=33
 | 0,_=>fun x hx=>by cases hx
 | i+1,hi=>by
  have ih:=mrg_size ns az ha i (by omega)
  have h:∀ (l:List (Nat × Bs)) n p,p.size=33→(∀ x∈l.map (·.2),x.size=33)→∀ x∈(addT N l n p).map (·.2),x.size=33:=by
   intro l n p hp
   induction l with
   | nil=>intro _ x hx;simp[addT] at hx;rw[hx];exact hp
   | cons y r ihr =>
    intro hl x hx
    unfold addT at hx
    split at hx
    ·exact hl x (by simpa using hx)
    ·rw[List.map_cons,List.mem_cons] at hx
     rcases hx with hx|hx
     ·exact hl x (by rw[hx];simp)
     ·exact ihr (fun z hz=>hl z (List.mem_cons_of_mem _ hz)) x hx
  exact h _ _ _ (ha i (by omega)) ih
theorem cellsT_at:∀ (l:List (Nat × Bs)),(∀ x∈l.map (·.2),x.size=33)→∀ (j:Nat) (hj:j<l.length) (t:Nat),t<37→(cellsT l)[37*j+t]? = (wn (l[j]).1++bl33 (l[j]).2)[t]?
 | [],_,j,hj,_,_=>by cases hj
 | x :: r,hs,j,hj,t,ht=>by
  have hx:(wn x.1++bl33 x.2).length=37:=by rw[List.length_append,bl33_length (hs x.2 (by simp))];rfl
  have e:cellsT (x :: r)=(wn x.1++bl33 x.2)++cellsT r:=by unfold cellsT;rw[List.flatMap_cons]
  rw[e]
  cases j with
  | zero =>
   rw[Nat.mul_zero,Nat.zero_add,List.getElem?_append_left (by omega)]
   rfl
  | succ j =>
   rw[List.getElem?_append_right (by omega),hx,show 37*(j+1)+t-37=37*j+t by omega,cellsT_at r (fun y hy=>hs y (List.mem_cons_of_mem _ hy)) j (by simpa using hj) t ht]
   rfl
theorem owns_rows {W:World} {base:Nat} {v:Value} {l:List (Nat × Bs)} (h:W.ownsRow base 121 37 v l.length (cellsT l)) (hs:∀ x∈l.map (·.2),x.size=33) (hl:0<l.length) :
 ∃ g cap,v=.slice (some ⟨g,0,none⟩) l.length cap∧base≤g∧g<W.heap.size∧∀ j (hj:j<l.length),W.rangeAt g (37*j) (wn (l[j]).1++bl33 (l[j]).2):=by
 have h0:=h
 rcases h.2 with ⟨-,h2⟩|⟨g,cap,cur,rfl,h1,h2,h3⟩
 ·omega
 ·refine ⟨g,cap,rfl,h1,(Array.getElem?_eq_some_iff.1 h2).1,fun j hj t u hu=>?_⟩
  have ht:t<37:=by
   have:=(List.getElem?_eq_some_iff.1 hu).1
   rw[List.length_append,bl33_length (hs _ (List.mem_map.2 ⟨_,List.getElem_mem hj,rfl⟩))] at this
   exact this
  have hc:=h0.cells (g:=g) rfl (37*j+t) u (by rw[cellsT_at l hs j hj t ht];exact hu)
  have e:(⟨g,0,none⟩:Addr).add (37*j+t)=⟨g,37*j+t,none⟩:=by
   unfold Addr.add
   split
   ·rename_i h;rw[h]
   ·simp
  rw[e] at hc
  exact hc
end
section
open Go.RowKit Go.Sort Go.Deep
variable {P:Nat} [NeZero P] {N:Nat}
theorem zeroTm (w:World):(zeroValue 121).run Tryz.prog w=.ok (.agg zT.toArray) w:=by kernel_rfl
theorem zT_one:∀ v∈zT,v.oneCell'=true:=by
 intro v hv
 unfold zT z33 at hv
 rcases List.mem_append.1 hv with h|h
 ·simp only[List.mem_cons,List.not_mem_nil,or_false] at h
  rcases h with rfl|rfl|rfl|rfl<;>rfl
 ·rw[(List.mem_replicate.1 h).2];rfl
end
end Go.Proofs.YtnfpdihkjkimiaaGreat
