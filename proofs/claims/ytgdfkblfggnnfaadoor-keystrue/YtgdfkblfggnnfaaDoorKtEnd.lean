import Derived.Laws.IdiomCopy
import Derived.BigQuiet
import Derived.Lib.LazyBuf
import Derived.Test.YtgdfkblfggnnfaaDoorTie
import Derived.Test.YtgdfkblfggnnfaaDoorCards
import Derived.ChangeOld
import Derived.ChangeMaps
import Derived.ProofKit
import Derived.LaidMore
import Derived.OpenShut
import Derived.Stop.Joined
import Derived.SevenTiedAt
import Derived.Lib.LaidTab
import Derived.Test.YtgdfkblfggnnfaaDoorKt4
set_option linter.unusedVariables false
set_option linter.unusedSimpArgs false
set_option maxRecDepth 1000000
set_option maxHeartbeats 4000000
namespace Go.Proofs.YtgdfkblfggnnfaaDoor
section
open Go.RowKit Go.Sort Go.Deep
variable {N:Nat}
section
variable {P:Program} {ops:Array Oper} {rest:List Oper} {op:Oper} {a:Act} {w w':World} {v x y z:Value} {Q:Exit→Act→World→Prop}
theorem wpList_lk (hgd:op.guard=none) (T:TypeId) (m k:Operand) (ok:Bool) (ho:op.op=.lookup T m k ok) (hm:a.eval m=x) (hk:a.eval k=y) (hr:(Instr.lookup T x y ok).run P w=.ok v w') (h:wpList P ops Q rest (a.put op.dst v) w'):wpList P ops Q (op :: rest) a w:=
 wpList_plain hgd fun K hK=>by
  unfold Oper.wp execOp
  simp only[ho,hm,hk,Sem.run_bind,hr,Result.andThen_ok,Sem.run_pure]
  exact hK _ _ h
theorem wpList_mu (hgd:op.guard=none) (T:TypeId) (m k u:Operand) (ho:op.op=.mapUpdate T m k u) (hm:a.eval m=x) (hk:a.eval k=y) (hu:a.eval u=z) (hr:(Instr.mapUpdate T x y z).run P w=.ok () w') (h:wpList P ops Q rest (a.put op.dst undef) w'):wpList P ops Q (op :: rest) a w:=
 wpList_plain hgd fun K hK=>by
  unfold Oper.wp execOp
  simp only[ho,hm,hk,hu,Sem.run_bind,hr,Result.andThen_ok,Sem.run_pure]
  exact hK _ _ h
theorem wpList_app (hgd:op.guard=none) (s u:Operand) (t:TypeId) (ho:op.op=.call { callee:=.builtin .append,args:=#[s,u],argTypes:=#[t,t] }) (hs:a.eval s=x) (hu:a.eval u=y) (hr:(Builtin.append_ #[t,t] op.type #[x,y]).run P w=.ok v w') (h:wpList P ops Q rest (a.put op.dst v) w'):wpList P ops Q (op :: rest) a w:=
 wpList_plain hgd fun K hK=>by
  unfold Oper.wp execOp
  simp only[ho,resolve,invoke,builtin,Sem.run_bind,Sem.run_pure,Result.andThen_ok,List.map_toArray,List.map_cons,List.map_nil,hs,hu,hr]
  exact hK _ _ h
end
def zT:List Value:=[.int .u64 0,.int .u64 0,.int .u64 0,.int .u64 0]++z33
theorem owns_form {W:World} {base k:Nat} {e:TypeId} {s:Nat} {v:Value} {xs:List Value} (h:W.ownsRow base e s v k xs):∃ q cap,v=.slice q k cap:=by
 rcases h.2 with ⟨rfl,rfl⟩|⟨g,cap,cur,rfl,-⟩
 ·exact ⟨none,0,rfl⟩
 ·exact ⟨some ⟨g,0,none⟩,cap,rfl⟩
theorem mrg_len (ns:Nat→Nat) (az:Nat→Bs):∀ i,(mrg N ns az i).length≤i
 | 0=>Nat.le_refl _
 | i+1=>by
  have ih:=mrg_len ns az i
  have h:∀ (l:List (Nat × Bs)) n p,(addT N l n p).length≤l.length+1:=by
   intro l n p
   induction l with
   | nil=>exact Nat.le_refl _
   | cons x r ihr =>
    unfold addT
    split
    ·simp
    ·simp only[List.length_cons];omega
  exact Nat.le_trans (h _ _ _) (by omega)
theorem mrg_size (ns:Nat→Nat) (az:Nat→Bs) {k:Nat} (ha:∀ j,j<k→(az j).size=33):∀ i,i≤k→∀ x∈(mrg N ns az i).map (·.2),x.size=33
 | 0,_=>fun x hx=>by cases hx
 | i+1,hi=>by
  have ih:=mrg_size ns az ha i (by omega)
  have h:∀ (l:List (Nat × Bs)) n p,p.size=33→(∀ x∈l.map (·.2),x.size=33)→∀ x∈(addT N l n p).map (·.2),x.size=33:=by
   intro l n p hp
   induction l with
   | nil=>intro _ x hx;simp[addT] at hx;rw[hx];exact hp
   | cons y r ihr =>
    intro hl x hx
    unfold addT at hx
    split at hx
    ·exact hl x (by simpa using hx)
    ·rw[List.map_cons,List.mem_cons] at hx
     rcases hx with hx|hx
     ·exact hl x (by rw[hx];simp)
     ·exact ihr (fun z hz=>hl z (List.mem_cons_of_mem _ hz)) x hx
  exact h _ _ _ (ha i (by omega)) ih
theorem cellsT_at:∀ (l:List (Nat × Bs)),(∀ x∈l.map (·.2),x.size=33)→∀ (j:Nat) (hj:j<l.length) (t:Nat),t<37→(cellsT l)[37*j+t]? = (wn (l[j]).1++bl33 (l[j]).2)[t]?
 | [],_,j,hj,_,_=>by cases hj
 | x :: r,hs,j,hj,t,ht=>by
  have hx:(wn x.1++bl33 x.2).length=37:=by rw[List.length_append,bl33_length (hs x.2 (by simp))];rfl
  have e:cellsT (x :: r)=(wn x.1++bl33 x.2)++cellsT r:=by unfold cellsT;rw[List.flatMap_cons]
  rw[e]
  cases j with
  | zero =>
   rw[Nat.mul_zero,Nat.zero_add,List.getElem?_append_left (by omega)]
   rfl
  | succ j =>
   rw[List.getElem?_append_right (by omega),hx,show 37*(j+1)+t-37=37*j+t by omega,cellsT_at r (fun y hy=>hs y (List.mem_cons_of_mem _ hy)) j (by simpa using hj) t ht]
   rfl
theorem owns_rows {W:World} {base:Nat} {v:Value} {l:List (Nat × Bs)} (h:W.ownsRow base 56 37 v l.length (cellsT l)) (hs:∀ x∈l.map (·.2),x.size=33) (hl:0<l.length) :
 ∃ g cap,v=.slice (some ⟨g,0,none⟩) l.length cap∧base≤g∧g<W.heap.size∧∀ j (hj:j<l.length),W.rangeAt g (37*j) (wn (l[j]).1++bl33 (l[j]).2):=by
 have h0:=h
 rcases h.2 with ⟨-,h2⟩|⟨g,cap,cur,rfl,h1,h2,h3⟩
 ·omega
 ·refine ⟨g,cap,rfl,h1,(Array.getElem?_eq_some_iff.1 h2).1,fun j hj t u hu=>?_⟩
  have ht:t<37:=by
   have:=(List.getElem?_eq_some_iff.1 hu).1
   rw[List.length_append,bl33_length (hs _ (List.mem_map.2 ⟨_,List.getElem_mem hj,rfl⟩))] at this
   exact this
  have hc:=h0.cells (g:=g) rfl (37*j+t) u (by rw[cellsT_at l hs j hj t ht];exact hu)
  have e:(⟨g,0,none⟩:Addr).add (37*j+t)=⟨g,37*j+t,none⟩:=by
   unfold Addr.add
   split
   ·rename_i h;rw[h]
   ·simp
  rw[e] at hc
  exact hc
theorem merged_g (R:Value→World→Prop) (g k c:Nat) (hk:k≤1000) (ns:Nat→Nat) (az:Nat→Bs) (ha:∀ j,j<k→(az j).size=33) (hd:∀ i,i<k→at? (az i) ((mrg N ns az i).map (·.2)) 0=none) (w:World) (hg:g<w.heap.size) (hr:∀ j,j<k→w.rangeAt g (37*j) (wn (ns j)++bl33 (az j)))
 (hdel:∀ W v,Mx w W w.heap.size (mrg N ns az k) v→Calls Tryd.prog 37 #[v,.func (.func 38) #[] #[]] W (Ret R)) :
 Calls Tryd.prog 22 #[.slice (some ⟨g,0,none⟩) k c] w (Ret R):=by
 have HDEL:=Hid.mk' hdel
 clear hdel
 have hmm:(Instr.makeMap 80 none).run Tryd.prog w=.ok (.map (some w.heap.size)) (w.alloc (.map #[] 0)):=by kernel_rfl
 obtain ⟨w1,hw1⟩:∃ w1,Hid (w.alloc (.map #[] 0)=w1):=⟨_,rfl⟩
 rw[hw1.out] at hmm
 have M1:Hid (Mx w w1 w.heap.size (mrg N ns az 0) (.slice none 0 0)):=by
  rw[← hw1.out]
  exact ⟨below1 w _,by show (w.heap.push (.map #[] 0))[w.heap.size]? = _;rw[Array.getElem?_push_size];rfl,Nat.le_refl _,rfl,Or.inl ⟨rfl,rfl⟩⟩
 have HH:Hid (True∧(∀ j,j<k→(az j).size=33)∧(∀ i,i<k→at? (az i) ((mrg N ns az i).map (·.2)) 0=none)∧g<w.heap.size∧∀ j,j<k→w.rangeAt g (37*j) (wn (ns j)++bl33 (az j))):=⟨trivial,ha,hd,hg,hr⟩
 obtain ⟨d,hd1,hd2⟩:=Option.map_eq_some_iff.1 uCP
 obtain ⟨d',hd3,hd4⟩:=Option.map_eq_some_iff.1 uT
 have HD:Hid ((Tryd.prog.underlying 38=some d∧d.isRow=true)∧Tryd.prog.underlying 56=some d'∧d'.isRow=true):=⟨⟨hd1,hd2⟩,hd3,hd4⟩
 clear hd1 hd2 hd3 hd4 hw1 ha hd hg hr
 go_enter Tryd.func22,Tryd.ntmps22
 go_wp2
 clear hmm
 go_loopg [4,12] k (fun q s4 s12 W=>∃ i:Nat,i+q=k∧s12=.int .i64 i∧Hid (Mx w W w.heap.size (mrg N ns az i) s4))
 case atStart=>exact ⟨0,by omega,rfl,M1⟩
 case round =>
  clear M1
  obtain ⟨i,hik,rfl,KM⟩:=hrel
  by_cases hi:i<k
  ·have hi':(i:Int)<(k:Int):=by omega
   obtain ⟨n,hne⟩:∃ n,Hid (ns i=n):=⟨_,rfl⟩
   obtain ⟨p,hpe⟩:∃ p,Hid (az i=p):=⟨_,rfl⟩
   obtain ⟨l,hl⟩:∃ l,Hid (mrg N ns az i=l):=⟨_,rfl⟩
   rw[hl.out] at KM
   have hps:Hid (p.size=33):=by have:=HH.out.2.1 i hi;rw[hpe.out] at this;exact this
   have hll:Hid (l.length≤i):=by have:=mrg_len (N:=N) ns az i;rw[hl.out] at this;exact this
   obtain ⟨q,cap,rfl⟩:=owns_form KM.out.ow
   obtain ⟨W1,hW1⟩:∃ W1,Hid (wr.alloc (.cells zT.toArray 56)=W1):=⟨_,rfl⟩
   obtain ⟨W2,hW2⟩:∃ W2,Hid (W1.setCells wr.heap.size 0 (wn n++bl33 p)=W2):=⟨_,rfl⟩
   have hlen:(wn n++bl33 p).length=37:=by rw[List.length_append,bl33_length hps.out];rfl
   have F1:Hid (Row W1 wr.heap.size zT∧Below wr.heap.size wr W1∧W1.heap.size=wr.heap.size+1):=by rw[← hW1.out];exact ⟨row_new wr _ _,below1 wr _,World.size_alloc _ _⟩
   have F2:Hid (Row W2 wr.heap.size (wn n++bl33 p)∧Below wr.heap.size wr W2∧W2.heap.size=wr.heap.size+1):=by rw[← hW2.out];exact ⟨F1.out.1.put (by rw[hlen];rfl),RG.below_setCells (Nat.le_refl _) _ _ _ F1.out.2.1,by rw[RG.setCells_size];exact F1.out.2.2⟩
   have K2:Hid (Mx w W2 w.heap.size l (.slice q l.length cap)):=KM.out.kept F2.out.2.1
   have hnone:Hid (at? p (l.map (·.2)) 0=none):=by have:=HH.out.2.2.1 i hi;rw[hpe.out,hl.out] at this;exact this
   have hsz:∀ x∈l.map (·.2),x.size=33:=by have:=mrg_size (N:=N) ns az HH.out.2.1 i (by omega);rw[hl.out] at this;exact this
   have B1:=Hid.mk' (look_run hps.out (l.map (·.2)) hsz w.heap.size l.length W2 K2.out.mp)
   rw[hnone.out] at B1
   have B2:Hid ((Instr.mapUpdate 80 (.map (some w.heap.size)) (.agg (bl33 p).toArray) (.int .i64 (l.length:Int))).run Tryd.prog W2=.ok () (W2.putObj w.heap.size (.map (ents (l.map (·.2)++[p]) 0).toArray (l.length+1)))):=by
    have h:=upd_run hps.out (l.map (·.2)) hsz w.heap.size W2 (by rw[List.length_map];exact K2.out.mp) hnone.out
    rw[List.length_map] at h
    exact h
   obtain ⟨v',W5x,happ,K5,lt5,-⟩:=K2.out.push hps.out (by have:=hll.out;omega) n
   obtain ⟨W3,hW3⟩:∃ W3,Hid (W2.putObj w.heap.size (.map (ents (l.map (·.2)++[p]) 0).toArray (l.length+1))=W3):=⟨_,rfl⟩
   have F3:Hid (Row W3 wr.heap.size (wn n++bl33 p)∧W3.heap.size=wr.heap.size+1):=by rw[← hW3.out];exact ⟨F2.out.1.putObj K2.out.mp rfl _,by simp[World.putObj];exact F2.out.2.2⟩
   have B3:=Hid.mk' (bslT hps.out n W3)
   obtain ⟨W4,hW4⟩:∃ W4,Hid (W3.alloc (.cells (wn n++bl33 p).toArray 56)=W4):=⟨_,rfl⟩
   rw[hW3.out] at B2 happ
   rw[hW4.out] at B3 happ
   rw[F3.out.2] at B3
   rw[F2.out.2.2] at happ
   have K5':Hid (Mx w W5x w.heap.size (mrg N ns az (i+1)) v'):=by
    have e:mrg N ns az (i+1)=l++[(n,p)]:=by
     show addT N (mrg N ns az i) (ns i) (az i)=_
     rw[hl.out,hne.out,hpe.out]
     exact addT_new hnone.out
    rw[e];exact K5
   have B0:Hid (wr.rangeAt g (37*i) (wn n++bl33 p)):=by
    have h:=RG.range_below (HH.out.2.2.2.2 i hi) KM.out.bl HH.out.2.2.2.1
    rw[hne.out,hpe.out] at h
    exact h
   have HLT:Hid ((Tryd.prog.info? 56).map (·.size)=some (wn n++bl33 p).length):=by show _=_;rw[hlen];exact iT
   have HLS:Hid ((Tryd.prog.info? 56).map (·.size)=some (wn n++bl33 p).toArray.size∧W1.there wr.heap.size 0 (wn n++bl33 p).toArray.size):=by
    have e:(wn n++bl33 p).toArray.size=37:=by rw[List.size_toArray];exact hlen
    rw[e];exact ⟨iT,F1.out.1.2.2⟩
   have HLP:Hid ((Tryd.prog.info? 38).map (·.size)=some (bl33 p).length):=by show _=_;rw[bl33_length hps.out];exact infoCP
   have HB:Hid (W2.rangeAt wr.heap.size 4 (bl33 p)):=range_back (xs:=wn n) F2.out.1.2.1
   have HAL:Hid ((wn n++bl33 p).toArray.all (·.oneCell')=true):=by
    show _=_
    rw[Array.all_eq_true']
    intro u hu
    exact cells_one n p u (List.mem_toArray.1 hu)
   have hix:=atT g 0 k c i hi
   have HAP:=Hid.mk' happ
   clear happ
   obtain ⟨vt,hvt⟩:∃ v,Hid (Value.agg (wn n++bl33 p).toArray=v):=⟨_,rfl⟩
   obtain ⟨vp,hvp⟩:∃ v,Hid (Value.agg (bl33 p).toArray=v):=⟨_,rfl⟩
   rw[hvp.out] at B1 B2
   rw[hvt.out] at B3
   clear hlen hsz K5 lt5 hW4 hW3 K2 KM
   go_wp2_with (first|(refine wpList_load_mid rfl 56 _ rfl g (37*i) ?_ (wn n++bl33 p) d' ?_ ?_ ?_ ?_ ?_;rfl;exact B0.out;exact HD.out.2.1;exact HD.out.2.2;exact HLT.out;rw[hvt.out])|(refine wpList_op (v:=.pointer (some ⟨wr.heap.size,0,none⟩)) (w':=W1) rfl (.alloc 56) rfl ?_ ?_;(rw[← hW1.out];kernel_rfl))|(refine wpList_store_mid rfl 56 _ _ rfl wr.heap.size 0 (wn n++bl33 p).toArray ?_ ?_ ?_ ?_ ?_ ?_;rfl;exact hvt.out.symm;exact HLS.out.2;exact HLS.out.1;exact HAL.out;rw[show (wn n++bl33 p).toArray.toList=wn n++bl33 p from rfl,hW2.out])|(refine wpList_load_mid rfl 38 _ rfl wr.heap.size 4 ?_ (bl33 p) d ?_ ?_ ?_ ?_ ?_;rfl;exact HB.out;exact HD.out.1.1;exact HD.out.1.2;exact HLP.out;rw[hvp.out])|(refine wpList_lk (x:=.map (some w.heap.size)) (y:=vp) (w':=W2) rfl 80 _ _ true rfl ?_ ?_ B1.out ?_;rfl;rfl)|(refine wpList_mu (x:=.map (some w.heap.size)) (y:=vp) (z:=.int .i64 (l.length:Int)) (w':=W3) rfl 80 _ _ _ rfl ?_ ?_ ?_ B2.out ?_;rfl;rfl;rfl)|(refine wpList_load_mid rfl 56 _ rfl wr.heap.size 0 ?_ (wn n++bl33 p) d' ?_ ?_ ?_ ?_ ?_;rfl;exact F3.out.1.2.1;exact HD.out.2.1;exact HD.out.2.2;exact HLT.out;rw[hvt.out])|(refine wpList_bsl (v:=.slice (some ⟨wr.heap.size+1,0,none⟩) 1 1) (w':=W4) rfl 40 1 _ rfl #[(0,vt)] ?_ B3.out ?_;kernel_rfl)|(refine wpList_app (x:=.slice q l.length cap) (y:=.slice (some ⟨wr.heap.size+1,0,none⟩) 1 1) (v:=v') (w':=W5x) rfl _ _ 40 rfl ?_ ?_ ?_ ?_;rfl;rfl;exact HAP.out))
   go_roundg (gk-1)
   case measure=>omega
   case rel=>exact ⟨i+1,by omega,rfl,K5'⟩
  ·have hi':¬ (i:Int)<(k:Int):=by omega
   obtain rfl:i=k:=by omega
   go_wp2_with fail
   refine (HDEL.out wr _ KM.out).mono ?_
   rintro e w9 ⟨vv,rfl,hR9⟩
   have HR9:=Hid.mk' hR9
   clear hR9 HDEL
   go_wp2
   go_ret
   exact ⟨_,rfl,HR9.out⟩
theorem merged_d (g k c:Nat) (hk:k≤1000) (ns:Nat→Nat) (az:Nat→Bs) (ha:∀ j,j<k→(az j).size=33) (hd:∀ i,i<k→at? (az i) ((mrg N ns az i).map (·.2)) 0=none) (hz:∀ x∈mrg N ns az k,x.1≠0∧x.1<top) (hk0:0<(mrg N ns az k).length) (w:World) (hg:g<w.heap.size) (hr:∀ j,j<k→w.rangeAt g (37*j) (wn (ns j)++bl33 (az j))) :
 Calls Tryd.prog 22 #[.slice (some ⟨g,0,none⟩) k c] w (Ret fun e w'=>Below w.heap.size w w'∧∃ g' cap,e=.slice (some ⟨g',0,none⟩) (mrg N ns az k).length cap∧w.heap.size≤g'∧g'<w'.heap.size∧∀ j (hj:j<(mrg N ns az k).length),w'.rangeAt g' (37*j) (wn ((mrg N ns az k)[j]).1++bl33 ((mrg N ns az k)[j]).2)):=by
 refine merged_g _ g k c hk ns az ha hd w hg hr fun W v hM=>?_
 have hms:=mrg_size (N:=N) ns az ha k (Nat.le_refl _)
 have hml:=mrg_len (N:=N) ns az k
 generalize mrg N ns az k=l at hM hms hml hz hk0 ⊢
 obtain ⟨g',cap,rfl,h1,h2,h3⟩:=owns_rows hM.ow hms hk0
 refine (delete_none g' l.length cap (by omega) (fun j=>((l[j]?).getD (0,#[])).1) (fun j=>((l[j]?).getD (0,#[])).2) (fun j hj=>by rw[List.getElem?_eq_getElem hj];exact (hz _ (List.getElem_mem hj)).2) (fun j hj=>by rw[List.getElem?_eq_getElem hj];exact (hz _ (List.getElem_mem hj)).1) (fun j hj=>by rw[List.getElem?_eq_getElem hj];exact hms _ (List.mem_map.2 ⟨_,List.getElem_mem hj,rfl⟩)) W h2 (fun j hj=>by rw[List.getElem?_eq_getElem hj];exact h3 j hj)).mono ?_
 rintro e w9 ⟨vv,rfl,hb9,rfl⟩
 exact ⟨_,rfl,hM.bl.trans (hb9.mono hM.bl.size),g',cap,rfl,h1,Nat.lt_of_lt_of_le h2 hb9.size,fun j hj=>RG.range_below (h3 j hj) hb9 h2⟩
end
section
open Go.RowKit Go.Sort Go.Deep
variable {P:Nat} [NeZero P] {N:Nat}
theorem zeroTm (w:World):(zeroValue 56).run Tryd.prog w=.ok (.agg zT.toArray) w:=by kernel_rfl
theorem zeroTc:(Builtin.zeroCells (Value.agg zT.toArray).cells 1).toList=zT:=by kernel_rfl
theorem zT_one:∀ v∈zT,v.oneCell'=true:=by
 intro v hv
 unfold zT z33 at hv
 rcases List.mem_append.1 hv with h|h
 ·simp only[List.mem_cons,List.not_mem_nil,or_false] at h
  rcases h with rfl|rfl|rfl|rfl<;>rfl
 ·rw[(List.mem_replicate.1 h).2];rfl
theorem zT_len:zT.length=37:=by kernel_rfl
theorem clearT (g c:Nat) (ty:TypeId) (w:World) (h:w.there g 0 37):(Builtin.clear_ #[40] ty #[.slice (some ⟨g,0,none⟩) 1 c]).run Tryd.prog w=.ok (.tuple #[]) (w.setCells g 0 zT):=by
 have h1:=zeroTm w
 have h2:=zeroTc
 have h3:=run_underlying undS w
 have h4:(storeCells ⟨g,0,none⟩ zT).run Tryd.prog w=.ok () (w.setCells g 0 zT):=by
  have h5:=run_storeCells_cells (P:=Tryd.prog) g 0 zT 0 w (fun j hj=>by rw[zT_len] at hj;have:=(h j hj).1;simpa using this) (fun j hj=>by rw[zT_len] at hj;have:=(h j hj).2;simpa using this) zT_one
  exact h5
 generalize zT=Z at h1 h2 h4 ⊢
 unfold Builtin.clear_
 simp[Sem.run_bind,h3,h1,h2,h4]
theorem delete_zero (g c:Nat) (a:Bs) (ha:a.size=33) (w:World) (hR:Row w g (wn 0++bl33 a)) (hc:1≤c) :
 Calls Tryd.prog 37 #[.slice (some ⟨g,0,none⟩) 1 c,.func (.func 38) #[] #[]] w (Ret fun e w'=>(∀ j,j<w.heap.size→j≠g→w'.heap[j]? = w.heap[j]?)∧w.heap.size≤w'.heap.size∧Below g w w'∧e=.slice (some ⟨g,0,none⟩) 0 c):=by
 have hI:=index_c g 1 c (by decide) (fun _=>0) (fun _=>a) (fun _ _=>by show 0<top;unfold top;omega) (fun _ _=>ha) w hR.1 (fun j hj=>by
  obtain rfl:j=0:=by omega
  exact hR.2.1)
 have hf:firstZ (fun _=>0) 0 1=0:=rfl
 rw[hf] at hI
 have HI:=Hid.mk' hI
 have hlen:(wn 0++bl33 a).length=37:=by rw[List.length_append,bl33_length ha];rfl
 have HR:=Hid.mk' hR
 have hth:Hid (w.there g 0 37):=by have:=hR.2.2;rw[hlen] at this;exact this
 clear hI hf hR hlen
 have hc1:(1:Int)≤(c:Int):=by omega
 have hc0:(0:Int)≤(c:Int):=by omega
 go_enter Tryd.func37,Tryd.ntmps37
 go_wp2_with fail
 refine HI.out.mono ?_
 rintro e w1 ⟨v,rfl,hb1,rfl⟩
 have K1:Hid (Below w.heap.size w w1∧Row w1 g (wn 0++bl33 a)):=⟨hb1,HR.out.below hb1⟩
 have hcl:∀ ty,(Builtin.clear_ #[40] ty #[.slice (some ⟨g,0,none⟩) 1 c]).run Tryd.prog w1=.ok (.tuple #[]) (w1.setCells g 0 zT):=fun ty=>clearT g c ty w1 (by
  have:=K1.out.2.2.2
  rw[List.length_append,bl33_length ha] at this
  exact this)
 clear hb1 HI
 go_wp2
 refine wp_loop_once ?_
 go_wp2
 go_ret
 refine ⟨_,rfl,fun j hj hne=>?_,by rw[RG.setCells_size];exact K1.out.1.size,RG.below_setCells (Nat.le_refl _) _ _ _ (K1.out.1.mono (Nat.le_of_lt HR.out.1)),rfl⟩
 rw[RG.setCells_other _ _ _ _ _ hne]
 exact K1.out.1.block j hj
theorem merged_0 (g c:Nat) (a:Bs) (ha:a.size=33) (w:World) (hg:g<w.heap.size) (hr:w.rangeAt g 0 (wn 0++bl33 a)) :
 Calls Tryd.prog 22 #[.slice (some ⟨g,0,none⟩) 1 c] w (Ret fun e w'=>Below w.heap.size w w'∧∃ q cap,e=.slice q 0 cap):=by
 refine merged_g (N:=2) _ g 1 c (by decide) (fun _=>0) (fun _=>a) (fun _ _=>ha) (fun i hi=>by
  obtain rfl:i=0:=by omega
  rfl) w hg (fun j hj=>by
  obtain rfl:j=0:=by omega
  exact hr) fun W v hM=>?_
 have e1:mrg 2 (fun _=>0) (fun _=>a) 1=[(0,a)]:=rfl
 rw[e1] at hM
 obtain ⟨g',cap,rfl,h1,h2,h3⟩:=owns_rows hM.ow (fun x hx=>by simp at hx;rw[hx];exact ha) (Nat.lt_succ_self 0)
 have h0:=h3 0 (Nat.lt_succ_self 0)
 have hth:W.there g' 0 37:=by
  rcases hM.ow.2 with ⟨h,-⟩|⟨g2,cap2,cur,he,-,hc,hn,-,hs,-⟩
  ·cases h
  ·injection he with he1 he2 he3
   injection he1 with he1
   injection he1 with he1
   subst he1
   intro j hj
   have hj2:0+j<cur.size:=by
    rw[hs]
    have:1≤cap2:=hn
    omega
   refine ⟨?_,?_⟩
   ·simp[World.cell?,hc,hj2]
    omega
   ·simp[World.frozen?,hc]
 have hR:Row W g' (wn 0++bl33 a):=⟨h2,h0,by rw[List.length_append,bl33_length ha];exact hth⟩
 refine (delete_zero g' cap a ha W hR ?_).mono ?_
 ·rcases hM.ow.2 with ⟨h,-⟩|⟨g2,cap2,cur,he,-,hc,hn,-,hs,-⟩
  ·cases h
  ·injection he with he1 he2 he3
   rw[he3];exact hn
 ·rintro e w9 ⟨vv,rfl,hk9,hs9,hb9,rfl⟩
  exact ⟨_,rfl,hM.bl.trans (hb9.mono h1),_,_,rfl⟩
end
namespace RG
open Go Go.RowKit
variable {P:Program} {ops:Array Oper} {Q:Exit→Act→World→Prop} {w:World} {a0:Act} {L:Array Bool}
structure Flow where
 R:Nat→Value→World→Prop
 B:Nat→World→Prop
 E:Nat→World→World→Prop
 kill:Nat→List Nat
 killB:Nat→List Nat
def dstOf (ops:Array Oper) (i:Nat):Option Tmp:=(ops[i]?).bind (·.dst)
def depOn (ops:Array Oper) (x k:Nat):Bool:=match ops[x]? with|some o=>depB o k|none=>true
def okK (ops:Array Oper) (k:Nat) (l:List Nat):Bool:=l.all (fun x=>x == k || depOn ops x k)
def freeF (ops:Array Oper) (k:Nat) (t:Tmp):Bool:=(List.range ops.size).all (fun i=>dstOf ops i != some t || i == k || depOn ops i k)
structure InvF (F:Flow) (ops:Array Oper) (a0:Act) (L:Array Bool) (a:Act) (w:World):Prop where
 size:L.size=ops.size
 cl:∀ (i:Nat) (o:Oper),ops[i]? = some o→on L i=true→∀ e∈o.after,Region.binds .any e=true→on L e.on=true
 def':a.defers=a0.defers
 sz:a.tmps.size=a0.tmps.size
 rest:∀ t:Tmp,(∀ i,on L i=true→dstOf ops i≠some t)→a.tmps[t]? = a0.tmps[t]?
 all:∃ V:Nat→Value,(∀ i d,on L i=true→dstOf ops i=some d→a.tmps[d]? = some (V i))∧(∀ i,on L i=true→(∀ x∈F.kill i,on L x=false)→F.R i (V i) w)
 base:∀ b,(∀ x∈F.killB b,on L x=false)→F.B b w
def CertF (P:Program) (Q:Exit→Act→World→Prop) (F:Flow) (ops:Array Oper) (a0:Act) (k:Nat) (o:Oper):Prop:=
 ∀ (a:Act) (w:World) (K:Act→World→Prop),
  (∀ j d,depB o j=true→okK ops k (F.kill j)=true→dstOf ops j=some d→F.R j (a.eval (.tmp d)) w) →
  (∀ t,freeF ops k t=true→a.eval (.tmp t)=a0.eval (.tmp t)) →
  (∀ b,okK ops k (F.killB b)=true→F.B b w) →
  (∀ v w',F.E k w w'→F.R k v w'→K (a.put o.dst v) w')→o.wp P a w K Q
def CertH (P:Program) (Q:Exit→Act→World→Prop) (F:Flow) (ops:Array Oper) (a0:Act) (k:Nat) (o:Oper):Prop:=
 match o.guard with
 | none=>CertF P Q F ops a0 k o
 | some (j,want)=>depB o j=true∧(dstOf ops j).isSome=true∧okK ops k (F.kill j)=true ∧
  (((∀ v w,F.R j v w→v=.bool want)∧CertF P Q F ops a0 k o)∨((∀ v w,F.R j v w→v=.bool (!want))∧∀ w,F.E k w w∧F.R k undef w))
def chkF (ops:Array Oper) (n:Nat):Bool:=
 (List.range ops.size).all (fun i=>match ops[i]? with
  | some o=>o.after.all (fun e=>!Region.binds .any e || e.on<i) && (match o.dst with|none=>true|some d=>decide (d<n) && (List.range ops.size).all (fun j=>j == i || dstOf ops j != some d))
  | none=>false)
structure RegF (P:Program) (Q:Exit→Act→World→Prop) (F:Flow) (ops:Array Oper) (a0:Act) (m:Nat):Prop where
 chk:chkF ops a0.tmps.size=true
 cert:∀ k o,k<m→ops[k]? = some o→CertH P Q F ops a0 k o
 stab:∀ i j,i<m→j<m→i≠j→(F.kill j).contains i=false→depOn ops j i=false→∀ v w w',F.E i w w'→F.R j v w→F.R j v w'
 stabB:∀ i b,i<m→(F.killB b).contains i=false→∀ w w',F.E i w w'→F.B b w→F.B b w'
variable {F:Flow} {m:Nat}
theorem RegF.of {k:Nat} {o:Oper} (h:RegF P Q F ops a0 m) (ho:ops[k]? = some o):(∀ e∈o.after,Region.binds .any e=true→e.on<k)∧∀ d,o.dst=some d→d<a0.tmps.size∧∀ j,dstOf ops j=some d→j=k:=by
 have hk:k<ops.size:=(Array.getElem?_eq_some_iff.1 ho).1
 have h1:=List.all_eq_true.1 h.chk k (List.mem_range.2 hk)
 rw[ho] at h1
 simp only[Bool.and_eq_true] at h1
 obtain ⟨h2,h3⟩:=h1
 refine ⟨fun e he hb=>?_,fun d hd=>?_⟩
 ·have:=Array.all_eq_true'.1 h2 e he
  simpa[hb] using this
 ·rw[hd] at h3
  simp only[Bool.and_eq_true,decide_eq_true_eq] at h3
  refine ⟨h3.1,fun j hj=>?_⟩
  have hjs:j<ops.size:=by
   unfold dstOf at hj
   cases hx:ops[j]? with
   | none=>rw[hx] at hj;cases hj
   | some x=>exact (Array.getElem?_eq_some_iff.1 hx).1
  have:=List.all_eq_true.1 h3.2 j (List.mem_range.2 hjs)
  simpa[hj] using this
theorem dstOf_some {i:Nat} {o:Oper} (ho:ops[i]? = some o):dstOf ops i=o.dst:=by unfold dstOf;rw[ho];rfl
theorem dep_on {a:Act} {x k:Nat} {o:Oper} (h:InvF F ops a0 L a w) {ho:ops[x]? = some o} (hd:depB o k=true) (hx:on L x=true):on L k=true:=by
 obtain ⟨e,he,hb⟩:=Array.any_eq_true'.1 hd
 simp only[Bool.and_eq_true,beq_iff_eq] at hb
 rw[← hb.2]
 exact h.cl x o ho hx e he hb.1
theorem on_lt {L:Array Bool} {x:Nat} (h:on L x=true):x<L.size:=by
 rcases Nat.lt_or_ge x L.size with h1|h1
 ·exact h1
 ·unfold on at h
  rw[Array.getD_eq_getD_getElem?,Array.getElem?_eq_none h1] at h
  cases h
theorem stepF {k:Nat} {o:Oper} {a:Act} (R:RegF P Q F ops a0 m) (hkm:k<m) (hlt:∀ i,on L i=true→i<m) (ho:ops[k]? = some o) (hun:on L k=false) (hdep:∀ e∈o.after,Region.binds .any e=true→on L e.on=true) (h:InvF F ops a0 L a w) :
 wpOp P ops Q k (InvF F ops a0 (L.setIfInBounds k true)) a w:=by
 obtain ⟨hback,hdst⟩:=R.of ho
 have hks:k<ops.size:=(Array.getElem?_eq_some_iff.1 ho).1
 have hkL:k<L.size:=by rw[h.size];exact hks
 have hdo:dstOf ops k=o.dst:=dstOf_some ho
 have hnot:∀ x,(x == k || depOn ops x k)=true→on L x=false:=fun x hx=>by
  cases hon:on L x with
  | false=>rfl
  | true =>
   rcases Bool.or_eq_true _ _ ▸ hx with h1|h1
   ·rw[show x=k by simpa using h1,hun] at hon;cases hon
   ·unfold depOn at h1
    have hxs:x<ops.size:=by rw[← h.size];exact on_lt hon
    have hox:ops[x]? = some ops[x]:=Array.getElem?_eq_getElem hxs
    rw[hox] at h1
    have:=dep_on (ho:=hox) h h1 hon
    rw[hun] at this;cases this
 obtain ⟨V,hV1,hV2⟩:=h.all
 have hp1:∀ j d,depB o j=true→okK ops k (F.kill j)=true→dstOf ops j=some d→a.tmps[d]? = some (V j)∧F.R j (V j) w:=fun j d hj hok hd=>by
  obtain ⟨e,he,hb⟩:=Array.any_eq_true'.1 hj
  simp only[Bool.and_eq_true,beq_iff_eq] at hb
  have hjon:on L j=true:=by rw[← hb.2];exact hdep e he hb.1
  exact ⟨hV1 j d hjon hd,hV2 j hjon fun x hx=>hnot x (List.all_eq_true.1 hok x hx)⟩
 have hpre1:∀ j d,depB o j=true→okK ops k (F.kill j)=true→dstOf ops j=some d→F.R j (a.eval (.tmp d)) w:=fun j d hj hok hd=>by
  rw[eval_of (hp1 j d hj hok hd).1]
  exact (hp1 j d hj hok hd).2
 have hpre2:∀ t,freeF ops k t=true→a.eval (.tmp t)=a0.eval (.tmp t):=fun t hf=>by
  have h1:=h.rest t fun i hi hd=>by
   have his:i<ops.size:=by rw[← h.size];exact on_lt hi
   have h2:=List.all_eq_true.1 hf i (List.mem_range.2 his)
   rw[hd] at h2
   have h3:(i == k || depOn ops i k)=true:=by simpa using h2
   rw[hnot i h3] at hi;cases hi
  show a.tmps.getD t undef=a0.tmps.getD t undef
  rw[Array.getD_eq_getD_getElem?,Array.getD_eq_getD_getElem?,h1]
 have hpre3:∀ b,okK ops k (F.killB b)=true→F.B b w:=fun b hb=>h.base b fun x hx=>hnot x (List.all_eq_true.1 hb x hx)
 have hpost:∀ v w',F.E k w w'→F.R k v w'→InvF F ops a0 (L.setIfInBounds k true) (a.put o.dst v) w':=fun v w' hE hR=>by
  have hon:∀ x,on (L.setIfInBounds k true) x=(on L x || k == x):=fun x=>on_set hkL
  refine ⟨by rw[Array.size_setIfInBounds];exact h.size,fun i oi hoi hi e he hb=>?_,?_,?_,fun t ht=>?_,⟨fun x=>if x=k then v else V x,fun i d hi hd=>?_,fun i hi hkl=>?_⟩,fun b hb=>?_⟩
  ·rw[hon] at hi ⊢
   by_cases hik:k=i
   ·subst hik
    rw[ho] at hoi
    obtain rfl:=Option.some.inj hoi
    rw[hdep e he hb,Bool.true_or]
   ·rw[h.cl i oi hoi (by simpa[hik] using hi) e he hb,Bool.true_or]
  ·rw[← h.def'];cases o.dst<;>rfl
  ·rw[put_size];exact h.sz
  ·have h1:o.dst≠some t:=fun hd=>ht k (by rw[hon];simp) (by rw[hdo];exact hd)
   rw[put_other a v h1]
   exact h.rest t fun i hi=>ht i (by rw[hon,hi,Bool.true_or])
  ·rw[hon] at hi
   by_cases hik:i=k
   ·subst hik
    rw[hdo] at hd
    rw[hd]
    show (a.tmps.setIfInBounds d v)[d]? = some (if i=i then v else V i)
    rw[if_pos (rfl:i=i)]
    rw[Array.getElem?_setIfInBounds,if_pos rfl,if_pos (by rw[h.sz];exact (hdst d hd).1)]
   ·have hne:o.dst≠some d:=fun hd2=>hik ((hdst d hd2).2 i hd)
    rw[put_other a v hne]
    show _=some (if i=k then v else V i)
    rw[if_neg hik]
    have hik':¬ k=i:=fun e=>hik e.symm
    exact hV1 i d (by simpa[hik'] using hi) hd
  ·rw[hon] at hi
   by_cases hik:i=k
   ·subst hik
    show F.R i (if i=i then v else V i) w'
    rw[if_pos rfl];exact hR
   ·show F.R i (if i=k then v else V i) w'
    rw[if_neg hik]
    have hik':¬ k=i:=fun e=>hik e.symm
    have hi':on L i=true:=by simpa[hik'] using hi
    have h1:∀ x∈F.kill i,on L x=false:=fun x hx=>by
     have:=hkl x hx
     rw[hon,Bool.or_eq_false_iff] at this
     exact this.1
    have h2:(F.kill i).contains k=false:=by
     cases hc:(F.kill i).contains k with
     | false=>rfl
     | true =>
      have:=hkl k (by simpa using hc)
      rw[hon] at this
      simp at this
    have his:i<ops.size:=by rw[← h.size];exact on_lt hi'
    have h3:depOn ops i k=false:=by
     cases hc:depOn ops i k with
     | false=>rfl
     | true=>rw[hnot i (by rw[hc,Bool.or_true])] at hi';cases hi'
    exact R.stab k i hkm (hlt i hi') (Ne.symm hik) h2 h3 _ _ _ hE (hV2 i hi' h1)
  ·have h1:∀ x∈F.killB b,on L x=false:=fun x hx=>by
    have:=hb x hx
    rw[hon,Bool.or_eq_false_iff] at this
    exact this.1
   have h2:(F.killB b).contains k=false:=by
    cases hc:(F.killB b).contains k with
    | false=>rfl
    | true =>
     have:=hb k (by simpa using hc)
     rw[hon] at this
     simp at this
   exact R.stabB k b hkm h2 _ _ hE (h.base b h1)
 have hC:=R.cert k o hkm ho
 unfold CertH at hC
 unfold wpOp
 rw[ho]
 dsimp only
 cases hg:o.guard with
 | none =>
  rw[hg] at hC
  rw[wanted_none hg,if_pos rfl]
  left
  exact hC a w _ hpre1 hpre2 hpre3 hpost
 | some jw =>
  obtain ⟨j,want⟩:=jw
  rw[hg] at hC
  obtain ⟨hd1,hd2,hd3,hcase⟩:=hC
  obtain ⟨d,hd⟩:=Option.isSome_iff_exists.1 hd2
  obtain ⟨hs,hRj⟩:=hp1 j d hd1 hd3 hd
  have hy:∀ b,V j=.bool b→Region.wanted o (yielded ops a.tmps)=(b == want):=fun b hb=>by
   have h4:yielded ops a.tmps j=some b:=by
    unfold dstOf at hd
    unfold yielded
    cases hoj:ops[j]? with
    | none=>rw[hoj] at hd;cases hd
    | some oj =>
     rw[hoj] at hd
     show (match oj.dst.bind (a.tmps[·]?) with|some (.bool b)=>some b|_=>none)=_
     rw[show oj.dst=some d from hd]
     show (match a.tmps[d]? with|some (.bool b)=>some b|_=>none)=_
     rw[hs,hb]
   unfold Region.wanted
   rw[hg]
   show (yielded ops a.tmps j == some want)=_
   rw[h4]
   cases b<;>cases want<;>rfl
  rcases hcase with ⟨hw,hc⟩|⟨hw,hsk⟩
  ·rw[hy _ (hw _ _ hRj),show (want == want)=true by cases want<;>rfl,if_pos rfl]
   left
   exact hc a w _ hpre1 hpre2 hpre3 hpost
  ·rw[hy _ (hw _ _ hRj),show ((!want) == want)=false by cases want<;>rfl]
   exact hpost undef w (hsk w).1 (hsk w).2
def putV (V:Nat→Value):List Oper→Nat→Act→Act
 | [],_,a=>a
 | o :: r,i,a=>putV V r (i+1) (a.put o.dst (V i))
theorem putV_defers (V:Nat→Value):∀ (l:List Oper) (i:Nat) (a:Act),(putV V l i a).defers=a.defers
 | [],_,_=>rfl
 | o :: r,i,a=>by
  rw[putV,putV_defers V r]
  cases o.dst<;>rfl
theorem putV_other (V:Nat→Value):∀ (l:List Oper) (i:Nat) (a:Act) (t:Tmp),(∀ o∈l,o.dst≠some t)→(putV V l i a).tmps[t]? = a.tmps[t]?
 | [],_,_,_,_=>rfl
 | o :: r,i,a,t,h=>by
  rw[putV,putV_other V r _ _ t (fun x hx=>h x (List.mem_cons_of_mem _ hx)),put_other a _ (h o List.mem_cons_self)]
theorem putV_same (V:Nat→Value):∀ (l:List Oper) (i:Nat) (a:Act) (j:Nat) (o:Oper) (d:Tmp),l[j]? = some o→o.dst=some d→(∀ j' o',l[j']? = some o'→o'.dst=some d→j'=j)→d<a.tmps.size→(putV V l i a).tmps[d]? = some (V (i+j))
 | [],_,_,_,_,_,h,_,_,_=>by simp at h
 | x :: r,i,a,0,o,d,h,hd,hu,hs=>by
  obtain rfl:x=o:=by simpa using h
  rw[putV,putV_other V r _ _ d (fun y hy hyd=>by
   obtain ⟨j',hj'⟩:=List.getElem?_of_mem hy
   have:=hu (j'+1) y (by simpa using hj') hyd
   omega),hd]
  show (a.tmps.setIfInBounds d _)[d]? = _
  rw[Array.getElem?_setIfInBounds,if_pos rfl,if_pos hs]
  rfl
 | x :: r,i,a,j+1,o,d,h,hd,hu,hs=>by
  rw[putV,putV_same V r (i+1) _ j o d (by simpa using h) hd (fun j' o' h' hd'=>by
   have:=hu (j'+1) o' (by simpa using h') hd'
   omega) (by rw[put_size];exact hs)]
  congr 2
  omega
theorem InvF.done {a:Act} (R:RegF P Q F ops a0 m) (h:InvF F ops a0 L a w) (hall:∀ i,i<ops.size→on L i=true)
 (hp:∀ (V:Nat→Value),(∀ i,i<ops.size→F.kill i=[]→F.R i (V i) w)→(∀ b,F.killB b=[]→F.B b w)→Q .normal (putV V ops.toList 0 a0) w):Q .normal a w:=by
 obtain ⟨V,hV1,hV2⟩:=h.all
 have e:a=putV V ops.toList 0 a0:=by
  refine Act.ext' ?_ (by rw[putV_defers];exact h.def')
  apply Array.ext_getElem?
  intro t
  by_cases ht:∃ (i:Nat) (o:Oper),ops[i]? = some o∧o.dst=some t
  ·obtain ⟨i,o,ho,hd⟩:=ht
   rw[hV1 i t (hall i (Array.getElem?_eq_some_iff.1 ho).1) (by rw[dstOf_some ho];exact hd)]
   rw[putV_same V ops.toList 0 a0 i o t (by rw[Array.getElem?_toList];exact ho) hd (fun j' o' hj' hd'=>((R.of ho).2 t hd).2 j' (by rw[Array.getElem?_toList] at hj';rw[dstOf_some hj'];exact hd')) ((R.of ho).2 t hd).1,Nat.zero_add]
  ·rw[h.rest t (fun i hi hd=>?_),putV_other V ops.toList 0 a0 t (fun o hm hd=>?_)]
   ·obtain ⟨i,hi⟩:=List.getElem?_of_mem hm
    rw[Array.getElem?_toList] at hi
    exact ht ⟨i,o,hi,hd⟩
   ·unfold dstOf at hd
    cases hx:ops[i]? with
    | none=>rw[hx] at hd;cases hd
    | some x=>rw[hx] at hd;exact ht ⟨i,x,hx,hd⟩
 rw[e]
 exact hp V (fun i hi hk=>hV2 i (hall i hi) (by rw[hk];simp)) (fun b hb=>h.base b (by rw[hb];simp))
theorem InvF.full {a:Act} (R:RegF P Q F ops a0 m) (h:InvF F ops a0 L a w) (hr:Region.ready .any ops L=[]):∀ i,i<ops.size→on L i=true:=by
 intro i
 induction i using Nat.strongRecOn with
 | ind i ih =>
  intro hi
  have ho:ops[i]? = some ops[i]:=Array.getElem?_eq_getElem _
  cases hon:on L i with
  | true=>rfl
  | false =>
   have:i∈Region.ready .any ops L:=mem_ready.2 ⟨?_,_,ho,fun e he hb=>?_⟩
   ·rw[hr] at this;cases this
   ·unfold on at hon
    rw[Array.getD_eq_getD_getElem?,Array.getElem?_eq_getElem (by rw[h.size];exact hi)] at hon ⊢
    exact hon
   ·have hlt:=(R.of ho).1 e he hb
    exact ih e.on hlt (Nat.lt_trans hlt hi)
theorem flow_draws {id:Nat} (F:Flow) (hm:P.follows .mixedOrders=true) (R:RegF P Q F ops a0 ops.size) (hB:∀ b,F.B b w.drew)
 (hp:∀ (V:Nat→Value) (w':World),(∀ i,i<ops.size→F.kill i=[]→F.R i (V i) w')→(∀ b,F.killB b=[]→F.B b w')→Q .normal (putV V ops.toList 0 a0) w'):(Code.region id ops true).wp P Q a0 w:=by
 have key:∀ (fuel:Nat) (L:Array Bool) (a:Act) (w:World),unl L=fuel→InvF F ops a0 L a w→wpAny P .any ops Q fuel L a w:=by
  intro fuel
  induction fuel with
  | zero =>
   intro L a w hu hI
   have hall:∀ i,i<ops.size→on L i=true:=fun i hi=>unl_zero hu i (by rw[hI.size];exact hi)
   refine ⟨?_,hI.done R hall (fun V=>hp V w)⟩
   apply List.eq_nil_iff_forall_not_mem.2
   intro i hi
   obtain ⟨h1,o,ho,-⟩:=mem_ready.1 hi
   have h2:=hall i (Array.getElem?_eq_some_iff.1 ho).1
   unfold on at h2
   rw[Array.getD_eq_getD_getElem?] at h1 h2
   cases hh:L[i]? with
   | none=>rw[hh] at h1;cases h1
   | some b=>rw[hh] at h1 h2;rw[show b=false from h1] at h2;cases h2
  | succ fuel ih =>
   intro L a w hu hI
   refine ⟨fun hr=>hI.done R (hI.full R hr) (fun V=>hp V w),fun i hi=>?_⟩
   obtain ⟨h1,o,ho,hdep⟩:=mem_ready.1 hi
   have hoff:on L i=false:=by
    unfold on
    rw[Array.getD_eq_getD_getElem?] at h1 ⊢
    cases hh:L[i]? with
    | none=>rfl
    | some b=>rw[hh] at h1;exact h1
   exact wpOp_mono (fun a' w' hI'=>ih _ a' w' (by have:=unl_set h1;omega) hI') (stepF R (Array.getElem?_eq_some_iff.1 ho).1 (fun i hi=>by rw[← hI.size];exact on_lt hi) ho hoff hdep hI)
 have hoff:∀ i,on (Array.replicate ops.size false) i=false:=fun i=>by
  unfold on
  rw[Array.getD_eq_getD_getElem?,Array.getElem?_replicate]
  by_cases h:i<ops.size
  ·rw[if_pos h];rfl
  ·rw[if_neg h];rfl
 refine wp_region_any hm (key _ _ a0 _ ?_ ⟨Array.size_replicate,(fun i o _ h=>by rw[hoff] at h;cases h),rfl,rfl,fun _ _=>rfl,⟨fun _=>undef,fun i d h=>(by rw[hoff] at h;cases h),fun i h=>(by rw[hoff] at h;cases h)⟩,fun b _=>hB b⟩)
 unfold unl
 rw[Array.toList_replicate,List.countP_replicate]
 simp
structure PreF (F:Flow) (ops:Array Oper) (a0:Act) (k:Nat) (o:Oper) (a:Act) (w:World):Prop where
 n:∀ j d,depB o j=true→okK ops k (F.kill j)=true→dstOf ops j=some d→F.R j (a.eval (.tmp d)) w
 o:∀ t,freeF ops k t=true→a.eval (.tmp t)=a0.eval (.tmp t)
 b:∀ b,okK ops k (F.killB b)=true→F.B b w
def CertsF (P:Program) (Q:Exit→Act→World→Prop) (F:Flow) (ops:Array Oper) (a0:Act):Nat→List Oper→Prop
 | _,[]=>True
 | k,o :: r=>CertH P Q F ops a0 k o∧CertsF P Q F ops a0 (k+1) r
theorem certs_go:∀ (l:List Oper) (i:Nat),CertsF P Q F ops a0 i l→∀ k o,l[k]? = some o→CertH P Q F ops a0 (i+k) o
 | [],_,_,k,o,h=>by simp at h
 | x :: r,i,hc,0,o,h=>by
  obtain rfl:x=o:=by simpa using h
  exact hc.1
 | x :: r,i,hc,k+1,o,h=>by
  have:=certs_go r (i+1) hc.2 k o (by simpa using h)
  rwa[show i+1+k=i+(k+1) by omega] at this
theorem certs_of (h:CertsF P Q F ops a0 0 ops.toList):∀ k o,k<ops.size→ops[k]? = some o→CertH P Q F ops a0 k o:=fun k o _ ho=>by
 have:=certs_go ops.toList 0 h k o (by rw[Array.getElem?_toList];exact ho)
 rwa[Nat.zero_add] at this
def evo (ev:Tmp→Value):Operand→Value
 | .tmp t=>ev t
 | .const v=>v
 | .global g=>.pointer (some ⟨g,0,none⟩)
 | .func f=>.func (.func f) #[] #[]
def seenT (T:List Tmp) (o:Oper):Bool:=
 (match o.op with | .select _ _=>false|_=>true) && o.op.operands.all (fun x=>match x with | .tmp t=>T.contains t|_=>true)
theorem exec_ev {a:Act} {o:Oper} (ev:Tmp→Value) (T:List Tmp) (h:seenT T o=true) (he:∀ t∈T,a.eval (.tmp t)=ev t):execOp a.eval o=execOp (evo ev) o:=by
 simp only[seenT,Bool.and_eq_true] at h
 refine execOp_congr o (fun cs b he=>?_) (fun x hx=>?_)
 ·rw[he] at h;exact absurd h.1 (by simp)
 ·have h1:=Array.all_eq_true'.1 h.2 x hx
  cases x with
  | tmp t=>exact he t (by simpa using h1)
  | const v=>rfl
  | global g=>rfl
  | func f=>rfl
theorem cf_val {k:Nat} {o:Oper} (h:∀ (a:Act) (w:World),PreF F ops a0 k o a w→∃ v w',(execOp a.eval o).run P w=.ok (.value v) w'∧F.E k w w'∧F.R k v w'):CertF P Q F ops a0 k o:=by
 intro a w K h1 h2 h3 hK
 obtain ⟨v,w',hr,hE,hR⟩:=h a w ⟨h1,h2,h3⟩
 unfold Oper.wp
 rw[hr]
 exact hK v w' hE hR
theorem cf_one {k:Nat} {o:Oper} (t:Tmp) (h:∀ (a:Act) (w:World),PreF F ops a0 k o a w→∃ v w',(seenT [t] o=true)∧(execOp (evo fun _=>a.eval (.tmp t)) o).run P w=.ok (.value v) w'∧F.E k w w'∧F.R k v w'):CertF P Q F ops a0 k o:=by
 refine cf_val fun a w hp=>?_
 obtain ⟨v,w',hs,hr,hE⟩:=h a w hp
 refine ⟨v,w',?_,hE⟩
 rw[exec_ev (fun _=>a.eval (.tmp t)) [t] hs (fun x hx=>by rw[show x=t by simpa using hx])]
 exact hr
theorem cf_call {k:Nat} {o:Oper} (t:Tmp) (h:∀ (a:Act) (w:World),PreF F ops a0 k o a w→∃ f args,(seenT [t] o=true)∧(execOp (evo fun _=>a.eval (.tmp t)) o).run P w=.ok (.enter f args) w∧Calls P f args w (Ret fun e w'=>F.E k w w'∧F.R k e w')):CertF P Q F ops a0 k o:=by
 intro a w K h1 h2 h3 hK
 obtain ⟨f,args,hs,hr,hc⟩:=h a w ⟨h1,h2,h3⟩
 unfold Oper.wp
 rw[exec_ev (fun _=>a.eval (.tmp t)) [t] hs (fun x hx=>by rw[show x=t by simpa using hx]),hr,Oper.upon_enter]
 refine hc.mono ?_
 rintro e w' ⟨v,rfl,hE,hR⟩
 exact hK _ _ hE hR
theorem cf_load {k:Nat} {o:Oper} (T:TypeId) (t:Tmp) (ho:o.op=.load T (.tmp t)) (hu:(P.underlying T).map (·.isRow)=some true)
 (h:∀ (a:Act) (w:World),PreF F ops a0 k o a w→∃ g off cs,a.eval (.tmp t)=.pointer (some ⟨g,off,none⟩)∧w.rangeAt g off cs∧(P.info? T).map (·.size)=some cs.length∧F.E k w w∧F.R k (.agg cs.toArray) w):CertF P Q F ops a0 k o:=by
 intro a w K h1 h2 h3 hK
 obtain ⟨g,off,cs,he,hr,hi,hE,hR⟩:=h a w ⟨h1,h2,h3⟩
 obtain ⟨d,hu,hd⟩:=Option.map_eq_some_iff.1 hu
 exact wp_load_mid T (.tmp t) ho g off he cs d hr hu hd hi (hK _ _ hE hR)
theorem cf_app {k:Nat} {o:Oper} (s u:Tmp) (t:TypeId) (ho:o.op=.call { callee:=.builtin .append,args:=#[.tmp s,.tmp u],argTypes:=#[t,t] })
 (h:∀ (a:Act) (w:World),PreF F ops a0 k o a w→∃ v w',(Builtin.append_ #[t,t] o.type #[a.eval (.tmp s),a.eval (.tmp u)]).run P w=.ok v w'∧F.E k w w'∧F.R k v w'):CertF P Q F ops a0 k o:=by
 intro a w K h1 h2 h3 hK
 obtain ⟨v,w',hr,hE,hR⟩:=h a w ⟨h1,h2,h3⟩
 unfold Oper.wp execOp
 simp only[ho,resolve,invoke,builtin,Sem.run_bind,Sem.run_pure,Result.andThen_ok,List.map_toArray,List.map_cons,List.map_nil,hr]
 exact hK _ _ hE hR
end RG
section
open Go.RowKit Go.Sort Go.Deep
variable {P:Nat} [NeZero P] {N:Nat}
theorem u8_ne {p:Option Addr} {n c:Nat} {x:UInt8}:encB x≠.slice p n c:=fun h=>by cases h
def El (n:Nat) (W:World) (x:Value) (b:Bs):Prop:=∃ k c,x=.slice (some ⟨k,0,none⟩) n c∧n≤c∧b.size=n∧k<W.heap.size∧Holds encB W k 0 b
def isL (n:Nat) (W:World) (g:Nat):Prop:=∃ p c,W.cell? ⟨g,0,none⟩=some (.slice p n c)
structure Gr (n:Nat) (v:Value) (W W':World):Prop where
 gr:W.grownBy W' v.ownBlock
 is:∀ g,v.ownBlock=some g→isL n W g
theorem Gr.of {W W':World} {n:Nat} (h:Below W.heap.size W W'):Gr n (.slice none 0 0) W W':=
 ⟨⟨h.os,h.tape,h.output,h.size,fun k hk _=>h.block k hk⟩,fun g hg=>by cases hg⟩
theorem Gr.below {n:Nat} {v:Value} {w W W':World} {B:Nat} (h:Gr n v W W') (hb:Below B w W) (hB:B≤W.heap.size) (hv:∀ g,v.ownBlock=some g→B≤g):Below B w W':=
 hb.grown h.gr hB (fun k hk=>hv k hk)
theorem Gr.block {n k:Nat} {v:Value} {W W':World} (h:Gr n v W W') (hk:k<W.heap.size) (hne:∀ p c,W.cell? ⟨k,0,none⟩≠some (.slice p n c)):W'.heap[k]? = W.heap[k]? :=
 h.gr.block k hk fun e=>by
  obtain ⟨p,c,hc⟩:=h.is k e.symm
  exact hne p c hc
theorem Holds.kept {W W':World} {k:Nat} {b:Bs} (h:Holds encB W k 0 b) (e:W'.heap[k]? = W.heap[k]?):Holds encB W' k 0 b:=fun j hj=>by
 rw[World.cell?_of_block (a:=⟨k,0+j,none⟩) e,World.frozen?_of_block (a:=⟨k,0+j,none⟩) e]
 exact h j hj
theorem El.kept {m n:Nat} {v x:Value} {W W':World} {b:Bs} (h:El m W x b) (hm:0<m) (hg:Gr n v W W'):El m W' x b:=by
 obtain ⟨k,c,rfl,h1,h2,h3,h4⟩:=h
 refine ⟨k,c,rfl,h1,h2,Nat.lt_of_lt_of_le h3 hg.gr.size,Holds.kept h4 (hg.block h3 fun p c' hc=>?_)⟩
 have:=(h4 0 (by omega)).1
 rw[Nat.zero_add,hc] at this
 exact u8_ne (Option.some.inj this).symm
theorem Row.kept {n k:Nat} {v:Value} {W W':World} {vs:List Value} (h:Row W k vs) (hg:Gr n v W W') (hne:∀ p c,vs[0]?≠some (.slice p n c)) (hl:0<vs.length):Row W' k vs:=by
 have e:=hg.block h.1 fun p c hc=>by
  have h0:=h.2.1 0 vs[0] (List.getElem?_eq_getElem hl)
  rw[Nat.zero_add,hc] at h0
  exact hne p c (by rw[List.getElem?_eq_getElem hl,h0])
 refine ⟨Nat.lt_of_lt_of_le h.1 hg.gr.size,fun j u hj=>?_,fun j hj=>?_⟩
 ·rw[World.cell?_of_block (a:=⟨k,0+j,none⟩) e];exact h.2.1 j u hj
 ·rw[World.cell?_of_block (a:=⟨k,0+j,none⟩) e,World.frozen?_of_block (a:=⟨k,0+j,none⟩) e];exact h.2.2 j hj
structure Lo (n base:Nat) (W:World) (v:Value) (bs:List Bs):Prop where
 ex:∃ xs:List Value,xs.length=bs.length∧W.ownsRow base 23 1 v bs.length xs∧∀ (j:Nat) (x:Value) (b:Bs),xs[j]? = some x→bs[j]? = some b→El n W x b
 nil:bs=[]→v=.slice none 0 0
theorem Lo.begin (n base:Nat) (W:World):Lo n base W (.slice none 0 0) []:=⟨⟨[],rfl,World.ownsRow_nil _ _ _ _,fun j x b h=>by cases h⟩,fun _=>rfl⟩
theorem add0 (g j:Nat):(⟨g,0,none⟩:Addr).add j=⟨g,j,none⟩:=by unfold Addr.add;split<;>simp_all
theorem Lo.isL {n base:Nat} {W:World} {v:Value} {bs:List Bs} (h:Lo n base W v bs) {g:Nat} (hg:v.ownBlock=some g):isL n W g:=by
 obtain ⟨xs,h1,h2,h3⟩:=h.ex
 have hne:bs≠[]:=fun e=>by rw[h.nil e] at hg;cases hg
 cases bs with
 | nil=>exact absurd rfl hne
 | cons b r =>
  cases xs with
  | nil=>cases h1
  | cons x xr =>
   obtain ⟨k,c,rfl,-⟩:=h3 0 x b rfl rfl
   have:=h2.cells hg 0 _ rfl
   rw[add0] at this
   exact ⟨_,_,this⟩
theorem Lo.lt {n base:Nat} {W:World} {v:Value} {bs:List Bs} (h:Lo n base W v bs):∀ g,v.ownBlock=some g→base≤g∧g<W.heap.size:=by
 obtain ⟨xs,h1,h2,h3⟩:=h.ex
 exact h2.lt
theorem Lo.kept {m n base:Nat} {W W':World} {v v':Value} {bs:List Bs} (h:Lo m base W v bs) (hm:0<m) (hg:Gr n v' W W') (hne:m≠n):Lo m base W' v bs:=by
 have hL:=fun {g}=>h.isL (g:=g)
 obtain ⟨xs,h1,h2,h3⟩:=h.ex
 refine ⟨⟨xs,h1,h2.kept hg.gr ?_,fun j x b hx hb=>(h3 j x b hx hb).kept hm hg⟩,h.nil⟩
 cases hv:v.ownBlock with
 | none=>exact Or.inl rfl
 | some g =>
  refine Or.inr fun e=>hne ?_
  obtain ⟨p,c,hc⟩:=hL hv
  obtain ⟨p',c',hc'⟩:=hg.is g e.symm
  rw[hc] at hc'
  injection hc' with hc'
  injection hc' with _ h5 _
theorem infoB:(Tryd.prog.info? 23).map (fun i=>(i.size,i.bytes,i.zero.map fun z=>z.cells.size))=some (1,24,some 1):=by kernel_rfl
theorem undB:Tryd.prog.underlying 24=some (.slice 23):=by kernel_rfl
theorem Lo.app {n base g:Nat} {W:World} {v x:Value} {bs:List Bs} {b:Bs} (h:Lo n base W v bs) (hn:0<n) (hx:El n W x b) (hc:W.cell? ⟨g,0,none⟩=some x) (hk:bs.length≤1000000) (hb:base≤W.heap.size) :
 ∃ v' W',(Builtin.append_ #[24,24] 24 #[v,.slice (some ⟨g,0,none⟩) 1 1]).run Tryd.prog W=.ok v' W'∧Lo n base W' v' (bs++[b])∧Gr n v W W':=by
 obtain ⟨i,hi,he⟩:=Option.map_eq_some_iff.1 infoB
 simp only[Prod.mk.injEq] at he
 obtain ⟨h1,h2,h3⟩:=he
 obtain ⟨z,hz,hz2⟩:=Option.map_eq_some_iff.1 h3
 obtain ⟨xs,x1,x2,x3⟩:=h.ex
 obtain ⟨v',W',r1,r2,r3,r4⟩:=run_append_own (P:=Tryd.prog) W base 24 24 23 i z 1 24 undB hi hz h1 h2 hz2 (by decide) v bs.length xs x2 ⟨g,0,none⟩ 1 1 [x] rfl
  (fun j u hj=>by
   cases j with
   | zero =>
    obtain rfl:x=u:=by simpa using hj
    rw[add0];exact hc
   | succ j=>simp at hj) (fun u hu=>by
   obtain rfl:u=x:=by simpa using hu
   obtain ⟨k,c,rfl,-⟩:=hx
   rfl) (by unfold maxLen;omega) (by omega) hb
 have G:Gr n v W W':=⟨r3,fun g hg=>h.isL hg⟩
 refine ⟨v',W',r1,⟨⟨xs++[x],by simp[x1],by rw[List.length_append];exact r2,fun j y c hy hcy=>?_⟩,fun e=>by simp at e⟩,G⟩
 by_cases hj:j<bs.length
 ·rw[List.getElem?_append_left (by omega)] at hy hcy
  exact (x3 j y c hy hcy).kept hn G
 ·rw[List.getElem?_append_right (by omega)] at hy hcy
  rw[x1] at hy
  cases hjj:j-bs.length with
  | zero =>
   rw[hjj] at hy hcy
   obtain rfl:x=y:=by simpa using hy
   obtain rfl:b=c:=by simpa using hcy
   exact hx.kept hn G
  | succ d=>rw[hjj] at hy;simp at hy
theorem ptBytes_c {a:Bs} (ha:a.size=33) (w:World):Calls Tryd.prog 13 #[pvl a] w (Ret fun e w'=>Below w.heap.size w w'∧El 33 w' e a):=by
 have B1:=Hid.mk' (boxCP ha w)
 obtain ⟨w1,hw1⟩:∃ w1,Hid (w.alloc (.cells (bl33 a).toArray 38)=w1):=⟨_,rfl⟩
 rw[hw1.out] at B1
 have K:Hid (Row w1 w.heap.size (bl33 a)∧Below w.heap.size w w1):=by rw[← hw1.out];exact ⟨row_new w _ _,below1 w _⟩
 obtain ⟨va,hva⟩:∃ v,Hid (pvl a=v):=⟨_,rfl⟩
 have B1':Hid ((Instr.box 38 va).run Tryd.prog w=.ok (.pointer (some ⟨w.heap.size,0,none⟩)) w1):=by rw[← hva.out];exact B1
 rw[hva.out]
 have hs:=slCP w.heap.size
 clear B1 hw1
 go_enter Tryd.func13,Tryd.ntmps13
 go_wp2_with (first|(refine wpList_box (u:=va) (v:=.pointer (some ⟨w.heap.size,0,none⟩)) (w':=w1) rfl 38 (.tmp 0) rfl ?_ ?_ ?_;rfl;exact B1'.out))
 go_ret
 exact ⟨_,rfl,K.out.2,w.heap.size,33,rfl,by omega,ha,K.out.1.1,row_holds K.out.1⟩
end
section
open Go.RowKit Go.Sort Go.Deep
variable {P:Nat} [NeZero P] {N:Nat}
def Bo (n B0:Nat) (W:World) (v:Value) (b:Bs):Prop:=∃ k x,v=.slice (some ⟨k,0,none⟩) 1 1∧B0≤k∧k<W.heap.size∧W.cell? ⟨k,0,none⟩=some x∧El n W x b
theorem Bo.kept {m n B0:Nat} {W W':World} {v u:Value} {b:Bs} (h:Bo n B0 W v b) (hn:0<n) (hg:Gr m u W W') (hu:∀ g,u.ownBlock=some g→g<B0):Bo n B0 W' v b:=by
 obtain ⟨k,x,rfl,h1,h2,h3,h4⟩:=h
 refine ⟨k,x,rfl,h1,Nat.lt_of_lt_of_le h2 hg.gr.size,?_,h4.kept hn hg⟩
 rw[World.cell?_of_block (a:=⟨k,0,none⟩) (hg.gr.block k h2 fun e=>by have:=hu k e.symm;omega)]
 exact h3
def Tm (W:World) (q:Option Addr) (k:Nat) (ns:Nat→Nat) (az:Nat→Bs):Prop:=0<k→∃ g,q=some ⟨g,0,none⟩∧g<W.heap.size∧∀ j,j<k→W.rangeAt g (37*j) (wn (ns j)++bl33 (az j))
theorem Tm.kept {m k:Nat} {W W':World} {u:Value} {q:Option Addr} {ns:Nat→Nat} {az:Nat→Bs} (h:Tm W q k ns az) (hg:Gr m u W W'):Tm W' q k ns az:=fun hk=>by
 obtain ⟨g,h1,h2,h3⟩:=h hk
 refine ⟨g,h1,Nat.lt_of_lt_of_le h2 hg.gr.size,fun j hj i v hv=>?_⟩
 have e:=hg.block h2 fun p c hc=>by
  have h0:=h3 0 hk 0 _ (show (wn (ns 0)++bl33 (az 0))[0]? = some _ from rfl)
  rw[show 37*0+0=0 from rfl,hc] at h0
  cases h0
 rw[World.cell?_of_block (a:=⟨g,37*j+i,none⟩) e]
 exact h3 j hj i v hv
section
variable (w0:World) (v3 v4:Value) (k6 n B0 base:Nat) (p:Bs) (bs cs:List Bs) (q:Option Addr) (k:Nat) (ns:Nat→Nat) (az:Nat→Bs)
def PR:Nat→Value→World→Prop
 | 0,v,_=>v=v3
 | 1,v,_=>v=.pointer (some ⟨k6,0,none⟩)
 | 2,v,_=>v=nv n
 | 3,v,w=>El 32 w v (bx n)
 | 4,v,w=>Bo 32 B0 w v (bx n)
 | 5,v,w=>Lo 32 base w v (bs++[bx n])
 | 6,v,_=>v=v4
 | 7,v,_=>v=.pointer (some ⟨k6,4,none⟩)
 | 8,v,_=>v=pvl p
 | 9,v,w=>El 33 w v p
 | 10,v,w=>Bo 33 B0 w v p
 | 11,v,w=>Lo 33 base w v (cs++[p])
 | 12,v,w=>Lo 32 base w v (bs++[bx n])
 | 13,v,w=>Lo 33 base w v (cs++[p])
 | _,_,_=>True
def PBs:Nat→World→Prop
 | 0,w=>Row w k6 (wn n++bl33 p)
 | 1,w=>Lo 32 base w v3 bs
 | 2,w=>Lo 33 base w v4 cs
 | 3,w=>Below base w0 w∧base≤w.heap.size∧B0≤w.heap.size
 | 4,w=>Tm w q k ns az
 | 5,w=>Row w base z33
 | _,_=>True
def PE:Nat→World→World→Prop
 | 5=>Gr 32 v3
 | 11=>Gr 33 v4
 | _=>Gr 0 (.slice none 0 0)
def Pk1:Nat→List Nat
 | 4=>[5]
 | 10=>[11]
 | _=>[]
def Pk2:Nat→List Nat
 | 1=>[5]
 | 2=>[11]
 | _=>[]
def FP:RG.Flow:=⟨PR v3 v4 k6 n B0 base p bs cs,PBs w0 v3 v4 k6 n B0 base p bs cs q k ns az,PE v3 v4,Pk1,Pk2⟩
theorem PE_any {i:Nat} {w w':World} (h:PE v3 v4 i w w'):∃ m u,Gr m u w w'∧((i=5∧m=32∧u=v3)∨(i=11∧m=33∧u=v4)∨(i≠5∧i≠11∧m=0∧u=.slice none 0 0)):=by
 unfold PE at h
 split at h
 ·exact ⟨_,_,h,Or.inl ⟨rfl,rfl,rfl⟩⟩
 ·exact ⟨_,_,h,Or.inr (Or.inl ⟨rfl,rfl,rfl⟩)⟩
 ·rename_i h1 h2
  exact ⟨_,_,h,Or.inr (Or.inr ⟨h1,h2,rfl,rfl⟩)⟩
variable (hv3:∀ g,v3.ownBlock=some g→base≤g∧g<B0) (hv4:∀ g,v4.ownBlock=some g→base≤g∧g<B0)
include hv3 hv4
theorem PE_own {i m:Nat} {u:Value} (h:(i=5∧m=32∧u=v3)∨(i=11∧m=33∧u=v4)∨(i≠5∧i≠11∧m=0∧u=.slice none 0 0)):∀ g,u.ownBlock=some g→base≤g∧g<B0:=by
 rcases h with ⟨-,-,rfl⟩|⟨-,-,rfl⟩|⟨-,-,-,rfl⟩
 ·exact hv3
 ·exact hv4
 ·intro g hg;cases hg
theorem P_stab (i j:Nat) (hj:j<14) (hij:i≠j) (hk:(Pk1 j).contains i=false) (h1:¬ (j=12∧i=5)) (h2:¬ (j=13∧i=11)) (v:Value) (w w':World) (hE:PE v3 v4 i w w') (hR:PR v3 v4 k6 n B0 base p bs cs j v w):PR v3 v4 k6 n B0 base p bs cs j v w':=by
 obtain ⟨m,u,hg,hc⟩:=PE_any v3 v4 hE
 have hu:=PE_own v3 v4 B0 base hv3 hv4 hc
 have m32:m=32→i=5:=fun h=>by rcases hc with ⟨h1,-⟩|⟨-,h2,-⟩|⟨-,-,h2,-⟩<;>omega
 have m33:m=33→i=11:=fun h=>by rcases hc with ⟨-,h2,-⟩|⟨h1,-⟩|⟨-,-,h2,-⟩<;>omega
 match j,hj,hR with
 | 0,_,h=>exact h
 | 1,_,h=>exact h
 | 2,_,h=>exact h
 | 3,_,h=>exact El.kept h (by decide) hg
 | 4,_,h=>exact Bo.kept h (by decide) hg fun g hgg=>(hu g hgg).2
 | 5,_,h=>exact Lo.kept h (by decide) hg fun e=>hij (m32 e.symm)
 | 6,_,h=>exact h
 | 7,_,h=>exact h
 | 8,_,h=>exact h
 | 9,_,h=>exact El.kept h (by decide) hg
 | 10,_,h=>exact Bo.kept h (by decide) hg fun g hgg=>(hu g hgg).2
 | 11,_,h=>exact Lo.kept h (by decide) hg fun e=>hij (m33 e.symm)
 | 12,_,h=>exact Lo.kept h (by decide) hg fun e=>h1 ⟨rfl,m32 e.symm⟩
 | 13,_,h=>exact Lo.kept h (by decide) hg fun e=>h2 ⟨rfl,m33 e.symm⟩
 | _+14,hj,_=>omega
theorem P_stabB (i b:Nat) (hk:(Pk2 b).contains i=false) (w w':World) (hE:PE v3 v4 i w w') (hR:PBs w0 v3 v4 k6 n B0 base p bs cs q k ns az b w):PBs w0 v3 v4 k6 n B0 base p bs cs q k ns az b w':=by
 obtain ⟨m,u,hg,hc⟩:=PE_any v3 v4 hE
 have hu:=PE_own v3 v4 B0 base hv3 hv4 hc
 have m32:m=32→i=5:=fun h=>by rcases hc with ⟨h1,-⟩|⟨-,h2,-⟩|⟨-,-,h2,-⟩<;>omega
 have m33:m=33→i=11:=fun h=>by rcases hc with ⟨-,h2,-⟩|⟨h1,-⟩|⟨-,-,h2,-⟩<;>omega
 match b,hk,hR with
 | 0,_,h=>exact Row.kept h hg (fun p c e=>by cases e) (by rw[List.length_append];exact Nat.lt_of_lt_of_le (by decide) (Nat.le_add_right 4 _))
 | 1,hk,h=>exact Lo.kept h (by decide) hg fun e=>by rw[m32 e.symm] at hk;cases hk
 | 2,hk,h=>exact Lo.kept h (by decide) hg fun e=>by rw[m33 e.symm] at hk;cases hk
 | 3,_,h=>exact ⟨hg.below h.1 h.2.1 fun g hgg=>(hu g hgg).1,Nat.le_trans h.2.1 hg.gr.size,Nat.le_trans h.2.2 hg.gr.size⟩
 | 4,_,h=>exact Tm.kept h hg
 | 5,_,h=>exact Row.kept h hg (fun p c e=>by cases e) (by decide)
 | _+6,_,_=>trivial
end
end
section
open Go.RowKit Go.Sort Go.Deep
variable {P:Nat} [NeZero P] {N:Nat}
theorem Lo.drew {n base:Nat} {W:World} {v:Value} {bs:List Bs} (h:Lo n base W v bs):Lo n base W.drew v bs:=⟨h.ex,h.nil⟩
theorem SumR.all (C:Fld P) (O:Ord N) {w w':World} {k:Nat} (hk:k≤512) {ns:Nat→Nat} {X:Nat→EC.Pt P} (hn:∀ j,j<k→ns j<N) (hX:∀ j,j<k→EC.On (X j)) {L M:Nat→Bs} (hL:∀ j,j<k→L j=bx (ns j)) (hM:∀ j,j<k→M j=wr (X j)) {e:Value} (h:SumR P N w k k L M e w') :
 OutP w (wr (EC.tot X k (fun j=>(ns j:Int)))) e w':=by
 have hq:∀ j,j<k→rq N (L j)=some (ns j):=fun j hj=>by
  rw[hL j hj]
  have hb:beV (bx (ns j)).toList=ns j:=bx_val (Nat.lt_of_lt_of_le (hn j hj) O.le)
  unfold rq
  rw[if_pos ⟨bx_size _,by rw[hb];exact hn j hj⟩,hb]
 have hr:∀ j,j<k→∃ p,rd P (M j)=some p∧pt p=X j:=fun j hj=>by rw[hM j hj];exact rd_wr C (hX j hj)
 rcases h with ⟨h,-⟩|⟨-,h,-⟩|⟨-,-,⟨⟨j,hj,hn'⟩,-⟩|⟨ns',hns,⟨⟨j,hj,hn'⟩,-⟩|⟨xs,ys,hxy,h⟩⟩⟩
 ·exact absurd rfl h
 ·omega
 ·rw[hq j hj] at hn';cases hn'
 ·obtain ⟨p,hp,-⟩:=hr j hj
  rw[hp] at hn';cases hn'
 ·have e1:∀ j,j<k→ns' j=ns j:=fun j hj=>by
   have:=hns j hj
   rw[hq j hj] at this
   exact (Option.some.inj this).symm
  have hp:∀ j,j<k→EC.Pair (xs j) (ys j) (X j)∧EC.On (X j):=fun j hj=>by
   obtain ⟨p,hp,hpt⟩:=hr j hj
   have h1:=hxy j hj
   rw[hp] at h1
   have h2:=Option.some.inj h1
   have h3:=rd_on C hp
   rw[hpt] at h3
   rw[h2] at h3
   exact h3
  have hJ:=sumJ_all C (ns:=ns') (xs:=xs) (ys:=ys) (p:=X) (N:=k) (fun i hi=>by rw[e1 i hi];exact Nat.lt_of_lt_of_le (hn i hi) O.le) (fun i hi=>(hp i hi).1) (fun i hi=>(hp i hi).2)
  have e2:EC.tot X k (fun j=>(ns' j:Int))=EC.tot X k (fun j=>(ns j:Int)):=EC.tot_congr k fun j hj=>by rw[e1 j hj]
  rw[e2] at hJ
  rw[← by33_wr C (hJ.pair C) hJ.2]
  exact h
structure Pz (w W:World) (q:Option Addr) (k i:Nat) (ns:Nat→Nat) (az:Nat→Bs) (s3 s4:Value):Prop where
 bl:Below w.heap.size w W
 l3:Lo 32 w.heap.size W s3 ((List.range i).map fun j=>bx (ns j))
 l4:Lo 33 w.heap.size W s4 ((List.range i).map az)
 tm:Tm W q k ns az
 r2:Row W w.heap.size z33
theorem El.of_made {w w':World} {k n:Nat} {b:Bs} (h:RG.Made w k (cb b) w') (hb:b.size=n):El n w' (.slice (some ⟨k,0,none⟩) n n) b:=⟨k,n,rfl,Nat.le_refl _,hb,h.lt,cb_holds h.range h.there⟩
theorem Bo.of {n B0:Nat} {w:World} {x:Value} {b:Bs} (h:El n w x b) (hn:0<n) (hB:B0≤w.heap.size) (T:TypeId):Bo n B0 (w.alloc (.cells #[x] T)) (.slice (some ⟨w.heap.size,0,none⟩) 1 1) b:=
 ⟨w.heap.size,x,rfl,hB,by rw[World.size_alloc];omega,by rw[World.cell?_alloc_new];rfl,h.kept hn (Gr.of (n:=0) (below1 w _))⟩
theorem Lo.args {n base:Nat} {W:World} {v:Value} {bs:List Bs} (h:Lo n base W v bs):∃ q cap,v=.slice q bs.length cap∧(0<bs.length→∃ g,q=some ⟨g,0,none⟩∧g<W.heap.size∧∀ (j:Nat) (b:Bs),bs[j]? = some b→∃ x,W.cell? ⟨g,j,none⟩=some x∧El n W x b):=by
 obtain ⟨xs,h1,h2,h3⟩:=h.ex
 have h4:=fun {g:Nat}=>h2.cells (g:=g)
 rcases h2.2 with ⟨rfl,h0⟩|⟨g,cap,cur,rfl,-,hc,-⟩
 ·exact ⟨none,0,by rw[h0],fun h=>by omega⟩
 ·refine ⟨_,_,rfl,fun _=>⟨g,rfl,(Array.getElem?_eq_some_iff.1 hc).1,fun j b hb=>?_⟩⟩
  have hj:j<xs.length:=by rw[h1];exact (List.getElem?_eq_some_iff.1 hb).1
  have:=h4 (g:=g) rfl j xs[j] (List.getElem?_eq_getElem hj)
  rw[add0] at this
  exact ⟨_,this,h3 j _ b (List.getElem?_eq_getElem hj) hb⟩
theorem El.arg {W:World} {x:Value} {b:Bs} (h:El 32 W x b):Arg W x b:=by
 obtain ⟨k,c,rfl,h1,h2,h3,h4⟩:=h
 exact ⟨_,_,_,rfl,h2,fun _=>⟨k,0,rfl,h1,h3,h4⟩⟩
theorem El.arg33 {W:World} {x:Value} {b:Bs} (h:El 33 W x b):Arg33 W x b:=by
 obtain ⟨k,c,rfl,h1,h2,h3,h4⟩:=h
 exact ⟨_,_,_,rfl,h2,fun _=>⟨k,0,rfl,h1,h3,h4⟩⟩
theorem sumPoint_g (C:Fld P) (O:Ord N) (v:Value) (w:World) (k:Nat) (hk:k≤512) (ns:Nat→Nat) (X:Nat→EC.Pt P) (hn:∀ j,j<k→ns j<N) (hX:∀ j,j<k→EC.On (X j))
 (hmer:∀ W,Below w.heap.size w W→Calls Tryd.prog 22 #[v] W (Ret fun e w'=>Below W.heap.size W w'∧∃ q cap,e=.slice q k cap∧Tm w' q k ns (fun j=>wr (X j)))) :
 Calls Tryd.prog 12 #[v] w (Ret fun e w'=>Below w.heap.size w w'∧e=pvl (wr (EC.tot X k (fun j=>(ns j:Int))))):=by
 have HM:=Hid.mk' hmer
 have HC:Hid (Fld P∧Ord N∧(∀ j,j<k→ns j<N)∧∀ j,j<k→EC.On (X j)):=⟨C,O,hn,hX⟩
 obtain ⟨az,haz⟩:∃ az:Nat→Bs,Hid ((fun j=>wr (X j))=az):=⟨_,rfl⟩
 have haz':Hid (∀ j,az j=wr (X j)):=fun j=>by rw[← haz.out]
 rw[haz.out] at HM
 obtain ⟨w1,hw1⟩:∃ w1,Hid (w.alloc (.cells z33.toArray 38)=w1):=⟨_,rfl⟩
 have K1:Hid (Row w1 w.heap.size z33∧Below w.heap.size w w1):=by rw[← hw1.out];exact ⟨row_new w _ _,below1 w _⟩
 obtain ⟨d,hd1,hd2⟩:=Option.map_eq_some_iff.1 uCP
 obtain ⟨d',hd3,hd4⟩:=Option.map_eq_some_iff.1 uT
 have HD:Hid ((Tryd.prog.underlying 38=some d∧d.isRow=true)∧Tryd.prog.underlying 56=some d'∧d'.isRow=true):=⟨⟨hd1,hd2⟩,hd3,hd4⟩
 clear hd1 hd2 hd3 hd4 hmer hn hX haz C O
 go_enter Tryd.func12,Tryd.ntmps12
 go_wp2_with (refine wpList_op (v:=.pointer (some ⟨w.heap.size,0,none⟩)) (w':=w1) rfl (.alloc 38) rfl ?_ ?_;(rw[← hw1.out];kernel_rfl))
 clear hw1
 refine (HM.out w1 K1.out.2).mono ?_
 rintro e w2 ⟨vv,rfl,hb2,q,cap,rfl,hT⟩
 have K2:Hid (Pz w w2 q k 0 ns az (.slice none 0 0) (.slice none 0 0)):=⟨K1.out.2.trans (hb2.mono K1.out.2.size),Lo.begin _ _ _,Lo.begin _ _ _,hT,K1.out.1.below hb2⟩
 clear hb2 hT K1 HM
 go_wp2_with fail
 go_loopg [3,4,12] k (fun m s3 s4 s12 W=>∃ i:Nat,i+m=k∧s12=.int .i64 i∧Hid (Pz w W q k i ns az s3 s4))
 case atStart=>exact ⟨0,by omega,rfl,K2⟩
 case round =>
  clear K2
  obtain ⟨i,hik,rfl,KM⟩:=hrel
  by_cases hi:i<k
  ·have hi':(i:Int)<(k:Int):=by omega
   obtain ⟨g,hq,hg,hr⟩:=KM.out.tm (by omega)
   subst hq
   obtain ⟨n,hne⟩:∃ n,Hid (ns i=n):=⟨_,rfl⟩
   obtain ⟨p,hpe⟩:∃ p,Hid (az i=p):=⟨_,rfl⟩
   have B0:Hid (wr.rangeAt g (37*i) (wn n++bl33 p)):=by
    have h:=hr i hi
    rw[hne.out,hpe.out] at h
    exact h
   have hps:Hid (p.size=33):=by rw[← hpe.out,haz'.out i];exact wr_size _
   have hnN:Hid (n<N):=by rw[← hne.out];exact HC.out.2.2.1 i hi
   obtain ⟨W1,hW1⟩:∃ W1,Hid (wr.alloc (.cells zT.toArray 56)=W1):=⟨_,rfl⟩
   obtain ⟨W2,hW2⟩:∃ W2,Hid (W1.setCells wr.heap.size 0 (wn n++bl33 p)=W2):=⟨_,rfl⟩
   have hlen:(wn n++bl33 p).length=37:=by rw[List.length_append,bl33_length hps.out];rfl
   have F1:Hid (Row W1 wr.heap.size zT∧Below wr.heap.size wr W1∧W1.heap.size=wr.heap.size+1):=by rw[← hW1.out];exact ⟨row_new wr _ _,below1 wr _,World.size_alloc _ _⟩
   have F2:Hid (Row W2 wr.heap.size (wn n++bl33 p)∧Below wr.heap.size wr W2):=by rw[← hW2.out];exact ⟨F1.out.1.put (by rw[hlen];rfl),RG.below_setCells (Nat.le_refl _) _ _ _ F1.out.2.1⟩
   have HLT:Hid ((Tryd.prog.info? 56).map (·.size)=some (wn n++bl33 p).length):=by show _=_;rw[hlen];exact iT
   have HLS:Hid ((Tryd.prog.info? 56).map (·.size)=some (wn n++bl33 p).toArray.size∧W1.there wr.heap.size 0 (wn n++bl33 p).toArray.size):=by
    have e:(wn n++bl33 p).toArray.size=37:=by rw[List.size_toArray];exact hlen
    rw[e];exact ⟨iT,F1.out.1.2.2⟩
   have HAL:Hid ((wn n++bl33 p).toArray.all (·.oneCell')=true):=by
    show _=_
    rw[Array.all_eq_true']
    intro u hu
    exact cells_one n p u (List.mem_toArray.1 hu)
   have hix:=atT g 0 k cap i hi
   obtain ⟨vt,hvt⟩:∃ v,Hid (Value.agg (wn n++bl33 p).toArray=v):=⟨_,rfl⟩
   have G2:Gr 0 (.slice none 0 0) wr W2:=Gr.of F2.out.2
   have HB:Hid (∀ b,PBs w u3 u4 wr.heap.size n W2.heap.size w.heap.size p ((List.range i).map fun j=>bx (ns j)) ((List.range i).map az) (some ⟨g,0,none⟩) k ns az b W2.drew):=fun b=>by
    match b with
    | 0=>exact F2.out.1
    | 1=>exact (KM.out.l3.kept (by decide) G2 (by decide)).drew
    | 2=>exact (KM.out.l4.kept (by decide) G2 (by decide)).drew
    | 3=>exact ⟨(KM.out.bl.trans (F2.out.2.mono KM.out.bl.size)).drew,Nat.le_trans KM.out.bl.size F2.out.2.size,Nat.le_refl _⟩
    | 4=>exact KM.out.tm.kept (W':=W2) G2
    | 5=>exact KM.out.r2.below (W':=W2) F2.out.2
    | _+6=>trivial
   have H3:Hid (∀ g,u3.ownBlock=some g→w.heap.size≤g∧g<W2.heap.size):=fun g hg=>⟨(KM.out.l3.lt g hg).1,Nat.lt_of_lt_of_le (KM.out.l3.lt g hg).2 F2.out.2.size⟩
   have H4:Hid (∀ g,u4.ownBlock=some g→w.heap.size≤g∧g<W2.heap.size):=fun g hg=>⟨(KM.out.l4.lt g hg).1,Nat.lt_of_lt_of_le (KM.out.l4.lt g hg).2 F2.out.2.size⟩
   have HG:=Hid.mk' hg
   clear hlen hr G2 KM F2 hg
   go_wp2_with (first|(refine wpList_load_mid rfl 56 _ rfl g (37*i) ?_ (wn n++bl33 p) d' ?_ ?_ ?_ ?_ ?_;rfl;exact B0.out;exact HD.out.2.1;exact HD.out.2.2;exact HLT.out;rw[hvt.out])|(refine wpList_op (v:=.pointer (some ⟨wr.heap.size,0,none⟩)) (w':=W1) rfl (.alloc 56) rfl ?_ ?_;(rw[← hW1.out];kernel_rfl))|(refine wpList_store_mid rfl 56 _ _ rfl wr.heap.size 0 (wn n++bl33 p).toArray ?_ ?_ ?_ ?_ ?_ ?_;rfl;exact hvt.out.symm;exact HLS.out.2;exact HLS.out.1;exact HAL.out;rw[show (wn n++bl33 p).toArray.toList=wn n++bl33 p from rfl,hW2.out])|fail)
   refine RG.flow_draws (FP w u3 u4 wr.heap.size n W2.heap.size w.heap.size p ((List.range i).map fun j=>bx (ns j)) ((List.range i).map az) (some ⟨g,0,none⟩) k ns az) (by kernel_rfl) ⟨by kernel_rfl,RG.certs_of ?_,fun i' j hi0 hj hij hkl hdp=>P_stab u3 u4 wr.heap.size n W2.heap.size w.heap.size p _ _ H3.out H4.out i' j hj hij hkl (fun h=>by rw[h.1,h.2] at hdp;exact absurd (show false=true from hdp.symm.trans (by kernel_rfl)) (by decide)) (fun h=>by rw[h.1,h.2] at hdp;exact absurd (show false=true from hdp.symm.trans (by kernel_rfl)) (by decide)),fun i' b _ hkl=>P_stabB w u3 u4 wr.heap.size n W2.heap.size w.heap.size p _ _ _ k ns az H3.out H4.out i' b hkl⟩ HB.out ?_
   ·have hb0:∀ W:World,Gr 0 (.slice none 0 0) W W:=fun W=>Gr.of (Below.refl _ _)
    refine ⟨RG.cf_one 3 fun a W hp=>⟨a.eval (.tmp 3),W,by kernel_rfl,by kernel_rfl,hb0 W,hp.o 3 (by kernel_rfl)⟩,
     RG.cf_one 6 fun a W hp=>⟨.pointer (some ⟨wr.heap.size,0,none⟩),W,by kernel_rfl,by rw[show a.eval (.tmp 6)=.pointer (some ⟨wr.heap.size,0,none⟩) from hp.o 6 (by kernel_rfl)];kernel_rfl,hb0 W,rfl⟩,
     RG.cf_load 46 17 rfl u40 fun a W hp=>⟨wr.heap.size,0,wn n,hp.n 1 17 (by kernel_rfl) (by kernel_rfl) (by kernel_rfl),range_front (show Row W wr.heap.size (wn n++bl33 p) from hp.b 0 (by kernel_rfl)).2.1,i40,hb0 W,rfl⟩,
     RG.cf_call 18 fun a W hp=>⟨16,#[nv n],by kernel_rfl,by rw[show a.eval (.tmp 18)=nv n from hp.n 2 18 (by kernel_rfl) (by kernel_rfl) (by kernel_rfl)];kernel_rfl,(sbytes_c HC.out.2.1 hnN.out W).mono (by
      rintro e W' ⟨u,rfl,k',hm,rfl⟩
      exact ⟨_,rfl,Gr.of hm.bel,El.of_made hm (bx_size n)⟩)⟩,
     RG.cf_one 19 fun a W hp=>⟨.slice (some ⟨W.heap.size,0,none⟩) 1 1,W.alloc (.cells #[a.eval (.tmp 19)] 23),by kernel_rfl,by
      obtain ⟨k',c',he,-⟩:=show El 32 W (a.eval (.tmp 19)) (bx n) from hp.n 3 19 (by kernel_rfl) (by kernel_rfl) (by kernel_rfl)
      rw[he];kernel_rfl,Gr.of (below1 W _),Bo.of (show El 32 W (a.eval (.tmp 19)) (bx n) from hp.n 3 19 (by kernel_rfl) (by kernel_rfl) (by kernel_rfl)) (by decide) (hp.b 3 (by kernel_rfl)).2.2 _⟩,
     RG.cf_app 16 20 24 rfl fun a W hp=>?_,
     RG.cf_one 4 fun a W hp=>⟨a.eval (.tmp 4),W,by kernel_rfl,by kernel_rfl,hb0 W,hp.o 4 (by kernel_rfl)⟩,
     RG.cf_one 6 fun a W hp=>⟨.pointer (some ⟨wr.heap.size,4,none⟩),W,by kernel_rfl,by rw[show a.eval (.tmp 6)=.pointer (some ⟨wr.heap.size,0,none⟩) from hp.o 6 (by kernel_rfl)];kernel_rfl,hb0 W,rfl⟩,
     RG.cf_load 38 23 rfl uCP fun a W hp=>⟨wr.heap.size,4,bl33 p,hp.n 7 23 (by kernel_rfl) (by kernel_rfl) (by kernel_rfl),range_back (xs:=wn n) (show Row W wr.heap.size (wn n++bl33 p) from hp.b 0 (by kernel_rfl)).2.1,by rw[bl33_length hps.out];exact infoCP,hb0 W,rfl⟩,
     RG.cf_call 24 fun a W hp=>⟨13,#[pvl p],by kernel_rfl,by rw[show a.eval (.tmp 24)=pvl p from hp.n 8 24 (by kernel_rfl) (by kernel_rfl) (by kernel_rfl)];kernel_rfl,(ptBytes_c hps.out W).mono (by
      rintro e W' ⟨u,rfl,hb,hE⟩
      exact ⟨_,rfl,Gr.of hb,hE⟩)⟩,
     RG.cf_one 25 fun a W hp=>⟨.slice (some ⟨W.heap.size,0,none⟩) 1 1,W.alloc (.cells #[a.eval (.tmp 25)] 23),by kernel_rfl,by
      obtain ⟨k',c',he,-⟩:=show El 33 W (a.eval (.tmp 25)) p from hp.n 9 25 (by kernel_rfl) (by kernel_rfl) (by kernel_rfl)
      rw[he];kernel_rfl,Gr.of (below1 W _),Bo.of (show El 33 W (a.eval (.tmp 25)) p from hp.n 9 25 (by kernel_rfl) (by kernel_rfl) (by kernel_rfl)) (by decide) (hp.b 3 (by kernel_rfl)).2.2 _⟩,
     RG.cf_app 22 26 24 rfl fun a W hp=>?_,
     RG.cf_one 21 fun a W hp=>⟨a.eval (.tmp 21),W,by kernel_rfl,by kernel_rfl,hb0 W,hp.n 5 21 (by kernel_rfl) (by kernel_rfl) (by kernel_rfl)⟩,
     RG.cf_one 27 fun a W hp=>⟨a.eval (.tmp 27),W,by kernel_rfl,by kernel_rfl,hb0 W,hp.n 11 27 (by kernel_rfl) (by kernel_rfl) (by kernel_rfl)⟩,trivial⟩
    ·obtain ⟨k',x,he,h1,h2,h3,h4⟩:=show Bo 32 W2.heap.size W (a.eval (.tmp 20)) (bx n) from hp.n 4 20 (by kernel_rfl) (by kernel_rfl) (by kernel_rfl)
     obtain ⟨v',W',r1,r2,r3⟩:=Lo.app (show Lo 32 w.heap.size W u3 _ from hp.b 1 (by kernel_rfl)) (by decide) h4 h3 (by rw[List.length_map,List.length_range];omega) (hp.b 3 (by kernel_rfl)).2.1
     refine ⟨v',W',?_,r3,r2⟩
     rw[he,show a.eval (.tmp 16)=u3 from hp.n 0 16 (by kernel_rfl) (by kernel_rfl) (by kernel_rfl)]
     exact r1
    ·obtain ⟨k',x,he,h1,h2,h3,h4⟩:=show Bo 33 W2.heap.size W (a.eval (.tmp 26)) p from hp.n 10 26 (by kernel_rfl) (by kernel_rfl) (by kernel_rfl)
     obtain ⟨v',W',r1,r2,r3⟩:=Lo.app (show Lo 33 w.heap.size W u4 _ from hp.b 2 (by kernel_rfl)) (by decide) h4 h3 (by rw[List.length_map,List.length_range];omega) (hp.b 3 (by kernel_rfl)).2.1
     refine ⟨v',W',?_,r3,r2⟩
     rw[he,show a.eval (.tmp 22)=u4 from hp.n 6 22 (by kernel_rfl) (by kernel_rfl) (by kernel_rfl)]
     exact r1
   ·intro V w5 hR5 hB5
    have KN:Hid (Pz w w5 (some ⟨g,0,none⟩) k (i+1) ns az (V 12) (V 13)):=by
     have h1:=hR5 12 (Nat.lt_of_succ_le (Nat.le_of_ble_eq_true (by kernel_rfl))) rfl
     have h2:=hR5 13 (Nat.lt_of_succ_le (Nat.le_of_ble_eq_true (by kernel_rfl))) rfl
     refine ⟨(hB5 3 rfl).1,?_,?_,hB5 4 rfl,hB5 5 rfl⟩
     ·rw[List.range_succ,List.map_append]
      show Lo 32 w.heap.size w5 (V 12) (_++[bx (ns i)])
      rw[hne.out];exact h1
     ·rw[List.range_succ,List.map_append]
      show Lo 33 w.heap.size w5 (V 13) (_++[az i])
      rw[hpe.out];exact h2
    clear hR5 hB5 HB H3 H4
    dsimp only[RG.putV,Nat.reduceAdd]
    generalize V 12=s3 at KN ⊢
    generalize V 13=s4 at KN ⊢
    go_wp2
    go_roundg (gk-1)
    case measure=>omega
    case rel=>exact ⟨i+1,by omega,rfl,KN⟩
  ·have hi':¬ (i:Int)<(k:Int):=by omega
   obtain rfl:i=k:=by omega
   obtain ⟨q3,c3,rfl,h3⟩:=KM.out.l3.args
   obtain ⟨q4,c4,rfl,h4⟩:=KM.out.l4.args
   rw[List.length_map,List.length_range] at h3 h4
   have HA:Hid (ArgsScs wr q3 i (fun j=>bx (ns j))):=fun h0=>by
    obtain ⟨g,e1,e2,e3⟩:=h3 h0
    refine ⟨g,e1,e2,fun j hj=>?_⟩
    obtain ⟨x,x1,x2⟩:=e3 j (bx (ns j)) (by rw[List.getElem?_map,List.getElem?_range hj];rfl)
    exact ⟨x,x1,x2.arg⟩
   have HP:Hid (ArgsPts wr q4 i az):=fun h0=>by
    obtain ⟨g,e1,e2,e3⟩:=h4 h0
    refine ⟨g,e1,e2,fun j hj=>?_⟩
    obtain ⟨x,x1,x2⟩:=e3 j (az j) (by rw[List.getElem?_map,List.getElem?_range hj];rfl)
    exact ⟨x,x1,x2.arg33⟩
   rw[List.length_map,List.length_range,List.length_map,List.length_range]
   have KB:Hid (Below w.heap.size w wr∧Row wr w.heap.size z33):=⟨KM.out.bl,KM.out.r2⟩
   clear h3 h4 KM
   go_wp2_with fail
   refine (gSum_c HC.out.1 HC.out.2.1.gap HC.out.2.1.le q3 q4 i c3 i c4 (fun j=>bx (ns j)) az wr HA.out HP.out).mono ?_
   rintro e w6 ⟨vv,rfl,hb6,hS⟩
   obtain ⟨gs,cs,rfl,-,-,h6,h7⟩:=SumR.all HC.out.1 HC.out.2.1 (by omega) HC.out.2.2.1 HC.out.2.2.2 (fun _ _=>rfl) (fun j _=>haz'.out j) hS
   obtain ⟨T,hT⟩:∃ T,Hid (Go.Proofs.YtgdfkblfggnnfaaDoor.wr (EC.tot X i (fun j=>(ns j:Int)))=T):=⟨_,rfl⟩
   have hTs:T.size=33:=by rw[← hT.out];exact wr_size _
   rw[hT.out] at h7
   have K6:Hid (Row w6 w.heap.size z33∧Below w.heap.size w w6∧Row w6 gs (bl33 T)):=⟨KB.out.2.below hb6,KB.out.1.trans (hb6.mono KB.out.1.size),row_cp h7 h6⟩
   clear hb6 hS h6 h7 KB HA HP
   have harr:=arrCP gs cs
   obtain ⟨w7,hw7⟩:∃ w7,Hid (w6.setCells w.heap.size 0 (bl33 T)=w7):=⟨_,rfl⟩
   have hlen:(bl33 T).length=33:=bl33_length hTs
   have K7:Hid (Row w7 w.heap.size (bl33 T)∧Below w.heap.size w w7):=by rw[← hw7.out];exact ⟨K6.out.1.put (by rw[hlen];rfl),RG.below_setCells (Nat.le_refl _) _ _ _ K6.out.2.1⟩
   obtain ⟨vt,hvt⟩:∃ vt,Hid (Value.agg (bl33 T).toArray=vt):=⟨_,rfl⟩
   have HI:Hid ((Tryd.prog.info? 38).map (·.size)=some (bl33 T).length∧w6.there w.heap.size 0 (bl33 T).toArray.size∧(Tryd.prog.info? 38).map (·.size)=some (bl33 T).toArray.size):=by
    have e:(bl33 T).toArray.size=33:=by rw[List.size_toArray];exact hlen
    refine ⟨by rw[hlen];exact infoCP,by rw[e];exact K6.out.1.2.2,by rw[e];exact infoCP⟩
   clear hlen
   go_wp2_with (first|(refine wpList_load_mid rfl 38 _ rfl gs 0 ?_ (bl33 T) d ?_ ?_ ?_ ?_ ?_;rfl;exact K6.out.2.2.2.1;exact HD.out.1.1;exact HD.out.1.2;exact HI.out.1;rw[hvt.out])|(refine wpList_store_mid rfl 38 _ _ rfl w.heap.size 0 (bl33 T).toArray ?_ ?_ ?_ ?_ ?_ ?_;rfl;exact hvt.out.symm;exact HI.out.2.1;exact HI.out.2.2;exact bl33_one T;rw[show (bl33 T).toArray.toList=bl33 T from rfl,hw7.out]))
   refine bodyPost_ret (results_cell 2 38 rfl K7.out.1 rfl uCP HI.out.1) rfl ?_
   exact ⟨_,rfl,K7.out.2,by rw[hT.out];rfl⟩
theorem one_point (C:Fld P) (O:Ord N) {g c n:Nat} (hn:n<N) {X:EC.Pt P} (hX:EC.On X) (w:World) (hR:Row w g (wn n++bl33 (wr X))) :
 Calls Tryd.prog 12 #[.slice (some ⟨g,0,none⟩) 1 c] w (Ret fun e w'=>Below w.heap.size w w'∧e=pvl (wr (EC.mul n X))):=by
 by_cases h0:n=0
 ·subst h0
  refine (sumPoint_g C O _ w 0 (by decide) (fun _=>0) (fun _=>X) (fun j hj=>by omega) (fun j hj=>by omega) fun W hb=>?_).mono ?_
  ·refine (merged_0 g c (wr X) (wr_size X) W (hR.below hb).1 (hR.below hb).2.1).mono ?_
   rintro e w' ⟨v,rfl,hb',q,cap,rfl⟩
   exact ⟨_,rfl,hb',q,cap,rfl,fun h=>by omega⟩
  ·rintro e w' ⟨v,rfl,hb',rfl⟩
   exact ⟨_,rfl,hb',rfl⟩
 ·refine (sumPoint_g C O _ w 1 (by decide) (fun _=>n) (fun _=>X) (fun j hj=>hn) (fun j hj=>hX) fun W hb=>?_).mono ?_
  ·have e1:mrg N (fun _=>n) (fun _=>wr X) 1=[(n,wr X)]:=rfl
   have h:=merged_d (N:=N) g 1 c (by decide) (fun _=>n) (fun _=>wr X) (fun _ _=>wr_size X) (fun i hi=>by
    obtain rfl:i=0:=by omega
    rfl) (fun x hx=>by
    rw[e1] at hx
    obtain rfl:x=(n,wr X):=by simpa using hx
    exact ⟨h0,Nat.lt_of_lt_of_le hn O.le⟩) (by rw[e1];exact Nat.lt_succ_self 0) W (hR.below hb).1 (fun j hj=>by
    obtain rfl:j=0:=by omega
    exact (hR.below hb).2.1)
   refine h.mono ?_
   rintro e w' ⟨v,rfl,hb',g',cap,rfl,h1,h2,h3⟩
   refine ⟨_,rfl,hb',some ⟨g',0,none⟩,cap,rfl,fun _=>⟨g',rfl,h2,fun j hj=>?_⟩⟩
   have:=h3 j hj
   obtain rfl:j=0:=by omega
   exact this
  ·rintro e w' ⟨v,rfl,hb',rfl⟩
   exact ⟨_,rfl,hb',rfl⟩
theorem arg33_k {W:World} {g c:Nat} {X:EC.Pt P} (h:33≤c∧g<W.heap.size∧EC.On X∧Holds encB W g 0 (wr X)):Arg33 W (.slice (some ⟨g,0,none⟩) 33 c) (wr X):=
 ⟨_,_,_,rfl,wr_size _,fun _=>⟨g,0,rfl,h.1,h.2.1,h.2.2.2⟩⟩
theorem times_k {N:Nat} (C:Fld P) (hG:Gap 4624529908474429119 4994812053365940164 1 N) (hN:N≤top) {W:World} {g c gs:Nat} {X:EC.Pt P} {K:Bs} (hs:K.size=32) (hk:beV K.toList<N) (hgs:gs<W.heap.size) (hK:Holds encB W gs 0 K) (h:33≤c∧g<W.heap.size∧EC.On X∧Holds encB W g 0 (wr X)) :
 Calls Tryd.prog 6 #[.slice (some ⟨gs,0,none⟩) 32 32,.slice (some ⟨g,0,none⟩) 33 c] W (Ret fun e w'=>Below W.heap.size W w'∧OutP W (wr (EC.mul (beV K.toList) X)) e w'):=by
 obtain ⟨p,hp,rfl⟩:=rd_wr C h.2.2.1
 refine (gTimes_c C hG hN _ _ K _ W ⟨_,_,_,rfl,hs,fun _=>⟨gs,0,rfl,by omega,hgs,hK⟩⟩ (arg33_k h)).mono ?_
 rintro e w' ⟨v,rfl,hb,hR⟩
 have:=hR.q C hN
 unfold TimesQ rq at this
 rw[if_pos ⟨hs,hk⟩,hp] at this
 exact ⟨_,rfl,hb,this⟩
def S2 (nb pl:Nat):Nat→Nat:=fun j=>if j=0 then nb else pl
def mkH (k:Bs) (nb pl:Nat):Bs:=derH (S2 nb pl) k 2 [109,105,110,116]
def mkN (N:Nat) (k:Bs) (nb pl:Nat):Nat:=kSc N (mkH k nb pl)
theorem mkN_lt (O:Ord N) (k:Bs) (nb pl:Nat):mkN N k nb pl<N:=kSc_lt O _
theorem mintKey_c (O:Ord N) (sq:Option Addr) (sn sc:Nat) (k:Bs) (nb pl:Nat) (hnb:nb<4294967296) (hpl:pl<20) (w:World) (hk:SP.PartOk w (.slice sq sn sc) k.toList) :
 Calls Tryd.prog 11 #[.slice sq sn sc,.int .u32 nb,.int .i64 pl] w (Ret fun e w'=>Below w.heap.size w w'∧e=nv (mkN N k nb pl)):=by
 obtain ⟨w1,hw1⟩:∃ w1,Hid (w.alloc (.cells #[.int .u64 0,.int .u64 0,.int .u64 0,.int .u64 0] 46)=w1):=⟨_,rfl⟩
 obtain ⟨w2,hw2⟩:∃ w2,Hid (w1.alloc (.cells #[.int .u32 nb,.int .u32 pl] 22)=w2):=⟨_,rfl⟩
 have e1:w1.heap.size=w.heap.size+1:=by rw[← hw1.out,World.size_alloc]
 have hb12:Below w1.heap.size w1 w2:=by rw[← hw2.out];exact below1 w1 _
 have hb01:Below w.heap.size w w1:=by rw[← hw1.out];exact below1 w _
 have K2:Hid (Row w2 w.heap.size [.int .u64 0,.int .u64 0,.int .u64 0,.int .u64 0]∧Below w.heap.size w w2):=by
  refine ⟨?_,hb01.trans (hb12.mono hb01.size)⟩
  have q1:Row w1 w.heap.size [.int .u64 0,.int .u64 0,.int .u64 0,.int .u64 0]:=by rw[← hw1.out];exact row_new w _ _
  exact q1.below hb12
 have hN:NumsK w2 (some ⟨w.heap.size+1,0,none⟩) 2 (S2 nb pl):=by
  refine ⟨fun j hj=>?_,fun _=>⟨w.heap.size+1,0,rfl,?_,fun j hj=>?_⟩⟩
  ·unfold S2
   by_cases h:j=0
   ·rw[if_pos h];exact hnb
   ·rw[if_neg h];omega
  ·rw[← hw2.out,World.size_alloc,e1];omega
  ·have hr:=(row_new w1 [.int .u32 nb,.int .u32 pl] 22).2.1
   rw[← e1,← hw2.out,Nat.zero_add]
   have hj2:j=0∨j=1:=by omega
   rcases hj2 with rfl|rfl
   ·exact hr 0 _ rfl
   ·exact hr 1 _ rfl
 have hk2:SP.PartOk w2 (.slice sq sn sc) k.toList:=(hk.below hb01).below hb12
 have hD:=derived_c sq sn sc k ⟨#[109,105,110,116]⟩ (by decide) (some ⟨w.heap.size+1,0,none⟩) 2 2 (S2 nb pl) w2 (by decide) hk2 hN
 have hTs:(mkH k nb pl).size=32:=derH_size _ _ _ _
 have HSc:=Hid.mk2 (fun r w (h:Holds encB w r 0 (mkH k nb pl))=>scalarOf_c O r (mkH k nb pl) w hTs h)
 have hD2:Calls Tryd.prog 21 #[.slice sq sn sc,.string ⟨#[109,105,110,116]⟩,.slice (some ⟨w.heap.size+1,0,none⟩) 2 2] w2 (Ret fun e w'=>Below w2.heap.size w2 w'∧∃ r,e=.slice (some ⟨r,0,none⟩) 32 32∧w2.heap.size≤r∧Holds encB w' r 0 (mkH k nb pl)):=hD
 have HX:Hid (mkN N k nb pl=kSc N (mkH k nb pl)):=rfl
 rw[HX.out]
 generalize mkH k nb pl=T at hD2 HSc hTs
 generalize kSc N T=x at HSc ⊢
 obtain ⟨vx,hvx⟩:∃ vx,Hid (nv x=vx):=⟨_,rfl⟩
 rw[hvx.out] at HSc ⊢
 have wp:IntKind.u32.wrap (pl:Int)=(pl:Int):=by rw[IntKind.wrap_u32];omega
 clear hk hD hN hk2 hb12 hb01 HX
 go_enter Tryd.func11,Tryd.ntmps11
 go_wp2_with fail
 rw[hw1.out,hw2.out]
 clear hw1 hw2
 refine hD2.mono ?_
 rintro e w3 ⟨v3,rfl,hb3,r,rfl,hr,hH3⟩
 have K3:Hid (Row w3 w.heap.size [.int .u64 0,.int .u64 0,.int .u64 0,.int .u64 0]∧Below w.heap.size w w3∧Holds encB w3 r 0 T):=⟨K2.out.1.below hb3,K2.out.2.trans (hb3.mono K2.out.2.size),hH3⟩
 clear hb3 hr hH3 hD2 K2
 go_wp2_with fail
 refine (HSc.out r w3 K3.out.2.2).mono ?_
 rintro e w4 ⟨v4,rfl,hb4,rfl⟩
 have K4:Hid (Row w4 w.heap.size [.int .u64 0,.int .u64 0,.int .u64 0,.int .u64 0]∧Below w.heap.size w w4):=⟨K3.out.1.below hb4,K3.out.2.1.trans (hb4.mono K3.out.2.1.size)⟩
 clear hb4 K3 HSc
 obtain ⟨w5,hw5⟩:∃ w5,Hid (w4.setCells w.heap.size 0 (wn x)=w5):=⟨_,rfl⟩
 have K5:Hid (Row w5 w.heap.size (wn x)∧Below w.heap.size w w5):=by rw[← hw5.out];exact ⟨K4.out.1.put rfl,RG.below_setCells (Nat.le_refl _) _ _ _ K4.out.2⟩
 go_wp2_with (refine wpList_store_mid rfl 46 _ _ rfl w.heap.size 0 (wn x).toArray ?_ ?_ ?_ ?_ ?_ ?_;rfl;exact hvx.out.symm;exact K4.out.1.2.2;exact i40;exact wn_one x;rw[show (wn x).toArray.toList=wn x from rfl,hw5.out])
 refine bodyPost_ret (results_cell 6 46 rfl K5.out.1 rfl u40 i40) rfl ?_
 exact ⟨_,rfl,K5.out.2,hvx.out⟩
theorem isSeedY_c (q:Option Addr) (n c:Nat) (w:World):Calls Tryd.prog 8 #[.slice q n c] w fun e w'=>e=.returned (.bool (decide (n=32)))∧w'=w:=by
 go_enter Tryd.func8,Tryd.ntmps8
 by_cases h:n=32
 ·have hi:(n:Int)=32:=by omega
  subst h
  go_wp2
  go_ret
  exact ⟨rfl,rfl⟩
 ·have hi:¬ (n:Int)=32:=by omega
  have hd:decide (n=32)=false:=decide_eq_false h
  go_wp2
  go_ret
  exact ⟨by simp[h,hi],rfl⟩
theorem Key_c (O:Ord N) (sq:Option Addr) (sc:Nat) (k:Bs) (nb i x:Nat) (hnb:nb<4294967296) (hi:i<20) (hx:x=2^i) (w:World) (hk:SP.PartOk w (.slice sq 32 sc) k.toList) (hT:TabX w) :
 Calls Tryd.prog 5 #[.slice sq 32 sc,.int .u32 nb,.int .u64 x] w (Ret fun e w'=>Below w.heap.size w w'∧∃ g,e=.tuple #[.slice (some ⟨g,0,none⟩) 32 32,.int .i64 0]∧g<w'.heap.size∧Holds encB w' g 0 (bx (mkN N k nb i))):=by
 have hS:=isSeedY_c sq 32 sc w
 have hP:=placex_c i hi x hx w hT
 have hM:=mintKey_c O sq 32 sc k nb i hnb hi w hk
 have HSb:=Hid.mk2 (sbytes_c O (mkN_lt O k nb i))
 have hbs:=bx_size (mkN N k nb i)
 generalize mkN N k nb i=y at hM HSb hbs ⊢
 generalize bx y=B at HSb hbs ⊢
 obtain ⟨vy,hvy⟩:∃ vy,Hid (nv y=vy):=⟨_,rfl⟩
 rw[hvy.out] at hM HSb
 clear hk hT hx
 go_enter Tryd.func5,Tryd.ntmps5
 go_wp2_with fail
 refine hS.mono ?_
 rintro e w' ⟨rfl,rfl⟩
 clear hS
 go_wp2_with fail
 refine hP.mono ?_
 rintro e w' ⟨rfl,rfl⟩
 clear hP
 go_wp2_with fail
 refine hM.mono ?_
 rintro e w3 ⟨v3,rfl,hb3,rfl⟩
 have hsb:=HSb.out w3
 have K3:=Hid.mk2 hb3
 clear hM hb3 HSb
 go_wp2_with fail
 refine hsb.mono ?_
 rintro e w4 ⟨v4,rfl,k4,hm,rfl⟩
 have K4:Hid (Below w'.heap.size w' w4∧k4<w4.heap.size∧Holds encB w4 k4 0 B):=by
  have hH:Holds encB w4 k4 0 B:=fun j hj=>by
   have h1:=hm.range j (encB B[j]!) (by unfold cb;rw[List.getElem?_map,getElem!_pos B j hj,← Array.getElem_toList hj,List.getElem?_eq_getElem (by rw[Array.length_toList];exact hj)];rfl)
   exact ⟨h1,(hm.there j (by rw[cb_length];exact hj)).2⟩
  exact ⟨K3.out.trans (hm.bel.mono K3.out.size),Holds.lt hH (by omega),hH⟩
 clear hm hsb K3
 go_wp2
 go_ret2
 exact ⟨_,rfl,K4.out.1,k4,rfl,K4.out.2⟩
theorem results_cY {P:Program} {fn:Func} {tmps:Array Value} {W:World} {k:Nat} {vs:List Value} {v:Value} (t u:Tmp) (T:TypeId) (hr:fn.results=#[.cell t T,.tmp u]) (h:Row W k vs) (ht:tmps[t]? = some (.pointer (some ⟨k,0,none⟩))) (hv:tmps[u]? = some v)
 (hu:(P.underlying T).map (·.isRow)=some true) (hi:(P.info? T).map (·.size)=some vs.length):(results fn tmps).run P W=.ok (.tuple #[.agg vs.toArray,v]) W:=by
 obtain ⟨d,hu,hd⟩:=Option.map_eq_some_iff.1 hu
 have h1:=run_loadVar_mid (P:=P) W k 0 T vs d h.2.1 hu hd hi
 have h2:tmps.getD t undef=.pointer (some ⟨k,0,none⟩):=by rw[Array.getD_eq_getD_getElem?,ht];rfl
 have h3:tmps.getD u undef=v:=by rw[Array.getD_eq_getD_getElem?,hv];rfl
 unfold results
 rw[hr]
 simp only[Array.mapM_eq_mapM_toList,List.mapM_cons,List.mapM_nil,h2,h3,asAddr]
 simp[Sem.run_bind,h1]
def pkB (P N:Nat) [NeZero P] (k:Bs) (nb i:Nat):Bs:=wr (EC.mul (mkN N k nb i) (gG P))
theorem el_kept {W W':World} {n:Nat} {x:Value} {b:Bs} (h:El n W x b) (hs:W.heap.size≤W'.heap.size) (g:Nat) (hg:∀ k c,x=.slice (some ⟨k,0,none⟩) n c→k≠g) (hk:∀ k,k<W.heap.size→k≠g→W'.heap[k]? = W.heap[k]?):El n W' x b:=by
 obtain ⟨k,c,h1,h2,h3,h4,h5⟩:=h
 exact ⟨k,c,h1,h2,h3,Nat.lt_of_lt_of_le h4 hs,Holds.kept h5 (hk k h4 (hg k c h1))⟩
theorem el_bel {W W':World} {n:Nat} {x:Value} {b:Bs} (h:El n W x b) (hb:Below W.heap.size W W'):El n W' x b:=by
 obtain ⟨k,c,h1,h2,h3,h4,h5⟩:=h
 exact ⟨k,c,h1,h2,h3,Nat.lt_of_lt_of_le h4 hb.size,Holds.kept h5 (hb.block k h4)⟩
theorem row_blk {W W':World} {k:Nat} {vs:List Value} (h:Row W k vs) (hs:W.heap.size≤W'.heap.size) (e:W'.heap[k]? = W.heap[k]?):Row W' k vs:=
 ⟨Nat.lt_of_lt_of_le h.1 hs,fun j v hj=>by rw[World.cell?_of_block (a:=⟨k,0+j,none⟩) e];exact h.2.1 j v hj,fun j hj=>by rw[World.cell?_of_block (a:=⟨k,0+j,none⟩) e,World.frozen?_of_block (a:=⟨k,0+j,none⟩) e];exact h.2.2 j hj⟩
theorem row_set {W:World} {k:Nat} {vs:List Value} (h:Row W k vs) (j:Nat) (hj:j<vs.length) (v:Value):Row (W.setCell ⟨k,j,none⟩ v) k (vs.set j v):=by
 have hcj:∃ u,W.cell? ⟨k,j,none⟩=some u:=⟨_,h.cell hj⟩
 obtain ⟨u,hcj⟩:=hcj
 have hce:∀ i u,(vs.set j v)[i]? = some u→(W.setCell ⟨k,j,none⟩ v).cell? ⟨k,0+i,none⟩=some u:=fun i u hi=>by
  rw[Nat.zero_add]
  by_cases e:i=j
  ·subst e
   rw[List.getElem?_set_self hj] at hi
   obtain rfl:=Option.some.inj hi
   exact World.cell?_setCell_same _ _ _ hcj
  ·rw[List.getElem?_set_ne (fun x=>e x.symm)] at hi
   rw[World.cell?_setCell_other _ _ _ _ (by intro x;injection x with _ x _;exact e x.symm)]
   have:=h.2.1 i u hi
   rw[Nat.zero_add] at this
   exact this
 refine ⟨by rw[World.size_setCell];exact h.1,hce,fun i hi=>?_⟩
 rw[List.length_set] at hi
 refine ⟨by rw[hce i ((vs.set j v)[i]'(by rw[List.length_set];exact hi)) (List.getElem?_eq_getElem _)];rfl,?_⟩
 rw[World.frozen?_setCell]
 exact (h.2.2 i hi).2
structure Pub (w W:World) (g:Nat) (S:Nat→Bs) (j:Nat) (C:List Value):Prop where
 bl:Below w.heap.size w W
 row:Row W g C
 len:C.length=20
 sl:∀ (i:Nat) (v:Value),C[i]? = some v→∃ q n c,v=Value.slice q n c
 el:∀ i,i<j→∃ v,C[i]? = some v∧El 33 W v (S i)
 ks:Row W w.heap.size [.slice none 0 0,.slice none 0 0]
 gk:g=w.heap.size+1
theorem Pub.below {w W W':World} {g j:Nat} {S:Nat→Bs} {C:List Value} (h:Pub w W g S j C) (hb:Below W.heap.size W W'):Pub w W' g S j C:=
 ⟨h.bl.trans (hb.mono h.bl.size),h.row.below hb,h.len,h.sl,fun i hi=>by
  obtain ⟨v,h1,h2⟩:=h.el i hi
  exact ⟨v,h1,el_bel h2 hb⟩,h.ks.below hb,h.gk⟩
theorem el_ne {W:World} {v:Value} {b:Bs} {g:Nat} {q:Option Addr} {m c':Nat} (h:El 33 W v b) (hc:W.cell? ⟨g,0,none⟩=some (.slice q m c')):∀ k c,v=.slice (some ⟨k,0,none⟩) 33 c→k≠g:=by
 rintro k c hv rfl
 obtain ⟨k',c2,h1,h2,h3,h4,h5⟩:=h
 rw[hv] at h1
 injection h1 with h1
 injection h1 with h1
 injection h1 with h1
 subst h1
 have:=(h5 0 (by omega)).1
 rw[Nat.zero_add,hc] at this
 cases this
theorem Pub.put {w W:World} {g j:Nat} {S:Nat→Bs} {C:List Value} {v:Value} (h:Pub w W g S j C) (hj:j<20) (hv:El 33 W v (S j)):Pub w (W.setCell ⟨g,j,none⟩ v) g S (j+1) (C.set j v):=by
 obtain ⟨q0,n0,c0,hc0⟩:∃ q n c,W.cell? ⟨g,0,none⟩=some (.slice q n c):=by
  have hl:=h.len
  obtain ⟨q,n,c,e⟩:=h.sl 0 (C[0]'(by omega)) (List.getElem?_eq_getElem (by omega))
  have:=h.row.2.1 0 _ (List.getElem?_eq_getElem (by omega))
  rw[e] at this
  exact ⟨q,n,c,this⟩
 have hoth:∀ k,k<W.heap.size→k≠g→(W.setCell ⟨g,j,none⟩ v).heap[k]? = W.heap[k]?:=fun k _ hk=>heap_setCell_other W ⟨g,j,none⟩ k v hk
 have hsz:W.heap.size≤(W.setCell ⟨g,j,none⟩ v).heap.size:=by rw[World.size_setCell];exact Nat.le_refl _
 have hr:Row (W.setCell ⟨g,j,none⟩ v) g (C.set j v):=row_set h.row j (by rw[h.len];exact hj) v
 refine ⟨h.bl.setCell (p:=⟨g,j,none⟩) (by show w.heap.size≤g;rw[h.gk];omega) v,hr,by rw[List.length_set];exact h.len,fun i u hu=>?_,fun i hi=>?_,?_,h.gk⟩
 ·by_cases hij:i=j
  ·subst hij
   rw[List.getElem?_set_self (by rw[h.len];exact hj)] at hu
   obtain rfl:=Option.some.inj hu
   obtain ⟨k,c,e,-⟩:=hv
   exact ⟨_,_,_,e⟩
  ·rw[List.getElem?_set_ne (fun e=>hij e.symm)] at hu
   exact h.sl i u hu
 ·by_cases hij:i=j
  ·subst hij
   exact ⟨v,by rw[List.getElem?_set_self (by rw[h.len];exact hj)],el_kept hv hsz g (el_ne hv hc0) hoth⟩
  ·obtain ⟨u,h1,h2⟩:=h.el i (by omega)
   exact ⟨u,by rw[List.getElem?_set_ne (fun e=>hij e.symm)];exact h1,el_kept h2 hsz g (el_ne h2 hc0) hoth⟩
 ·exact row_blk h.ks hsz (hoth _ h.ks.1 (by rw[h.gk];omega))
def nil20:List Value:=List.replicate 20 (.slice none 0 0)
theorem mk20 (w:World):(Instr.makeSlice 24 (.int .i64 20) (.int .i64 20)).run Tryd.prog w=.ok (.slice (some ⟨w.heap.size,0,none⟩) 20 20) (w.alloc (.cells nil20.toArray 23)):=by kernel_rfl
theorem uKS:(Tryd.prog.underlying 26).map (·.isRow)=some true:=by kernel_rfl
theorem iKS:(Tryd.prog.info? 26).map (·.size)=some 2:=by kernel_rfl
theorem zKS:∀ w:World,(zeroValue 26).run Tryd.prog w=.ok (.agg #[.slice none 0 0,.slice none 0 0]) w:=fun _=>by kernel_rfl
theorem idx20 (g j:Nat) (hj:j<20) (w:World):(Instr.indexAt 24 (.slice (some ⟨g,0,none⟩) 20 20) (.int .i64 j)).run Tryd.prog w=.ok (.pointer (some ⟨g,j,none⟩)) w:=by
 have h1:¬ (j:Int)<0:=by omega
 have h2:(j:Int)<20:=by omega
 go_simp
theorem one2 (a b:Value) (ha:a.oneCell'=true) (hb:b.oneCell'=true):(#[a,b]:Array Value).all (·.oneCell')=true:=
 Go.all_oneCell_toArray (cs:=[a,b]) fun v hv=>by
  rcases List.mem_cons.1 hv with rfl|hv
  ·exact ha
  ·rcases List.mem_cons.1 hv with rfl|hv
   ·exact hb
   ·cases hv
theorem round_calls (C:Fld P) (O:Ord N) (sq:Option Addr) (sc:Nat) (k:Bs) (nb:Nat) (hnb:nb<4294967296) (j:Nat) (hj:j<20):∃ (vG vy vB:Value) (T:List Value),
 (∀ W:World,Calls Tryd.prog 9 #[] W (Ret fun e w'=>Below W.heap.size W w'∧e=vG)) ∧
 (∀ W:World,SP.PartOk W (.slice sq 32 sc) k.toList→Calls Tryd.prog 11 #[.slice sq 32 sc,.int .u32 nb,.int .i64 j] W (Ret fun e w'=>Below W.heap.size W w'∧e=vy)) ∧
 (∀ W:World,Calls Tryd.prog 10 #[vG,vy] W (Ret fun e w'=>Below W.heap.size W w'∧∃ k,e=.slice (some ⟨k,0,none⟩) 1 1∧Row w' k T)) ∧
 (∀ (g2:Nat) (W:World),Row W g2 T→Calls Tryd.prog 12 #[.slice (some ⟨g2,0,none⟩) 1 1] W (Ret fun e w'=>Below W.heap.size W w'∧e=vB)) ∧
 (∀ W:World,Calls Tryd.prog 13 #[vB] W (Ret fun e w'=>Below W.heap.size W w'∧El 33 w' e (pkB P N k nb j))):=by
 refine ⟨pvl (wr (gG P)),nv (mkN N k nb j),pvl (pkB P N k nb j),wn (mkN N k nb j)++bl33 (wr (gG P)),fun W=>gen_c C W,fun W h=>mintKey_c O sq 32 sc k nb j hnb hj W h,fun W=>(ptTimes_c (wr (gG P)) (wr_size _) (mkN N k nb j) W).mono ?_,fun g2 W h=>one_point C O (mkN_lt O k nb j) (gG_on C) W h,fun W=>ptBytes_c (wr_size _) W⟩
 rintro e w' ⟨v,rfl,hb,k5,rfl,-,hR⟩
 exact ⟨_,rfl,hb,k5,rfl,hR⟩
def pkL (P N:Nat) [NeZero P] (k:Bs) (nb:Nat):List (List UInt8):=(List.range 20).map fun i=>(pkB P N k nb i).toList
def SetR (P N:Nat) [NeZero P] (w:World) (k:Bs) (nb:Nat) (e:Value) (w':World):Prop:=Below w.heap.size w w'∧∃ r g C,e=.tuple #[.agg #[.slice (some ⟨r,0,none⟩) 8 8,.slice (some ⟨g,0,none⟩) 20 20],.int .i64 0]∧Row w' g C∧C.length=20∧∀ i,i<20→∃ v,C[i]? = some v∧El 33 w' v (pkB P N k nb i)
theorem Set_c (C:Fld P) (O:Ord N) (sq:Option Addr) (sc:Nat) (k:Bs) (nb:Nat) (hnb:nb<4294967296) (w:World) (hk:SP.PartOk w (.slice sq 32 sc) k.toList) :
 Calls Tryd.prog 4 #[.slice sq 32 sc,.int .u32 nb] w (Ret (SetR P N w k nb)):=by
 obtain ⟨w1,hw1⟩:∃ w1,Hid (w.alloc (.cells #[.slice none 0 0,.slice none 0 0] 26)=w1):=⟨_,rfl⟩
 obtain ⟨w2,hw2⟩:∃ w2,Hid (w1.alloc (.cells nil20.toArray 23)=w2):=⟨_,rfl⟩
 have e1:w1.heap.size=w.heap.size+1:=by rw[← hw1.out,World.size_alloc]
 have hb01:Below w.heap.size w w1:=by rw[← hw1.out];exact below1 w _
 have hb12:Below w1.heap.size w1 w2:=by rw[← hw2.out];exact below1 w1 _
 have HK:=Hid.mk2 hk
 have K2:Hid (Pub w w2 (w.heap.size+1) (pkB P N k nb) 0 nil20):=by
  refine ⟨hb01.trans (hb12.mono hb01.size),?_,by decide,fun i v hv=>?_,fun i hi=>absurd hi (Nat.not_lt_zero _),?_,rfl⟩
  ·rw[← hw2.out,← e1];exact row_new w1 _ _
  ·obtain ⟨-,rfl⟩:i<20∧v=.slice none 0 0:=by
    have:=List.mem_of_getElem? hv
    exact ⟨(List.getElem?_eq_some_iff.1 hv).1,List.eq_of_mem_replicate this⟩
   exact ⟨_,_,_,rfl⟩
  ·have q1:Row w1 w.heap.size [.slice none 0 0,.slice none 0 0]:=by rw[← hw1.out];exact row_new w _ _
   exact q1.below hb12
 have hS:=isSeedY_c sq 32 sc w1
 have hmk:=mk20 w1
 have HRC:=Hid.mk2 (round_calls C O sq sc k nb hnb)
 have zk:=zKS
 rw[hw2.out,e1] at hmk
 clear hb01 hb12 hk C O
 go_enter Tryd.func4,Tryd.ntmps4
 go_wp2_with fail
 rw[hw1.out]
 refine hS.mono ?_
 rintro e w' ⟨rfl,rfl⟩
 clear hS hw1
 go_wp2_with fail
 have Hgg:Hid (∃ g,g=w.heap.size+1):=⟨_,rfl⟩
 generalize hgg:w.heap.size+1=g at K2 ⊢
 have HG:=Hid.mk2 hgg
 clear hgg hmk hw2 e1 Hgg
 go_loopg [7,15] 20 (fun gk s7 s15 wr=>∃ (j:Nat) (L:List Value),j+gk=20∧s15=.int .i64 j∧Hid (Pub w wr g (pkB P N k nb) j L))
 case atStart=>exact ⟨0,nil20,by omega,rfl,K2⟩
 case round =>
  clear K2
  obtain ⟨j,L,hj,rfl,KM⟩:=hrel
  by_cases hj20:j<20
  ·have hj':(j:Int)<20:=by omega
   obtain ⟨vG,vy,vB,T,f1,f2,f3,f4,f5⟩:=HRC.out j hj20
   have HGen:=Hid.mk2 (f1 wr)
   have HMk:=Hid.mk2 f2
   have HT:=Hid.mk2 f3
   have HOne:=Hid.mk2 f4
   have HBy:=Hid.mk2 f5
   clear f1 f2 f3 f4 f5
   have hidx:=idx20 g j hj20
   go_wp2_with fail
   refine HGen.out.mono ?_
   rintro e w3 ⟨v3,rfl,hb3,rfl⟩
   have K3:=Hid.mk2 hb3
   clear hb3 HGen
   go_wp2_with fail
   refine (HMk.out w3 (HK.out.below (KM.out.bl.trans (K3.out.mono KM.out.bl.size)))).mono ?_
   rintro e w4 ⟨v4,rfl,hb4,rfl⟩
   have K4:Hid (Below wr.heap.size wr w4):=K3.out.trans (hb4.mono K3.out.size)
   clear hb4 HMk K3
   go_wp2_with fail
   refine (HT.out w4).mono ?_
   rintro e w5 ⟨v5,rfl,hb5,k5,rfl,hR5⟩
   have K5:Hid (Below wr.heap.size wr w5∧Row w5 k5 T):=⟨K4.out.trans (hb5.mono K4.out.size),hR5⟩
   clear hb5 hR5 HT K4
   go_wp2_with fail
   refine (HOne.out k5 w5 K5.out.2).mono ?_
   rintro e w6 ⟨v6,rfl,hb6,rfl⟩
   have K6:Hid (Below wr.heap.size wr w6):=K5.out.1.trans (hb6.mono K5.out.1.size)
   clear hb6 HOne K5
   go_wp2_with fail
   refine (HBy.out w6).mono ?_
   rintro e w7 ⟨v7,rfl,hb7,hE7⟩
   have hP7:Pub w w7 g (pkB P N k nb) j L:=KM.out.below (K6.out.trans (hb7.mono K6.out.size))
   have hz7:w7.frozen? ⟨g,j,none⟩=false:=by
    have:=(hP7.row.2.2 j (by rw[hP7.len];exact hj20)).2
    rw[Nat.zero_add] at this
    exact this
   obtain ⟨u7,hu7⟩:∃ u,w7.cell? ⟨g,j,none⟩=some u:=⟨_,hP7.row.cell (j:=j) (by rw[hP7.len];exact hj20)⟩
   have KN:Hid (Pub w (w7.setCell ⟨g,j,none⟩ v7) g (pkB P N k nb) (j+1) (L.set j v7)):=hP7.put hj20 hE7
   obtain ⟨k7,c7,hv7,-⟩:=hE7
   subst hv7
   clear hb7 hP7 KM K6 HBy
   go_wp2
   go_roundg (gk-1)
   case measure=>omega
   case rel=>exact ⟨j+1,L.set j (.slice (some ⟨k7,0,none⟩) 33 c7),by omega,rfl,KN⟩
  ·have hj':¬ (j:Int)<20:=by omega
   obtain rfl:j=20:=by omega
   have hpl:(pkL P N k nb).length=20:=by unfold pkL;rw[List.length_map,List.length_range]
   have hTg:=SP.Tag_any ⟨#[107,101,121,115,101,116]⟩ (some ⟨g,0,none⟩) 20 (pkL P N k nb) wr (by decide) (by rw[hpl];decide) (Or.inr ⟨g,0,rfl,fun i hi=>?_⟩)
   rotate_left
   ·rw[hpl] at hi
    obtain ⟨v,h1,h2⟩:=KM.out.el i hi
    have hc:=KM.out.row.2.1 i v h1
    refine ⟨v,hc,?_⟩
    have e:(pkL P N k nb)[i]! = (pkB P N k nb i).toList:=by
     rw[getElem!_pos _ i (by rw[hpl];exact hi)]
     unfold pkL
     rw[List.getElem_map,List.getElem_range]
    rw[e]
    obtain ⟨k',c',e1,e2,e3,e4,e5⟩:=h2
    exact ⟨some ⟨k',0,none⟩,k',0,c',pkB P N k nb i,by rw[e1,e3],rfl,by omega,by omega,Or.inr ⟨rfl,e5⟩⟩
   rw[hpl] at hTg
   have K3:=KM
   clear KM HRC HK
   go_wp2_with fail
   refine hTg.mono ?_
   rintro e w4 ⟨r,rfl,hr,hb4,hH4⟩
   have K4:Hid (Pub w w4 g (pkB P N k nb) 20 L):=K3.out.below hb4
   have hsl:∀ W:World,(Instr.sliceAt 23 (.slice (some ⟨r,0,none⟩) 32 32) none (some (.int .i64 8)) (some (.int .i64 8))).run Tryd.prog W=.ok (.slice (some ⟨r,0,none⟩) 8 8) W:=fun W=>by kernel_rfl
   clear hTg hr hb4 hH4 K3
   obtain ⟨w5,hw5⟩:∃ w5,Hid (w4.setCells w.heap.size 0 [.slice (some ⟨r,0,none⟩) 8 8,.slice (some ⟨g,0,none⟩) 20 20]=w5):=⟨_,rfl⟩
   have K5:Hid (Row w5 w.heap.size [.slice (some ⟨r,0,none⟩) 8 8,.slice (some ⟨g,0,none⟩) 20 20]∧SetR P N w k nb (.tuple #[.agg #[.slice (some ⟨r,0,none⟩) 8 8,.slice (some ⟨g,0,none⟩) 20 20],.int .i64 0]) w5):=by
    rw[← hw5.out]
    have k4:=K4.out
    have hb5:Below w.heap.size w (w4.setCells w.heap.size 0 [.slice (some ⟨r,0,none⟩) 8 8,.slice (some ⟨g,0,none⟩) 20 20]):=RG.below_setCells (Nat.le_refl _) _ _ _ k4.bl
    refine ⟨k4.ks.put rfl,hb5,r,g,L,rfl,k4.row.other (by rw[← HG.out];omega),k4.len,fun i hi=>?_⟩
    obtain ⟨v,h1,h2⟩:=k4.el i hi
    refine ⟨v,h1,el_kept h2 (by rw[RG.setCells_size];exact Nat.le_refl _) w.heap.size (el_ne h2 (by have:=k4.ks.2.1 0 _ rfl;exact this)) (fun k' _ hk'=>RG.setCells_other _ _ _ _ _ hk')⟩
   go_wp2_with (refine wpList_store_mid rfl 26 _ _ rfl w.heap.size 0 #[.slice (some ⟨r,0,none⟩) 8 8,.slice (some ⟨g,0,none⟩) 20 20] ?_ ?_ ?_ ?_ ?_ ?_;rfl;rfl;exact K4.out.ks.2.2;exact iKS;exact one2 _ _ rfl rfl;rw[show (#[Value.slice (some ⟨r,0,none⟩) 8 8,.slice (some ⟨g,0,none⟩) 20 20]:Array Value).toList=[.slice (some ⟨r,0,none⟩) 8 8,.slice (some ⟨g,0,none⟩) 20 20] from rfl,hw5.out])
   trace_state
   refine bodyPost_ret (results_cY 4 5 26 rfl K5.out.1 rfl rfl uKS iKS) rfl ?_
   exact ⟨_,rfl,K5.out.2⟩
theorem copy_cut {P:Program} (w:World) (dT sT ty elem:TypeId) (b dLen dCap:Nat) (t:ByteArray) (hu:P.underlying dT=some (.slice elem)) (hz:∀ w,(Go.sizeOf elem).run P w=.ok 1 w)
 (hc:∀ j,j<dLen→(w.cell? ⟨b,0+j,none⟩).isSome=true) (hf:∀ j,j<dLen→w.frozen? ⟨b,0+j,none⟩=false) :
 (Builtin.copy_ #[dT,sT] ty #[.slice (some ⟨b,0,none⟩) dLen dCap,.string t]).run P w=.ok (goInt (Nat.min t.size dLen)) (w.setCells b 0 ((t.data.toList.take dLen).map fun x=>Value.int .u8 (x.toNat:Int))):=by
 by_cases hle:t.size≤dLen
 ·rw[run_copy_string w dT sT ty elem b 0 dLen dCap t hu hz hle (fun j hj=>hc j (by omega)) (fun j hj=>hf j (by omega)),show Nat.min t.size dLen=t.size from Nat.min_eq_left hle,List.take_of_length_le (by rw[← Lib.size_eq];exact hle)]
 ·have hmin:Nat.min t.size dLen=dLen:=Nat.min_eq_right (by omega)
  have hl:((t.data.toList.take dLen).map fun x=>Value.int .u8 (x.toNat:Int)).length=dLen:=by rw[List.length_map,List.length_take,← Lib.size_eq];omega
  have hst:=run_storeCells_cells (P:=P) b 0 ((t.data.toList.take dLen).map fun x=>Value.int .u8 (x.toNat:Int)) 0 w (by rw[hl];simpa using hc) (by rw[hl];simpa using hf) (by
   intro v hv
   obtain ⟨x,_,rfl⟩:=List.mem_map.1 hv
   rfl)
  rw[hmin]
  simp[Builtin.copy_,run_underlying hu,Builtin.lenOf,Builtin.firstCells,hz,hmin]
  rw[List.map_take] at hst
  rw[hst]
  rfl
def padB (s:ByteArray):Bs:=(s.data.toList.take 32++List.replicate (32-s.data.toList.length) 0).toArray
theorem padB_size (s:ByteArray):(padB s).size=32:=by
 unfold padB
 rw[List.size_toArray,List.length_append,List.length_take,List.length_replicate]
 omega
theorem padB_at (s:ByteArray) (j:Nat) (hj:j<32):(padB s)[j]! = (s.data.toList.take 32++List.replicate (32-s.data.toList.length) 0)[j]'(by rw[List.length_append,List.length_take,List.length_replicate];omega):=by
 rw[getElem!_pos (padB s) j (by rw[padB_size];exact hj)]
 rfl
theorem seed_c (s:ByteArray) (w:World):∃ W1 W2:World,
 (Instr.makeSlice 23 (.int .i64 32) (.int .i64 32)).run Tryd.prog w=.ok (.slice (some ⟨w.heap.size,0,none⟩) 32 32) W1 ∧
 (Builtin.copy_ #[23,9] 3 #[.slice (some ⟨w.heap.size,0,none⟩) 32 32,.string s]).run Tryd.prog W1=.ok (goInt (Nat.min s.size 32)) W2 ∧
 Below w.heap.size w W2∧SP.PartOk W2 (.slice (some ⟨w.heap.size,0,none⟩) 32 32) (padB s).toList:=by
 have hmk:=run_make_row' (P:=Tryd.prog) 23 5 (.int .u8 0) 1 SP.slice22 SP.info5 rfl .i64 .i64 32 (by omega) (by omega) w
 have hH0:Holds encB (w.alloc (.cells (madeCells #[.int .u8 0] 32) 5)) w.heap.size 0 (Array.replicate 32 0):=SP.Holds.made (enc:=encB) w 5 32 0
 have hcp:=copy_cut (P:=Tryd.prog) (w.alloc (.cells (madeCells #[.int .u8 0] 32) 5)) 23 9 3 5 w.heap.size 32 32 s SP.slice22 SP.size5
  (fun j hj=>by rw[(hH0 j (by rw[Array.size_replicate];omega)).1];rfl) (fun j hj=>(hH0 j (by rw[Array.size_replicate];omega)).2)
 refine ⟨_,_,hmk,hcp,RG.below_setCells (Nat.le_refl _) _ _ _ (below1 w _),some ⟨w.heap.size,0,none⟩,w.heap.size,0,32,padB s,by rw[padB_size],rfl,by rw[padB_size];omega,by rw[padB_size];omega,Or.inr ⟨rfl,?_⟩⟩
 refine SP.Holds.setCells (o:=0) (p:=0) hH0 _ (by rw[padB_size,Array.size_replicate]) (by rw[List.length_map,List.length_take,Array.size_replicate];omega) (fun j hj=>?_) (fun j hj hout=>?_)
 ·rw[List.length_map] at hj
  have hj':=hj
  rw[List.length_take] at hj'
  rw[Nat.zero_add,padB_at s j (by omega),List.getElem_map,List.getElem_append_left hj]
  rfl
 ·rw[Array.size_replicate] at hj
  rw[List.length_map] at hout
  have ho:(s.data.toList.take 32).length≤j:=by omega
  rw[padB_at s j hj,SP.rep_at 32 j hj,List.getElem_append_right ho,List.getElem_replicate]
theorem shl1 (j:Nat) (hj:j<20):IntKind.u64.wrap ((2:Int)^j)=((2^j:Nat):Int):=by
 have:j=0∨j=1∨j=2∨j=3∨j=4∨j=5∨j=6∨j=7∨j=8∨j=9∨j=10∨j=11∨j=12∨j=13∨j=14∨j=15∨j=16∨j=17∨j=18∨j=19:=by omega
 rcases this with rfl|rfl|rfl|rfl|rfl|rfl|rfl|rfl|rfl|rfl|rfl|rfl|rfl|rfl|rfl|rfl|rfl|rfl|rfl|rfl<;>rfl
structure Kt (w W:World) (g b:Nat) (r:Nat) (C:List Value) (S:Nat→Bs):Prop where
 bl:Below w.heap.size w W
 row:Row W g C
 len:C.length=20
 el:∀ i,i<20→∃ v,C[i]? = some v∧El 33 W v (S i)
 ks:Row W b [.slice (some ⟨r,0,none⟩) 8 8,.slice (some ⟨g,0,none⟩) 20 20]
theorem Kt.below {w W W':World} {g b r:Nat} {C:List Value} {S:Nat→Bs} (h:Kt w W g b r C S) (hb:Below W.heap.size W W'):Kt w W' g b r C S:=
 ⟨h.bl.trans (hb.mono h.bl.size),h.row.below hb,h.len,fun i hi=>by
  obtain ⟨v,h1,h2⟩:=h.el i hi
  exact ⟨v,h1,el_bel h2 hb⟩,h.ks.below hb⟩
theorem law_calls (C:Fld P) (O:Ord N) (sq:Option Addr) (sc:Nat) (k:Bs) (nb:Nat) (hnb:nb<4294967296) (j:Nat) (hj:j<20):∃ B T:Bs,B.size=32 ∧
 (∀ W:World,SP.PartOk W (.slice sq 32 sc) k.toList→TabX W→Calls Tryd.prog 5 #[.slice sq 32 sc,.int .u32 nb,.int .u64 ((2^j:Nat):Int)] W (Ret fun e w'=>Below W.heap.size W w'∧∃ g,e=.tuple #[.slice (some ⟨g,0,none⟩) 32 32,.int .i64 0]∧g<w'.heap.size∧Holds encB w' g 0 B)) ∧
 (∀ W:World,Calls Tryd.prog 7 #[] W (Ret fun e w'=>Below W.heap.size W w'∧BytesR W T e w')) ∧
 (∀ (W:World) (g c gs:Nat),gs<W.heap.size→Holds encB W gs 0 B→(33≤c∧g<W.heap.size∧Holds encB W g 0 T)→Calls Tryd.prog 6 #[.slice (some ⟨gs,0,none⟩) 32 32,.slice (some ⟨g,0,none⟩) 33 c] W (Ret fun e w'=>Below W.heap.size W w'∧OutP W (pkB P N k nb j) e w')):=by
 have hlt:=mkN_lt O k nb j
 have hv:beV (bx (mkN N k nb j)).toList=mkN N k nb j:=bx_val (Nat.lt_of_lt_of_le hlt O.le)
 refine ⟨bx (mkN N k nb j),wr (gG P),bx_size _,fun W h hT=>Key_c O sq sc k nb j _ hnb hj rfl W h hT,fun W=>Base_c C W,fun W g c gs h1 h2 h3=>?_⟩
 have:=times_k C O.gap O.le (bx_size (mkN N k nb j)) (by rw[hv];exact hlt) h1 h2 (X:=gG P) (c:=c) (g:=g) ⟨h3.1,h3.2.1,gG_on C,h3.2.2⟩
 rw[hv] at this
 exact this
theorem trueL_core (C:Fld P) (O:Ord N) (s:ByteArray) (nb:Nat) (hnb:nb<4294967296) (i:Int) (n:Nat) (hn:n<9223372036854775808) (hi:i=(n:Int)∨i = -(n:Int)-1) (w:World) (hT:TabX w) :
 Calls Tryd.prog 3 #[.string s,.int .u32 nb,.int .i64 i] w fun e w'=>e=.returned (.bool true)∧Below w.heap.size w w':=by
 obtain ⟨w1,w2,hmk,hcp,hb2,hP2⟩:=seed_c s w
 obtain ⟨j,hj,hj20⟩:∃ j,Hid (n%20=j)∧j<20:=⟨_,rfl,Nat.mod_lt _ (by decide)⟩
 have hm:(n:Int)%20=(j:Int):=by
  have h:n%20=j:=hj.out
  omega
 have HM:=Hid.mk2 hm
 have hS:=Set_c C O (some ⟨w.heap.size,0,none⟩) 32 (padB s) nb hnb w2 hP2
 obtain ⟨B,T,hB32,HK,HB,HT⟩:=law_calls C O (some ⟨w.heap.size,0,none⟩) 32 (padB s) nb hnb j hj20
 have HK:=Hid.mk2 HK
 have HB:=Hid.mk2 HB
 have HT:=Hid.mk2 HT
 have K2:Hid (Below w.heap.size w w2∧SP.PartOk w2 (.slice (some ⟨w.heap.size,0,none⟩) 32 32) (padB s).toList∧TabX w2):=⟨hb2,hP2,hT.below hb2⟩
 have hshl:Hid (IntKind.u64.wrap ((2:Int)^j)=((2^j:Nat):Int)):=shl1 j hj20
 unfold SetR at hS
 generalize padB s=K at hS HK K2 HT
 generalize 2^j=x at hshl HK
 have zk:=zKS
 generalize hX:pkB P N K nb=S at hS HT
 have HJ:=Hid.mk2 hj20
 generalize goInt (Nat.min s.size 32)=gi at hcp
 clear hX hb2 hP2 hT C O hj hm
 go_enter Tryd.func3,Tryd.ntmps3
 rcases hi with rfl|rfl
 ·have a1:¬ (n:Int)<0:=by omega
  go_wp2_with fail
  rw[HM.out]
  refine hS.mono ?_
  rintro e w3 ⟨v3,rfl,hb3,r,g,C,rfl,hRow,hlen,hel⟩
  obtain ⟨w4,hw4⟩:∃ w4,Hid (w3.alloc (.cells #[.slice none 0 0,.slice none 0 0] 26)=w4):=⟨_,rfl⟩
  obtain ⟨w5,hw5⟩:∃ w5,Hid (w4.setCells w3.heap.size 0 [.slice (some ⟨r,0,none⟩) 8 8,.slice (some ⟨g,0,none⟩) 20 20]=w5):=⟨_,rfl⟩
  have hth:Hid (w4.there w3.heap.size 0 2):=by rw[← hw4.out];exact (row_new w3 _ _).2.2
  have K5:Hid (Kt w w5 g w3.heap.size r C S∧SP.PartOk w5 (.slice (some ⟨w.heap.size,0,none⟩) 32 32) K.toList∧TabX w5):=by
   have b3:=K2.out.1.trans (hb3.mono K2.out.1.size)
   have hb5:Below w3.heap.size w3 w5:=by rw[← hw5.out,← hw4.out];exact RG.below_setCells (Nat.le_refl _) _ _ _ (below1 w3 _)
   refine ⟨⟨b3.trans (hb5.mono b3.size),hRow.below hb5,hlen,fun i hi=>?_,?_⟩,(K2.out.2.1.below hb3).below hb5,(K2.out.2.2.below hb3).below hb5⟩
   ·obtain ⟨v,h1,h2⟩:=hel i hi
    exact ⟨v,h1,el_bel h2 hb5⟩
   ·rw[← hw5.out,← hw4.out]
    exact (row_new w3 [.slice none 0 0,.slice none 0 0] _).put rfl
  clear hS hb3 hRow hlen hel K2
  go_wp2_with (first|(refine wpList_op (v:=.pointer (some ⟨w3.heap.size,0,none⟩)) (w':=w4) rfl (.alloc 26) rfl ?_ ?_;(rw[← hw4.out];kernel_rfl))|(refine wpList_store_mid rfl 26 _ _ rfl w3.heap.size 0 #[.slice (some ⟨r,0,none⟩) 8 8,.slice (some ⟨g,0,none⟩) 20 20] ?_ ?_ ?_ ?_ ?_ ?_;rfl;rfl;exact hth.out;exact iKS;exact one2 _ _ rfl rfl;rw[show (#[.slice (some ⟨r,0,none⟩) 8 8,.slice (some ⟨g,0,none⟩) 20 20]:Array Value).toList=[.slice (some ⟨r,0,none⟩) 8 8,.slice (some ⟨g,0,none⟩) 20 20] from rfl,hw5.out])|fail)
  rw[hshl.out]
  refine (HK.out w5 K5.out.2.1 K5.out.2.2).mono ?_
  rintro e w6 ⟨v6,rfl,hb6,gk,rfl,hgk,hHk⟩
  have K6:Hid (Kt w w6 g w3.heap.size r C S∧gk<w6.heap.size∧Holds encB w6 gk 0 B):=⟨K5.out.1.below hb6,hgk,hHk⟩
  clear hb6 hgk hHk K5 HK hw4 hw5 hth
  go_wp2_with fail
  refine (HB.out w6).mono ?_
  rintro e w7 ⟨v7,rfl,hb7,gb,cb,rfl,hcb,-,hgb,hHb⟩
  have K7:Hid (Kt w w7 g w3.heap.size r C S∧(gk<w7.heap.size∧Holds encB w7 gk 0 B)∧33≤cb∧gb<w7.heap.size∧Holds encB w7 gb 0 T):=⟨K6.out.1.below hb7,⟨Nat.lt_of_lt_of_le K6.out.2.1 hb7.size,Holds.below K6.out.2.2 hb7 K6.out.2.1⟩,hcb,hgb,hHb⟩
  clear hb7 hcb hgb hHb K6 HB
  go_wp2_with fail
  refine (HT.out w7 gb cb gk K7.out.2.1.1 K7.out.2.1.2 K7.out.2.2).mono ?_
  rintro e w8 ⟨v8,rfl,hb8,gp,cp,rfl,hcp8,-,hgp,hHp⟩
  have k8:=K7.out.1.below hb8
  obtain ⟨v,hv1,kv,cv,rfl,-,hsz,-,hHv⟩:=k8.el j HJ.out
  have c0:=k8.ks.2.1 0 _ rfl
  have c1:=k8.ks.2.1 1 _ rfl
  have cj:=k8.row.2.1 j _ hv1
  rw[Nat.zero_add] at c0 c1 cj
  have K8:Hid (∀ q,Below w.heap.size w (w8.drewN q)):=fun q=>⟨k8.bl.os,k8.bl.tape,k8.bl.output,k8.bl.size,k8.bl.block⟩
  have k1:=fun q=>SP.conv_str Tryd.prog 23 9 5 SP.slice22 SP.int5 SP.str9 (w8.drewN q) kv 0 33 cv (S j) hHv hsz
  have k2:=fun q=>SP.conv_str Tryd.prog 23 9 5 SP.slice22 SP.int5 SP.str9 (w8.drewN q) gp 0 33 cp (S j) hHp hsz
  have hix:=idx20 g j HJ.out
  generalize S j=X at k1 k2
  clear k8 hb8 hv1 hsz hHv hHp hgp hcp8 K7 HT
  go_wp2
  go_quiet (fail)
  go_wp2
  go_ret
  exact ⟨by simp,K8.out _⟩
 ·have a1:-(n:Int)-1<0:=by omega
  go_wp2_with fail
  rw[HM.out]
  refine hS.mono ?_
  rintro e w3 ⟨v3,rfl,hb3,r,g,C,rfl,hRow,hlen,hel⟩
  obtain ⟨w4,hw4⟩:∃ w4,Hid (w3.alloc (.cells #[.slice none 0 0,.slice none 0 0] 26)=w4):=⟨_,rfl⟩
  obtain ⟨w5,hw5⟩:∃ w5,Hid (w4.setCells w3.heap.size 0 [.slice (some ⟨r,0,none⟩) 8 8,.slice (some ⟨g,0,none⟩) 20 20]=w5):=⟨_,rfl⟩
  have hth:Hid (w4.there w3.heap.size 0 2):=by rw[← hw4.out];exact (row_new w3 _ _).2.2
  have K5:Hid (Kt w w5 g w3.heap.size r C S∧SP.PartOk w5 (.slice (some ⟨w.heap.size,0,none⟩) 32 32) K.toList∧TabX w5):=by
   have b3:=K2.out.1.trans (hb3.mono K2.out.1.size)
   have hb5:Below w3.heap.size w3 w5:=by rw[← hw5.out,← hw4.out];exact RG.below_setCells (Nat.le_refl _) _ _ _ (below1 w3 _)
   refine ⟨⟨b3.trans (hb5.mono b3.size),hRow.below hb5,hlen,fun i hi=>?_,?_⟩,(K2.out.2.1.below hb3).below hb5,(K2.out.2.2.below hb3).below hb5⟩
   ·obtain ⟨v,h1,h2⟩:=hel i hi
    exact ⟨v,h1,el_bel h2 hb5⟩
   ·rw[← hw5.out,← hw4.out]
    exact (row_new w3 [.slice none 0 0,.slice none 0 0] _).put rfl
  clear hS hb3 hRow hlen hel K2
  go_wp2_with (first|(refine wpList_op (v:=.pointer (some ⟨w3.heap.size,0,none⟩)) (w':=w4) rfl (.alloc 26) rfl ?_ ?_;(rw[← hw4.out];kernel_rfl))|(refine wpList_store_mid rfl 26 _ _ rfl w3.heap.size 0 #[.slice (some ⟨r,0,none⟩) 8 8,.slice (some ⟨g,0,none⟩) 20 20] ?_ ?_ ?_ ?_ ?_ ?_;rfl;rfl;exact hth.out;exact iKS;exact one2 _ _ rfl rfl;rw[show (#[.slice (some ⟨r,0,none⟩) 8 8,.slice (some ⟨g,0,none⟩) 20 20]:Array Value).toList=[.slice (some ⟨r,0,none⟩) 8 8,.slice (some ⟨g,0,none⟩) 20 20] from rfl,hw5.out])|fail)
  rw[hshl.out]
  refine (HK.out w5 K5.out.2.1 K5.out.2.2).mono ?_
  rintro e w6 ⟨v6,rfl,hb6,gk,rfl,hgk,hHk⟩
  have K6:Hid (Kt w w6 g w3.heap.size r C S∧gk<w6.heap.size∧Holds encB w6 gk 0 B):=⟨K5.out.1.below hb6,hgk,hHk⟩
  clear hb6 hgk hHk K5 HK hw4 hw5 hth
  go_wp2_with fail
  refine (HB.out w6).mono ?_
  rintro e w7 ⟨v7,rfl,hb7,gb,cb,rfl,hcb,-,hgb,hHb⟩
  have K7:Hid (Kt w w7 g w3.heap.size r C S∧(gk<w7.heap.size∧Holds encB w7 gk 0 B)∧33≤cb∧gb<w7.heap.size∧Holds encB w7 gb 0 T):=⟨K6.out.1.below hb7,⟨Nat.lt_of_lt_of_le K6.out.2.1 hb7.size,Holds.below K6.out.2.2 hb7 K6.out.2.1⟩,hcb,hgb,hHb⟩
  clear hb7 hcb hgb hHb K6 HB
  go_wp2_with fail
  refine (HT.out w7 gb cb gk K7.out.2.1.1 K7.out.2.1.2 K7.out.2.2).mono ?_
  rintro e w8 ⟨v8,rfl,hb8,gp,cp,rfl,hcp8,-,hgp,hHp⟩
  have k8:=K7.out.1.below hb8
  obtain ⟨v,hv1,kv,cv,rfl,-,hsz,-,hHv⟩:=k8.el j HJ.out
  have c0:=k8.ks.2.1 0 _ rfl
  have c1:=k8.ks.2.1 1 _ rfl
  have cj:=k8.row.2.1 j _ hv1
  rw[Nat.zero_add] at c0 c1 cj
  have K8:Hid (∀ q,Below w.heap.size w (w8.drewN q)):=fun q=>⟨k8.bl.os,k8.bl.tape,k8.bl.output,k8.bl.size,k8.bl.block⟩
  have k1:=fun q=>SP.conv_str Tryd.prog 23 9 5 SP.slice22 SP.int5 SP.str9 (w8.drewN q) kv 0 33 cv (S j) hHv hsz
  have k2:=fun q=>SP.conv_str Tryd.prog 23 9 5 SP.slice22 SP.int5 SP.str9 (w8.drewN q) gp 0 33 cp (S j) hHp hsz
  have hix:=idx20 g j HJ.out
  generalize S j=X at k1 k2
  clear k8 hb8 hv1 hsz hHv hHp hgp hcp8 K7 HT
  go_wp2
  go_quiet (fail)
  go_wp2
  go_ret
  exact ⟨by simp,K8.out _⟩
theorem fld:∃ (P:Nat) (_:NeZero P),Fld P:=by
 obtain ⟨P,hz,hP,hc⟩:=EC.cur
 have h0:P=Go.Proofs.YtgdfkblfggnnfaaDoor.p0:=by rw[hP];decide +kernel
 have hg:=gap0
 have h2:2≤Go.Proofs.YtgdfkblfggnnfaaDoor.p0%18446744073709551616:=by decide +kernel
 have h4:Go.Proofs.YtgdfkblfggnnfaaDoor.p0/4%18446744073709551616<18446744073709551615:=by decide +kernel
 have h3:Go.Proofs.YtgdfkblfggnnfaaDoor.p0%4=3:=by decide +kernel
 have h7:7<Go.Proofs.YtgdfkblfggnnfaaDoor.p0:=by decide +kernel
 rw[← h0] at hg h2 h4 h3 h7
 exact ⟨P,hz,⟨hg,hc,h2,h4,h3,h7⟩⟩
end
/-
  THE ROW OF 'KeysTrue' round its walk: a text, two numbers; a table that the program lays; and the tied card.
-/
namespace keysTrue
open Go.ChangeShapes Go.WideShapes Go.ChangeAt Go.RowKit
open Go.ChangeMaps (open_string shut_string)
theorem own:ownKnob Tryd.prog.godebug=none:=by kernel_rfl
theorem gTab : Tryd.prog.globalNamed "math/bits.deBruijn64tab" = some 0 := by kernel_rfl
theorem tTab:(Tryd.prog.globals[0]?).map (·.type)=some 88:=by kernel_rfl
theorem uTab:Tryd.prog.underlying 88=some (.array 64 5):=by kernel_rfl
theorem u5:Tryd.prog.underlying 5=some (.int .u8):=by kernel_rfl
theorem c5:Tryd.prog.cellsOf 5=1:=by kernel_rfl
theorem cTab:Tryd.prog.cellsOf 88=64:=by kernel_rfl
theorem door_met (os:Os) (args:Array Value):laidMetH Tryd.prog Rows.keysTrueRow.laid ((World.doorLaid Tryd.prog 14 os).forCall (fun _ _=>0) ⟨#[],args,[]⟩).memory:=
 laidMetH_of_parts3 (fuel:=8) (laidMet_of_run' 8 (by kernel_rfl) (by kernel_rfl)) (by kernel_rfl) (by kernel_rfl)
def zs:List Int:=Lib.deBruijn64tab.map fun n:Nat=>(n:Int)
theorem laid_is : (Rows.keysTrueRow.laid : List (String × DataW Unit)) = [("math/bits.deBruijn64tab", Lib.tabData .u8 zs)] := by kernel_rfl
theorem of_laid {W:World} (h:laidMetH Tryd.prog Rows.keysTrueRow.laid W):TabX W:=by
 rw[MakeChecks.laidMetH_plain _ _ _ (by kernel_rfl),laid_is] at h
 have hT:=Lib.tabIs_of_head gTab tTab uTab u5 c5 cTab h
 intro i hi
 have hl:i<zs.length:=by show i<(Lib.deBruijn64tab.map _).length;rw[List.length_map];exact hi
 rw[hT.cell gTab i hl]
 congr 2
 unfold zs
 rw[List.getD_eq_getElem?_getD,List.getElem?_map,List.getD_eq_getElem?_getD]
 cases Lib.deBruijn64tab[i]? <;> rfl
theorem ordT:Ord Go.Proofs.YtgdfkblfggnnfaaDoor.p1:=⟨gap1,refP1,by decide +kernel,by decide +kernel⟩
theorem trueL (s:ByteArray) (nb:Nat) (hnb:nb<4294967296) (i:Int) (h1:-9223372036854775808≤i) (h2:i≤9223372036854775807) (w:World) (hT:TabX w) :
 Calls Tryd.prog 3 #[.string s,.int .u32 nb,.int .i64 i] w fun e w'=>e=.returned (.bool true)∧Below w.heap.size w w':=by
 obtain ⟨P,hz,C⟩:=fld
 by_cases h:0≤i
 ·exact trueL_core C ordT s nb hnb i i.toNat (by omega) (Or.inl (by omega)) w hT
 ·exact trueL_core C ordT s nb hnb i (-i-1).toNat (by omega) (Or.inr (by omega)) w hT
theorem lifted (os:Os) (started:os.Started) (H:Type) (enc:TypeId × Value→H) :
 ReturnsInHanded {} Tryd.checked os 3 .any (fun w args=>(Rows.keysTrueSpec.pre enc Tryd.prog Tryd.f3 [] false w args∧laidMetH Tryd.prog Rows.keysTrueRow.laid w)∧sizedMet enc Tryd.prog Tryd.f3 (OpenSpec.ofChange Rows.keysTrueSpec) false w args)
  (Rows.keysTrueSpec.post enc Tryd.prog Tryd.f3 false true false false):=by
 refine returnsInHanded_of_change_and (C:=Tryd.checked) (X:=fun w _=>laidMetH Tryd.prog Rows.keysTrueRow.laid w) (fun _ _ _ hh h=>h.of_heap hh) own started (by kernel_rfl) Tryd.func3
  (ChangeSpec.witness_shaped (enc:=enc) (C:=Tryd.checked) (os:=os) (X:=fun w _=>laidMetH Tryd.prog Rows.keysTrueRow.laid w) false (World.doorLaid Tryd.prog 14 os) #[.string ByteArray.empty,.int .u32 0,.int .i64 0] 8 rfl (World.shaped_of_RefB (by kernel_rfl) (by kernel_rfl)) (by kernel_rfl) (by kernel_rfl) (by kernel_rfl) (door_met os _)) ?_
 intro W base args ds gs before hval0 hW _ _ hL _
 have hval:∀ (j:Nat) t v,Tryd.f3.params[j]? = some t→args[j]? = some v→Value.okWide Tryd.prog W .any base t v:=hval0
 have hW':=hW
 obtain ⟨p,q,hA0,hV,rfl,hfz,hnd⟩:=hW
 have hA:DataW.TrodAll enc Tryd.prog W 0 (fun _=>true) true Tryd.f3.params.toList args.toList ds p:=hA0
 rw[Tryd.params3] at hA hval
 obtain ⟨v0,vs0,d0,ds0,p0,q0,hargs,rfl,rfl,h0,r0⟩:=trodAll_cons hA
 obtain ⟨v1,vs1,d1,ds1,p1',q1,rfl,rfl,rfl,h1,r1⟩:=trodAll_cons r0
 obtain ⟨v2,vs2,d2,ds2,p2,q2,rfl,rfl,rfl,h2,r2⟩:=trodAll_cons r1
 obtain ⟨rfl,rfl,rfl⟩:=trodAll_nil r2
 obtain rfl:args=#[v0,v1,v2]:=by cases args;simp_all
 obtain ⟨rfl,rfl⟩:=trodVars_none hV
 obtain ⟨a0,rfl,rfl,rfl,w0⟩:=open_string Tryd.underlying9 (hval 0 9 v0 rfl rfl) h0
 obtain ⟨a1,rfl,rfl,rfl,w1⟩:=open_int Tryd.underlying22 (hval 1 22 v1 rfl rfl) h1
 obtain ⟨a2,rfl,rfl,rfl,w2⟩:=open_int Tryd.underlying3 (hval 2 3 v2 rfl rfl) h2
 have hr1:0≤a1∧a1≤4294967295:=by
  simp only[Lit.wf,Bool.and_eq_true,decide_eq_true_eq] at w1
  exact w1
 have hr2:-9223372036854775808≤a2∧a2≤9223372036854775807:=by
  simp only[Lit.wf,Bool.and_eq_true,decide_eq_true_eq] at w2
  exact w2
 obtain ⟨nb,rfl⟩:∃ nb:Nat,a1=(nb:Int):=⟨a1.toNat,by omega⟩
 refine (trueL a0 nb (by omega) a2 hr2.1 hr2.2 W (of_laid hL)).mono fun e W' ⟨he,bel⟩=>?_
 subst he
 exact ⟨_,rfl,_,_,_,[],_,[],hW',trodAll_mk1 (shut_bool Tryd.underlying4 _),(trodAll_cons_mk (shut_string Tryd.underlying9 w0) (trodAll_cons_mk (shut_int Tryd.underlying22 w1) (trodAll_cons_mk (shut_int Tryd.underlying3 w2) trodAll_mk0))),rfl,bel.frame _,fun h=>by cases h⟩
theorem over:Rows.KeysTrueSaid:=
 OpenClaim.holds_of_wide 3 Tryd.f3 rfl rfl rfl rfl rfl rfl rfl ⟨rfl,rfl,rfl,rfl,rfl⟩ rfl rfl rfl rfl rfl (by kernel_rfl) Tryd.func3 (by kernel_rfl)
  (of_decide_eq_true (by kernel_rfl)) (by unfold Func.isWrapper;first|(rw[if_pos (by decide +kernel)];kernel_rfl)|(rw[if_neg (by decide +kernel)];exact ⟨rfl,rfl⟩))
  (fun os started H enc _=>lifted os started H enc)
theorem card_holds : Rows.KeysTrueCardSaid:=
  Claim7.holds_tied_plain_at .later [] [.data] true Rows.keysTrueCard.stood.harness false
    over (fun _ h => by cases h) (by kernel_rfl) (fun _ h => by cases h) keysTrue_row_tie rfl ⟨rfl, rfl⟩ (by kernel_rfl) rfl
    (fun f fn hf hfn => by
      obtain rfl : f = 3 := Option.some.inj ((show Tryd.prog.funcNamed "mintvault/mintvaultlaw9.KeysTrue" = some 3 by kernel_rfl).symm.trans hf) |>.symm
      obtain rfl : fn=Tryd.f3:=(Option.some.inj (Tryd.func3.symm.trans hfn)).symm
      exact ⟨by kernel_rfl, fun j t ht => by
        rw[Tryd.params3] at ht
        have hm : t ∈ [9, 22, 3]:=by simpa using Array.mem_of_getElem? ht
        have hall : ([9, 22, 3].all fun u => !Tryd.prog.wantsStandIn u)=true:=by kernel_rfl
        exact (show Tryd.prog.wantsStandIn t=false by simpa using List.all_eq_true.1 hall t hm)⟩)
    (by kernel_rfl)
end keysTrue
section
theorem keysTrue_holds:Rows.KeysTrueCardSaid:=keysTrue.card_holds
#print axioms keysTrue_holds
end
end Go.Proofs.YtgdfkblfggnnfaaDoor
