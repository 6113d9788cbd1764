/- A part of the proof. -/
import Derived.Test.YtidekgipblnpkaaGreatDoorQ0
import Derived.Lib.SmallJoins
namespace Go.Proofs.YtidekgipblnpkaaGreatDoor
open Go.RowKit Go.Proofs.Tryz
theorem SA {P:Program}{w:World}:∀{l:List (String×DataW Unit)} {ps:List MemPlace},DataW.LaidVars P w l ps->∀x∈l,∃g t cs fuel p,P.globalNamed x.1=some g/\(P.globals[g]?).map (·.type)=some t/\w.var? P x.1=some cs/\DataW.trod (λ_=>()) P w 0 (λ_=>true) false fuel t cs.toList=some (x.2,p)
 | [],_,_,x,hx=>by cases hx
 | (n,d)::r,ps,h,x,hx=>by
  obtain⟨g,t,cs,fuel,p,q,h1,h2,h3,h4,h5,_⟩:=h;rcases List.mem_cons.1 hx with y|y
  ·subst y;exact⟨g,t,cs,fuel,p,h1,h2,h3,h4⟩
  ·exact SA h5 x y
end Go.Proofs.YtidekgipblnpkaaGreatDoor
namespace Go.Proofs.YtidekgipblnpkaaGreatDoor.Dk
open Go.RowKit Go.Proofs.Tryz
theorem uq {es:List ay}{k:Nat}(h:k+1=es.length):iI es=pa es k:=by unfold iI;rw[<-h];rfl
theorem SE {es:List ay}{m size:Int}{r:Rc}(h:dA r≠0):iD es m size r=(dA r,es):=by unfold iD;rw[if_pos h]
theorem Jp {es:List ay}{m size:Int}{r:Rc}(h:dA r=0)(h0:es.length=0):iD es m size r=(bY es m 0 (bZ r),gK es m 0 (bZ r)):=by
 unfold iD;rw[if_neg (by rw[h];simp),if_pos h0]
theorem aal {es:List ay}{m size:Int}{r:Rc}{k:Nat}(h:dA r=0)(hk:k+1=es.length)(hf:0<(pa es k).text.size/\size<((pa es k).text.size:Int)+((bZ r).size:Int)) :
 iD es m size r=(bY (dM es (pa es k).n) m ((pa es k).n+1) (bZ r),gK (dM es (pa es k).n) m ((pa es k).n+1) (bZ r)):=by
 unfold iD fills;rw[uq hk,if_neg (by rw[h];simp),if_neg (by omega),if_pos (by simpa using hf)]
theorem aam {es:List ay}{m size:Int}{r:Rc}{k:Nat}(h:dA r=0)(hk:k+1=es.length)(hf:¬(0<(pa es k).text.size/\size<((pa es k).text.size:Int)+((bZ r).size:Int))) :
 iD es m size r=(bY es m (pa es k).n (bZ r),gK es m (pa es k).n (bZ r)):=by
 unfold iD fills;rw[uq hk,if_neg (by rw[h];simp),if_neg (by omega),if_neg (by simpa using hf)]
theorem qL.dh {A:Nat->Prop}{w w':World}{a:Option Addr}{l:List Int}(h:qL w a l)(hc:aF A w w')(hn:∀q,a=some q->¬A q.block):qL w' a l:=λk hk=>by
 obtain⟨b,o,h1,h2,h3⟩:=h k hk;exact⟨b,o,h1,Nat.lt_of_lt_of_le h2 hc.size,by rw[hc.cell (p:=⟨b,o+k,none⟩) h2 (hn ⟨b,o,none⟩ h1)];exact h3⟩
theorem Reads.len {es:List ay}{i:Nat}{acc:List Rc}(h:Reads es i acc):acc.length<=used es:=by
 have:=xJ es;unfold Reads at h;rw[h,List.length_append] at this;omega
theorem SG (t:ByteArray)(p:Nat):(t.extract p t.size).data.toList=t.data.toList.drop p:=by
 rw[ByteArray.data_extract,Array.toList_extract];simp only[List.extract_eq_take_drop];rw[List.take_of_length_le];rw[List.length_drop];simp
theorem O5 {es:List ay}{i:Nat}(h:i<es.length):nth (aT es) i=(pa es i).n:=by
 unfold nth aT;rw[List.getElem?_map,List.getElem?_eq_getElem h,gX h];rfl
theorem Jq {m:Int}{es:List ay}(ht:Tidy m es){i:Nat}(h:i<es.length):nY es (pa es i).n=.tuple #[.string (pa es i).text,.int .i64 0]:=by
 have hi:ix es (pa es i).n=i:=by
  refine BQ h rfl (λj hj=>?_);have:=xC ht.rise hj h;rw[beq_eq_false_iff_ne];omega
 unfold nY;rw[hi,if_pos h]
theorem YS {m:Int}{es:List ay}(ht:Tidy m es){i k:Nat}(h:i<es.length)(hk:k<=(pa es i).text.size):rY es (pa es i).n (k:Int)=es.take i++kM (pa es i) k::es.drop (i+1)/\oU es (pa es i).n (k:Int)=0:=by
 have hi:ix es (pa es i).n=i:=by
  refine BQ h rfl (λj hj=>?_);have:=xC ht.rise hj h;rw[beq_eq_false_iff_ne];omega
 have h0:oU es (pa es i).n (k:Int)=0:=BX.2 ⟨by rw[hi];exact h,by unfold uZ;rw[hi];simp[aY];omega⟩;refine⟨?_,h0⟩;rw[VJ h0,hi,xB h,Int.toNat_natCast]
theorem acH {m:Int}{es:List ay}(ht:Tidy m es){i j k:Nat}(hi:i<j)(hj:j<es.length):kN (es.take i++kM (pa es i) k::es.drop j) (pa es j).n=es.take i++kM (pa es i) k::es.drop (j+1):=by
 rw[Iw hj];have hr:qg ((es.take i++[kM (pa es i) k])++pa es j::es.drop (j+1)):=by
  rw[iH];have e:aT ((es.take i++[kM (pa es i) k])++pa es j::es.drop (j+1))=aT (es.take (i+1)++es.drop j):=by
   rw[YP (by omega),<-Iw hj];simp[aT,kM]
  rw[e];have hs:(es.take (i+1)++es.drop j).Sublist es:=by
   conv=>rhs;rw[<-List.take_append_drop (i+1) es]
   refine List.Sublist.append (List.Sublist.refl _) ?_;rw[show j=(i+1)+(j-(i+1)) by omega,<-List.drop_drop];exact List.drop_sublist _ _
  exact List.Pairwise.sublist (hs.map _) ((iH es).1 ht.rise)
 have:=YQ hr;rw[List.append_assoc,List.append_assoc] at this;simpa using this
theorem Gz:∀a b:List Rc,dP (a++b)=dP a++dP b
 | [],b=>by simp[dP]
 | r::a,b=>by rw[List.cons_append,dP,dP,Gz a b,ByteArray.append_assoc]
theorem ahD {l:List Rc}{k:Nat}(h:k<l.length):l.take (k+1)=l.take k++[rc l k]:=by rw[List.take_succ_eq_append_getElem h,cu h]
theorem MP {l:List Rc}{k:Nat}(h:k<l.length):dP (l.take (k+1))=dP (l.take k)++bZ (rc l k):=by
 rw[ahD h,Gz];simp[dP]
theorem uw:∀a b:List Rc,gZ (a++b)=if gZ a≠0 then gZ a else gZ b
 | [],b=>by simp[gZ]
 | r::a,b=>by
  rw[List.cons_append,gZ,gZ,uw a b];by_cases h:dA r≠0
  ·rw[if_pos h,if_pos h,if_pos h]
  ·rw[if_neg h,if_neg h]
theorem yX {l:List Rc}{k:Nat}(h:k<l.length)(h0:gZ (l.take k)=0):gZ (l.take (k+1))=dA (rc l k):=by
 rw[ahD h,uw,if_neg (by rw[h0];simp)];simp only[gZ];by_cases hc:dA (rc l k)≠0
 ·rw[if_pos hc]
 ·rw[if_neg hc];exact(Classical.byContradiction hc).symm
theorem GH {l:List Rc}{k:Nat}(h:k<l.length)(h0:gZ (l.take k)=0)(hc:dA (rc l k)≠0):gZ l=dA (rc l k):=by
 conv=>lhs;rw[<-List.take_append_drop (k+1) l]
 rw[uw,yX h h0,if_pos hc]
theorem xO:∀l:List Rc,gZ l=0->(dP l).size<=1100*l.length
 | [],_=>by simp[dP]
 | r::l,h=>by
  rw[gZ] at h;split at h
  ·rename_i hc;exact absurd h hc
  ·rename_i hc
   have h1:=sF (r:=r) (Classical.byContradiction hc);have h2:=xO l h;rw[dP,ByteArray.size_append,List.length_cons];omega
theorem SI {es:List ay}{m size:Int}{l:List Rc}{E:Int}(h:gZ l=E)(h0:E≠0):jq es m size l=(E,es):=by unfold jq;rw[h,if_pos h0]
theorem Jr {es:List ay}{m size:Int}{l:List Rc}(h:gZ l=0)(h1:1<l.length/\size<((dP l).size:Int)):jq es m size l=(8,es):=by
 unfold jq;rw[if_neg (by rw[h];simp),if_pos h1]
theorem sG {es:List ay}{m size:Int}{l:List Rc}(h:gZ l=0)(h1:¬(1<l.length/\size<((dP l).size:Int)))(h2:bY es m (dN es) (dP l)≠0):jq es m size l=(bY es m (dN es) (dP l),es):=by
 unfold jq;rw[if_neg (by rw[h];simp),if_neg h1,if_pos h2]
theorem Ac {es:List ay}{m size:Int}{l:List Rc}(h:gZ l=0)(h1:¬(1<l.length/\size<((dP l).size:Int)))(h2:bY es m (dN es) (dP l)=0):jq es m size l=(0,[⟨dN es,((dP l).size:Int),dP l⟩]):=by
 unfold jq;rw[if_neg (by rw[h];simp),if_neg h1,if_neg (by rw[h2];simp)]
theorem yY {es:List ay}(h:es.length=0):dN es=0:=by unfold dN;rw[if_pos h]
theorem MQ {es:List ay}{k:Nat}(h:k+1=es.length):dN es=(pa es k).n+1:=by unfold dN;rw[if_neg (by omega),uq h]
theorem acI (es:List ay)(n:Int):ix es n=(aT es).findIdx (λk=>k==n):=by
 unfold ix aT;rw[List.findIdx_map];rfl
theorem qj (es:List ay):(aT es).length=es.length:=by unfold aT;rw[List.length_map]
theorem aan {es es':List ay}(h1:aT es'=aT es)(h2:used es'=used es)(m n:Int)(s:ByteArray):bY es' m n s=bY es m n s:=by
 have hl:es'.length=es.length:=by rw[<-qj,h1,qj]
 unfold bY full;rw[acI,acI,h1,h2,hl]
theorem MR (es:List ay)(k m n:Int)(s:ByteArray):bY (dM es k) m n s=bY es m n s:=by
 unfold dM;split
 ·rename_i h
  have hu:=Rx h (jX (pa es (ix es k)));refine aan (es':=es.set (ix es k) (jX (pa es (ix es k)))) (Rw h rfl) ?_ m n s;have e:(jX (pa es (ix es k))).text=(pa es (ix es k)).text:=rfl;rw[e] at hu;omega
 ·rfl
theorem VZ (es:List ay)(m n:Int)(s:ByteArray):bY (dU es) m n s=bY es m n s:=by
 unfold dU;split
 ·rfl
 ·exact MR _ _ _ _ _
theorem MS {es:List ay}(h:es.length=0):dU es=es:=by unfold dU;rw[if_pos h]
def qZ (es:List ay):Int:=if es.length=0 then -1 else (iI es).n
theorem ql {es:List ay}(h:es.length=0):qZ es=-1:=by unfold qZ;rw[if_pos h]
theorem nH {es:List ay}{k:Nat}(h:k+1=es.length):qZ es=(pa es k).n:=by unfold qZ;rw[if_neg (by omega),uq h]
theorem Js (es:List ay):dN es=qZ es+1:=by
 unfold dN qZ;split<;>simp
def O6 (es:List ay)(m:Int)(s:ByteArray):List ay:=if bY es m (dN es) s=0 then gK (dU es) m (dN es) s else es
theorem O7 {es:List ay}{m:Int}{s:ByteArray}(h:bY es m (dN es) s=0):O6 es m s=gK (dU es) m (dN es) s:=by unfold O6;rw[if_pos h]
theorem Jt {es:List ay}{m:Int}{s:ByteArray}(h:bY es m (dN es) s≠0):O6 es m s=es:=by unfold O6;rw[if_neg h]
theorem acJ {es:List ay}{m size:Int}{r:Rc}(h:dA r≠0):iT es m size r=(dA r,es):=by
 have e:=SE (es:=es) (m:=m) (size:=size) h;rw[nZ (by rw[e];exact h),e]
theorem Ju {es:List ay}{m size:Int}{r:Rc}(h:dA r=0)(hb:es.length=0\/fills es size (bZ r)=true):iT es m size r=(bY es m (dN es) (bZ r),O6 es m (bZ r)):=by
 by_cases h0:es.length=0
 ·have e:=Jp (m:=m) (size:=size) h h0;have hn:=yY h0;have hs:=MS h0;by_cases ha:bY es m 0 (bZ r)=0
  ·rw[um (by rw[e];exact ha),e,O7 (by rw[hn];exact ha),hn,hs]
  ·rw[nZ (by rw[e];exact ha),e,Jt (by rw[hn];exact ha),hn]
 ·have hf:fills es size (bZ r)=true:=by
   rcases hb with y|y
   ·exact absurd y h0
   ·exact y
  have e:iD es m size r=(bY es m (dN es) (bZ r),gK (dU es) m (dN es) (bZ r)):=by
   unfold iD dU dN;rw[if_neg (by rw[h];simp),if_neg h0,if_pos hf,if_neg h0,if_neg h0,MR]
  by_cases ha:bY es m (dN es) (bZ r)=0
  ·rw[um (by rw[e];exact ha),e,O7 ha]
  ·rw[nZ (by rw[e];exact ha),e,Jt ha]
theorem aao {es:List ay}{m size:Int}{r:Rc}(h:dA r=0)(h0:es.length≠0)(hf:fills es size (bZ r)=false):iT es m size r=(bY es m (iI es).n (bZ r),gK es m (iI es).n (bZ r)):=by
 have e:iD es m size r=(bY es m (iI es).n (bZ r),gK es m (iI es).n (bZ r)):=by
  unfold iD;rw[if_neg (by rw[h];simp),if_neg h0,if_neg (by rw[hf];simp)]
 by_cases ha:bY es m (iI es).n (bZ r)=0
 ·rw[um (by rw[e];exact ha),e]
 ·rw[nZ (by rw[e];exact ha),e,jQ ha]
theorem O8 (post:List ay):∀(k:Nat) (pre mid:List ay),mid.length=k->qg (pre++mid++post)->(aT mid).reverse.foldl kN (pre++mid++post)=pre++post
 | 0,pre,mid,hk,_=>by
  obtain rfl:mid=[]:=List.eq_nil_of_length_eq_zero hk;simp[aT]
 | k+1,pre,mid,hk,hr=>by
  obtain⟨mid',e,rfl⟩:∃mid' e,mid=mid'++[e]:=⟨mid.dropLast,mid.getLast (by intro h;rw[h] at hk;simp at hk),(List.dropLast_concat_getLast _).symm⟩;have e1:pre++(mid'++[e])++post=(pre++mid')++e::post:=by simp
  have e2:(aT (mid'++[e])).reverse=e.n::(aT mid').reverse:=by simp[aT]
  rw[e1] at hr;rw[e1,e2,List.foldl_cons,YQ hr];have hr2:qg (pre++mid'++post):=by
   rw[iH] at hr ⊢;refine List.Pairwise.sublist ?_ hr;unfold aT;refine List.Sublist.map _ ?_;rw[List.append_assoc (bs:=mid') (cs:=post)];rw[List.append_assoc];exact(List.Sublist.refl _).append ((List.Sublist.refl _).append (List.sublist_cons_self _ _))
  exact O8 post k pre mid' (by simpa using hk) hr2
theorem Tidy.aik {m:Int}:∀(l:List Int) {es:List ay},Tidy m es->Tidy m (l.foldl kN es)
 | [],_,h=>h
 | n::l,_,h=>Tidy.aik l (h.rem n)
structure Lists (Has:World->Nat->Nat->(Nat->Prop)->Int->List ay->Prop):Prop where
 list:∀{w B q F m es},Has w B q F m es->Tidy m es->m<=65536->B<=w.heap.size ->
  Calls prog 182 #[.pointer (some ⟨q,0,none⟩)] w λe w'=>∃a c,e=.returned (.slice a es.length c)/\(es.length<=c/\c<=maxLen)/\qL w' a (aT es)/\(∀z,a=some z->w.heap.size<=z.block/\z.block<w'.heap.size)/\Below w.heap.size w w'
 reads:∀{w B q F m es} (n:Int),wf n->Has w B q F m es->Tidy m es->m<=65536->B<=w.heap.size ->
  Calls prog 183 #[.pointer (some ⟨q,0,none⟩),.int .i64 n] w λe w'=>e=.returned (nY es n)/\Below w.heap.size w w'
 tries:∀{w B q F m es} (n:Int) (s:ByteArray),Has w B q F m es->Tidy m es->m<=65536->s.size<=140737488355328->B<=w.heap.size ->
  Calls prog 195 #[.pointer (some ⟨q,0,none⟩),.int .i64 n,.string s] w λe w'=>e=.returned (.int .i64 (bY es m n s))/\Below w.heap.size w w'
 drops:∀{w B q F m es} (n:Int),wf n->Has w B q F m es->Tidy m es->m<=65536->B<=w.heap.size ->
  Calls prog 198 #[.pointer (some ⟨q,0,none⟩),.int .i64 n] w λe w'=>e=.returned (.int .i64 (oI es n))/\Has w' B q F m (kN es n)/\aF F w w'
def Kept (Cs:Nat->Prop)(w w':World):Prop:=w.heap.size<=w'.heap.size/\∀k,Cs k->w'.heap[k]?=w.heap[k]?
theorem Kept.cell {Cs:Nat->Prop}{w w':World}(h:Kept Cs w w'){C j:Nat}(hC:Cs C):w'.cell? ⟨C,j,none⟩=w.cell? ⟨C,j,none⟩:=World.cell?_of_block (w:=w) (h.2 C hC)
theorem Kept.nums {Cs:Nat->Prop}{w w':World}{a:Option Addr}{l:List Int}(h:Kept Cs w w')(s:qL w a l)(hn:∀z,a=some z->Cs z.block):qL w' a l:=λk hk=>by
 obtain⟨b,o,h1,h2,h3⟩:=s k hk;exact⟨b,o,h1,Nat.lt_of_lt_of_le h2 h.1,by rw[h.cell (hn ⟨b,o,none⟩ h1)];exact h3⟩
theorem Kept.recs {Cs:Nat->Prop}{w w':World}{a:Option Addr}{l:List Rc}(h:Kept Cs w w')(s:qM w a l)(hn:∀z,a=some z->Cs z.block):qM w' a l:=λk hk=>by
 obtain⟨b,o,h1,h2⟩:=s k hk;have hb:Cs b:=hn _ h1;exact⟨b,o,h1,⟨Nat.lt_of_lt_of_le h2.lt h.1,by rw[h.cell hb];exact h2.c0,by rw[h.cell hb];exact h2.c1,by rw[h.cell hb];exact h2.c2,by rw[h.cell hb];exact h2.c3,by rw[h.cell hb];exact h2.c4,by rw[h.cell hb];exact h2.c5⟩⟩
def Run (Has:World->Nat->Nat->(Nat->Prop)->Int->List ay->Prop)(Cs:Nat->Prop)(w wr:World)(B q:Nat)(F:Nat->Prop)(m:Int)(es:List ay):Prop :=
 ∃F',Has wr B q F' m es/\aF F w wr/\(∀k,F' k->F k\/w.heap.size<=k)/\∀k,Cs k->k<wr.heap.size/\¬F' k
section
variable {Has:World->Nat->Nat->(Nat->Prop)->Int->List ay->Prop}{Cs:Nat->Prop}{w wr w':World}{B q:Nat}{F:Nat->Prop}{m:Int}{es es':List ay}
theorem Run.start (h:Has w B q F m es)(hC:∀k,Cs k->k<w.heap.size/\¬F k):Run Has Cs w w B q F m es:=⟨F,h,aF.refl _ _,λ_ hk=>.inl hk,hC⟩
theorem Run.room (h:Run Has Cs w wr B q F m es):w.heap.size<=wr.heap.size:=by
 obtain⟨F',_,h2,_⟩:=h;exact h2.size
theorem Run.fewer {jw:Nat->Prop}(h:Run Has Cs w wr B q F m es)(hC:∀k,jw k->Cs k):Run Has jw w wr B q F m es:=by
 obtain⟨F',h1,h2,h3,h4⟩:=h;exact⟨F',h1,h2,h3,λk hk=>h4 k (hC k hk)⟩
theorem jD {A A':Nat->Prop}{a b c:World}(h:aF A a b)(k:aF A' b c)(hA:∀i,i<a.heap.size->A' i->A i):aF A a c :=
 ⟨k.os.trans h.os,k.tape.trans h.tape,k.output.trans h.output,Nat.le_trans h.size k.size,λi hi hn=>(k.block i (Nat.lt_of_lt_of_le hi h.size) (λz=>hn (hA i hi z))).trans (h.block i hi hn)⟩
theorem Run.below (H:Works Has)(h:Run Has Cs w wr B q F m es)(hb:Below wr.heap.size wr w'):Run Has Cs w w' B q F m es/\Kept Cs wr w':=by
 obtain⟨F',h1,h2,h3,h4⟩:=h;exact⟨⟨F',H.dh (A:=λ_=>False) h1 (aF.of_below hb) (λ_ _ z=>z),h2.trans (aF.of_below hb),h3,λk hk=>⟨Nat.lt_of_lt_of_le (h4 k hk).1 hb.size,(h4 k hk).2⟩⟩,hb.size,λk hk=>hb.block k (h4 k hk).1⟩
theorem Run.mine (H:Works Has){jw:Nat->Prop}(h:Run Has Cs w wr B q F m es)(hb:Below wr.heap.size wr w')(hn:∀k,jw k->Cs k\/wr.heap.size<=k/\k<w'.heap.size):Run Has jw w w' B q F m es:=by
 obtain⟨F',h1,h2,h3,h4⟩:=h;refine⟨F',H.dh (A:=λ_=>False) h1 (aF.of_below hb) (λ_ _ z=>z),h2.trans (aF.of_below hb),h3,λk hk=>?_⟩;rcases hn k hk with y|y
 ·exact⟨Nat.lt_of_lt_of_le (h4 k y).1 hb.size,(h4 k y).2⟩
 ·exact⟨y.2,λz=>by have:=(H.own h1 k z).2;omega⟩
theorem Run.own (H:Works Has){A jw:Nat->Prop}(h:Run Has Cs w wr B q F m es)(hc:aF A wr w')(hA:∀k,A k->Cs k/\w.heap.size<=k)(hn:∀k,jw k->Cs k\/wr.heap.size<=k/\k<w'.heap.size):Run Has jw w w' B q F m es:=by
 obtain⟨F',h1,h2,h3,h4⟩:=h;refine⟨F',H.dh h1 hc (λk hk z=>(h4 k (hA k z).1).2 hk),jD h2 hc (λi hi z=>by have:=(hA i z).2;omega),h3,λk hk=>?_⟩;rcases hn k hk with y|y
 ·exact⟨Nat.lt_of_lt_of_le (h4 k y).1 hc.size,(h4 k y).2⟩
 ·exact⟨y.2,λz=>by have:=(H.own h1 k z).2;omega⟩
theorem Run.O9 (h:Run Has Cs w wr B q F m es){fn:FuncId}{args:Array Value}{Q:Ending->World->Prop}
 (hc:∀F',Has wr B q F' m es->(∀k,Cs k->k<wr.heap.size/\¬F' k)->Calls prog fn args wr λe w'=>Q e w'/\Did Has wr w' B q F' m es') :
 Calls prog fn args wr λe w'=>Q e w'/\Run Has Cs w w' B q F m es'/\Kept Cs wr w':=by
 have hr:=h.room;obtain⟨F',h1,h2,h3,h4⟩:=h;refine(hc F' h1 h4).mono ?_;rintro e w' ⟨hq,F2,a1,a2,a3⟩;refine⟨hq,⟨F2,a1,jD h2 a2 (λi hi z=>?_),λk hk=>?_,λk hk=>⟨Nat.lt_of_lt_of_le (h4 k hk).1 a2.size,λz=>?_⟩⟩,a2.size,λk hk=>a2.block k (h4 k hk).1 (h4 k hk).2⟩
 ·rcases h3 i z with y|y
  ·exact y
  ·omega
 ·rcases a3 k hk with y|y
  ·exact h3 k y
  ·exact .inr (Nat.le_trans hr y)
 ·rcases a3 k z with y|y
  ·exact(h4 k hk).2 y
  ·have:=(h4 k hk).1;omega
theorem Run.did (h:Run Has Cs w wr B q F m es){fn:FuncId}{args:Array Value}{Q:Ending->World->Prop}
 (hc:∀F',Has wr B q F' m es->Calls prog fn args wr λe w'=>Q e w'/\Did Has wr w' B q F' m es') :
 Calls prog fn args wr λe w'=>Q e w'/\Run Has Cs w w' B q F m es'/\Kept Cs wr w':=h.O9 (λF' hF _=>hc F' hF)
theorem Run.looks (H:Works Has)(h:Run Has Cs w wr B q F m es){fn:FuncId}{args:Array Value}{Q:Ending->World->Prop}
 (hc:∀F',Has wr B q F' m es->Calls prog fn args wr λe w'=>Q e w'/\Below wr.heap.size wr w') :
 Calls prog fn args wr λe w'=>Q e w'/\Run Has Cs w w' B q F m es/\Kept Cs wr w':=by
 obtain⟨F',h1,_⟩:=id h;refine(hc F' h1).mono ?_;rintro e w' ⟨hq,hb⟩;exact⟨hq,h.below H hb⟩
theorem Run.list (H:Works Has)(HS:Lists Has)(h:Run Has Cs w wr B q F m es)(ht:Tidy m es)(hm:m<=65536)(hB:B<=w.heap.size) :
 Calls prog 182 #[.pointer (some ⟨q,0,none⟩)] wr λe w'=>∃a c,e=.returned (.slice a es.length c)/\(es.length<=c/\c<=maxLen)/\qL w' a (aT es)/\Run Has (λk=>Cs k\/∃z,a=some z/\z.block=k) w w' B q F m es/\Kept Cs wr w':=by
 have hr:=h.room;have h':=h;obtain⟨F',h1,h2,h3,h4⟩:=h';refine(HS.list h1 ht hm (Nat.le_trans hB hr)).mono ?_;rintro e w' ⟨a,c,he,hc,hs,ha,hb⟩;refine⟨a,c,he,hc,hs,h.mine H hb (λk hk=>?_),(h.below H hb).2⟩;rcases hk with y|⟨z,hz,rfl⟩
 ·exact .inl y
 ·exact .inr (ha z hz)
theorem Run.done (h:Run Has Cs w wr B q F m es):Did Has w wr B q F m es:=by
 obtain⟨F',h1,h2,h3,_⟩:=h;exact⟨F',h1,h2,h3⟩
end
def ku (Has:World->Nat->Nat->(Nat->Prop)->Int->List ay->Prop)(g:Nat)(size:Int)(w:World)(B q:Nat)(F:Nat->Prop)(m:Int)(es:List ay):Prop :=
 ∃F0,Has w B q F0 m es/\(B<=g/\g<w.heap.size)/\¬F0 g/\w.cell? ⟨g,0,none⟩=some (.pointer (some ⟨q,0,none⟩))/\w.cell? ⟨g,1,none⟩=some (.int .i64 size)/\∀k,F k↔F0 k\/k=g
section
variable {Has:World->Nat->Nat->(Nat->Prop)->Int->List ay->Prop}{Cs:Nat->Prop}{w wr w':World}{B q g:Nat}{size:Int}{F:Nat->Prop}{m:Int}{es es':List ay}
theorem ku.begin (h:ku Has g size w B q F m es):∃F0,Run Has (λk=>k=g) w w B q F0 m es/\w.cell? ⟨g,0,none⟩=some (.pointer (some ⟨q,0,none⟩))/\w.cell? ⟨g,1,none⟩=some (.int .i64 size)/\(∀k,F0 k->F k)/\∀wr es',Run Has (λk=>k=g) w wr B q F0 m es'->Did (ku Has g size) w wr B q F m es':=by
 obtain⟨F0,h1,h2,h3,h4,h5,h6⟩:=h;refine⟨F0,Run.start h1 (λk hk=>by subst hk;exact⟨h2.2,h3⟩),h4,h5,λk hk=>(h6 k).2 (.inl hk),λwr es' hr=>?_⟩;obtain⟨F',r1,r2,r3,r4⟩:=hr;have hc:aF F w wr:=r2.mono (λk _ hk=>(h6 k).2 (.inl hk));refine⟨λk=>F' k\/k=g,⟨F',r1,⟨h2.1,(r4 g rfl).1⟩,(r4 g rfl).2,?_,?_,λk=>Iff.rfl⟩,hc,λk hk=>?_⟩
 ·rw[r2.cell (p:=⟨g,0,none⟩) h2.2 h3];exact h4
 ·rw[r2.cell (p:=⟨g,1,none⟩) h2.2 h3];exact h5
 ·rcases hk with y|y
  ·rcases r3 k y with z|z
   ·exact .inl ((h6 k).2 (.inl z))
   ·exact .inr z
  ·exact .inl ((h6 k).2 (.inr y))
theorem ku.did (h:ku Has g size w B q F m es){fn:FuncId}{args:Array Value}{Q:Ending->World->Prop}
 (hc:∀F',Has w B q F' m es->Calls prog fn args w λe w'=>Q e w'/\Did Has w w' B q F' m es') :
 Calls prog fn args w λe w'=>Q e w'/\Did (ku Has g size) w w' B q F m es':=by
 obtain⟨F0,hr,_,_,_,hfin⟩:=h.begin;refine(hr.did hc).mono ?_;rintro e w' ⟨h1,h2,_⟩;exact⟨h1,hfin _ _ h2⟩
theorem ku.down (h:ku Has g size w B q F m es):∃F0,Has w B q F0 m es/\∀k,F0 k->F k:=by
 obtain⟨F0,h1,_,_,_,_,h6⟩:=h;exact⟨F0,h1,λk hk=>(h6 k).2 (.inl hk)⟩
theorem ku.looks (H:More Has)(g:Nat)(size:Int):Looks (ku Has g size) where
 own:=λh k hk=>by
  obtain⟨F0,h1,h2,_,_,_,h6⟩:=h;rcases(h6 k).1 hk with y|y
  ·exact H.works.own h1 k y
  ·subst y;exact h2
 dh:=λh hc hn=>by
  obtain⟨F0,h1,h2,h3,h4,h5,h6⟩:=h;have hg:=hn g ((h6 g).2 (.inr rfl));exact⟨F0,H.works.dh h1 hc (λk hk=>hn k ((h6 k).2 (.inl hk))),⟨h2.1,Nat.lt_of_lt_of_le h2.2 hc.size⟩,h3,by rw[hc.cell (p:=⟨g,0,none⟩) h2.2 hg];exact h4,by rw[hc.cell (p:=⟨g,1,none⟩) h2.2 hg];exact h5,h6⟩
 read:=λn hw h ht hm hB=>h.did (Q:=λe _=>e=.returned (nY _ n)) (λF' hF=>H.works.read n hw hF ht hm hB)
 used:=λh ht hm hB=>h.did (Q:=λe _=>e=.returned (.int .i64 (used _:Int))) (λF' hF=>H.works.used hF ht hm hB)
 list:=λ{w B q F m es} h ht hm hB=>(h.did (Q:=λe w'=>∃a c,e=.returned (.slice a es.length c)/\qL w' a (aT es)) (λF' hF=>(H.list hF ht hm hB).mono (λe w' ⟨a,c,x,y,z⟩=>⟨⟨a,c,x,y⟩,z⟩))).mono (λe w' ⟨⟨a,c,x,y⟩,z⟩=>⟨a,c,x,y,z⟩)
theorem Run.log {F0:Nat->Prop}(h:Run Has Cs w wr B q F0 m es)(hC:Cs g)(hB:B<=g)(hg:w.heap.size<=g)(c0:wr.cell? ⟨g,0,none⟩=some (.pointer (some ⟨q,0,none⟩)))(c1:wr.cell? ⟨g,1,none⟩=some (.int .i64 size)) :
 ∃F',ku Has g size wr B q F' m es/\aF F0 w wr/\(∀k,F' k->F0 k\/w.heap.size<=k)/\∀k,Cs k->k≠g->¬F' k:=by
 obtain⟨F',r1,r2,r3,r4⟩:=h;refine⟨λk=>F' k\/k=g,⟨F',r1,⟨hB,(r4 g hC).1⟩,(r4 g hC).2,c0,c1,λk=>Iff.rfl⟩,r2,λk hk=>?_,λk hk hne z=>?_⟩
 ·rcases hk with y|y
  ·exact r3 k y
  ·exact .inr (by omega)
 ·rcases z with y|y
  ·exact(r4 k hk).2 y
  ·exact hne y
end
theorem acK {m:Int}{es:List ay}(ht:Tidy m es){i:Nat}(h:i<es.length):oI es (pa es i).n=0:=by
 have hi:ix es (pa es i).n=i:=by
  refine BQ h rfl (λj hj=>?_);have:=xC ht.rise hj h;rw[beq_eq_false_iff_ne];omega
 unfold oI;rw[hi,if_pos h]
theorem ail {es:List ay}(h:es.length=0):dU es=es:=by unfold dU;rw[if_pos h]
theorem Jv {es:List ay}{k:Nat}(h:k+1=es.length):dU es=dM es (pa es k).n:=by unfold dU;rw[if_neg (by omega),uq h]
theorem qL.num {w:World}{a:Option Addr}{es:List ay}(s:qL w a (aT es)){i:Nat}(hi:i<es.length):∃b o,a=some ⟨b,o,none⟩/\b<w.heap.size/\w.cell? ⟨b,o+i,none⟩=some (.int .i64 (pa es i).n):=by
 obtain⟨b,o,h1,h2,h3⟩:=s i (by unfold aT;rw[List.length_map];exact hi);rw[O5 hi] at h3;exact⟨b,o,h1,h2,h3⟩
end Go.Proofs.YtidekgipblnpkaaGreatDoor.Dk
namespace Go.Proofs.YtidekgipblnpkaaGreatDoor
open Go.Joins Go.Deep Go.WideShapes Go.Proofs.Tryz
section
variable {H:Type}{enc:TypeId×Value->H}{P:Program}{w:World}{base:Nat}{spare:Nat->Bool}{held:Bool}
theorem ain {α:Type}{cs:Array α}(h:cs.size=6):∃c0 c1 c2 c3 c4 c5,cs=#[c0,c1,c2,c3,c4,c5]:=by
 obtain⟨l⟩:=cs;match l,h with
 | [c0,c1,c2,c3,c4,c5],_=>exact⟨c0,c1,c2,c3,c4,c5,rfl⟩
theorem Ad {t:TypeId}{f0 f1 f2 f3 f4 f5:Field}{fuel:Nat}{cs:List Value}{x:DataW H×List MemPlace}(ht:P.underlying t=some (.struct #[f0,f1,f2,f3,f4,f5]))(h:DataW.trod enc P w base spare held fuel t cs=some x) :
 ∃y0 y1 y2 y3 y4 y5 n,x=(.agg [y0.1,y1.1,y2.1,y3.1,y4.1,y5.1],y0.2++(y1.2++(y2.2++(y3.2++(y4.2++y5.2)))))/\DataW.trod enc P w base spare held n f0.type ((cs.drop f0.offset).take (P.cellsOf f0.type))=some y0 /\
  DataW.trod enc P w base spare held n f1.type ((cs.drop f1.offset).take (P.cellsOf f1.type))=some y1/\DataW.trod enc P w base spare held n f2.type ((cs.drop f2.offset).take (P.cellsOf f2.type))=some y2 /\
  DataW.trod enc P w base spare held n f3.type ((cs.drop f3.offset).take (P.cellsOf f3.type))=some y3/\DataW.trod enc P w base spare held n f4.type ((cs.drop f4.offset).take (P.cellsOf f4.type))=some y4 /\
  DataW.trod enc P w base spare held n f5.type ((cs.drop f5.offset).take (P.cellsOf f5.type))=some y5:=by
 obtain⟨xs,n,_,rfl,hl,hlen,hf⟩:=DataW.trod_struct ht h;match xs,hlen with
 | [y0,y1,y2,y3,y4,y5],_=>exact⟨y0,y1,y2,y3,y4,y5,n,by simp,by simpa using hf 0 f0 rfl,by simpa using hf 1 f1 rfl,by simpa using hf 2 f2 rfl,by simpa using hf 3 f3 rfl,by simpa using hf 4 f4 rfl,by simpa using hf 5 f5 rfl⟩
theorem aap {r:Reach}{b0:Nat}{t:TypeId}{f0 f1 f2 f3 f4 f5:Field}{v:Value}{d:DataW H}{p:List MemPlace}(hs:P.underlying t=some (.struct #[f0,f1,f2,f3,f4,f5]))(hone:oneCellFields P #[f0,f1,f2,f3,f4,f5]=true)(hC:P.cellsOf t=6)
 (hv:Value.okWide P w r b0 t v) (h:DataW.Trod enc P w base spare held t v d p) :
 ∃(v0 v1 v2 v3 v4 v5:Value) (y0 y1 y2 y3 y4 y5:DataW H×List MemPlace) (n:Nat),v=.agg #[v0,v1,v2,v3,v4,v5]/\d=.agg [y0.1,y1.1,y2.1,y3.1,y4.1,y5.1]/\p=y0.2++(y1.2++(y2.2++(y3.2++(y4.2++y5.2)))) /\
  DataW.trod enc P w base spare held n f0.type [v0]=some y0/\DataW.trod enc P w base spare held n f1.type [v1]=some y1/\DataW.trod enc P w base spare held n f2.type [v2]=some y2 /\
  DataW.trod enc P w base spare held n f3.type [v3]=some y3/\DataW.trod enc P w base spare held n f4.type [v4]=some y4/\DataW.trod enc P w base spare held n f5.type [v5]=some y5:=by
 obtain⟨cs,rfl,hsz⟩:=okWide_struct hs hv;obtain⟨c0,c1,c2,c3,c4,c5,rfl⟩:=ain (hsz.trans hC);obtain⟨fuel,hf⟩:=h;obtain⟨y0,y1,y2,y3,y4,y5,n,hx,h0,h1,h2,h3,h4,h5⟩:=Ad hs hf;obtain⟨o0,k0⟩:=hone_of hone 0 f0 rfl;obtain⟨o1,k1⟩:=hone_of hone 1 f1 rfl;obtain⟨o2,k2⟩:=hone_of hone 2 f2 rfl;obtain⟨o3,k3⟩:=hone_of hone 3 f3 rfl;obtain⟨o4,k4⟩:=hone_of hone 4 f4 rfl;obtain⟨o5,k5⟩:=hone_of hone 5 f5 rfl;simp only[Prod.mk.injEq] at hx;exact⟨c0,c1,c2,c3,c4,c5,y0,y1,y2,y3,y4,y5,n,rfl,hx.1,hx.2,by simpa[Value.cells,o0,k0] using h0,by simpa[Value.cells,o1,k1] using h1,by simpa[Value.cells,o2,k2] using h2,by simpa[Value.cells,o3,k3] using h3,by simpa[Value.cells,o4,k4] using h4,by simpa[Value.cells,o5,k5] using h5⟩
end
end Go.Proofs.YtidekgipblnpkaaGreatDoor
