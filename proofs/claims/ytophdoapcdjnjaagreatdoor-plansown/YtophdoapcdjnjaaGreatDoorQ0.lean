/- A part. -/
import Derived.BigQuiet
import Derived.Deep.RegionHeld3
import Derived.Lib.AppendZerosOnto
import Derived.Lib.ItoaNum
import Derived.Lib.SmallJoins
import Derived.Lib.SplitLaws
import Derived.Shelf.Spec.SlicesInsert
import Derived.Test.YtophdoapcdjnjaaGreatDoorRows
import Derived.WalkLawsBesides
import Derived.WalkSpells
set_option maxRecDepth 100000
set_option maxHeartbeats 8000000
namespace Go.Proofs.YtophdoapcdjnjaaGreatDoor
open Go.RowKit Go.Proofs.Tryz
theorem aj {p:Prop}(h:p):Hid p:=h
theorem ah {p:Prop}(h:Hid p):p:=h
theorem iZ {a b:Bool}(h:(a=true)↔(b=true)):Ending.returned (.bool a)=.returned (.bool b):=by
 rw[Bool.eq_iff_iff.2 h]
theorem iE {b c:Bool}(h:c=b):Ending.returned (.bool b)=.returned (.bool c):=by rw[h]
theorem jD {k:IntKind}{a b:Int}(h:a=b):Ending.returned (.int k a)=.returned (.int k b):=by rw[h]
theorem NR {W:World}{base:Nat}{e:TypeId}{size:Nat}{v:Value}{k:Nat}{xs:List Value}(h:W.ownsRow base e size v (k+1) xs):∃g cap,v=.slice (some ⟨g,0,none⟩) (k+1) cap:=by
 rcases h.2 with ⟨_,h⟩|⟨g,cap,cur,h,_⟩
 ·omega
 ·exact⟨g,cap,h⟩
theorem Rz (w:World)(v:Value)(t:TypeId):∀(j:Nat) u,[v][j]?=some u->(w.alloc (.cells #[v] t)).cell? ((⟨w.heap.size,0,none⟩:Addr).add j)=some u:=by
 intro j u hj;match j,hj with
 | 0,hj=>simp at hj;subst hj;simp[Addr.add]
theorem aA {w a b:World}(h:Below w.heap.size w a)(h2:Below a.heap.size a b):Below w.heap.size w b:=h.trans (h2.mono h.size)
theorem Dt {P:Program}{w:World}:∀{l:List (String×DataW Unit)} {ps:List MemPlace},DataW.LaidVars P w l ps->∀x∈l,∃g t cs fuel p,P.globalNamed x.1=some g/\(P.globals[g]?).map (·.type)=some t/\w.var? P x.1=some cs/\DataW.trod (λ_=>()) P w 0 (λ_=>true) false fuel t cs.toList=some (x.2,p)
 | [],_,_,x,hx=>by cases hx
 | (n,d)::r,ps,h,x,hx=>by
  obtain⟨g,t,cs,fuel,p,q,h1,h2,h3,h4,h5,_⟩:=h;rcases List.mem_cons.1 hx with y|y
  ·subst y;exact⟨g,t,cs,fuel,p,h1,h2,h3,h4⟩
  ·exact Dt h5 x y
end Go.Proofs.YtophdoapcdjnjaaGreatDoor
namespace Go.Proofs.YtophdoapcdjnjaaGreatDoor.Pl
open Go Go.Proofs.Tryz
def NS (c:UInt8):Bool:=decide (33<=c.toNat)&&(decide (c.toNat<=126)&&(decide (c.toNat≠46)&&(decide (c.toNat≠42)&&decide (c.toNat≠62))))
def pW (t:List UInt8):Bool:=decide (1<=t.length)&&(decide (t.length<=16)&&t.all NS)
def fZ:List UInt8->List (List UInt8)
 | []=>[[]]
 | c::r=>if c=46 then []::fZ r else (fZ r).modifyHead (λp=>c::p)
def jc (bZ last:Bool)(t:List UInt8):Bool:=pW t||(bZ&&(t==[42]||(t==[62]&&last)))
def fH (bZ:Bool)(ps:List (List UInt8))(k:Nat):Bool:=(List.range k).all λi=>jc bZ (decide (i+1=ps.length)) (ps[i]?.getD [])
def errOf (bZ:Bool)(ps:List (List UInt8)):Int:=if 8<ps.length then 2 else if fH bZ ps ps.length then 0 else 3
theorem Du (bZ:Bool)(ps:List (List UInt8))(k:Nat):fH bZ ps (k+1)=(fH bZ ps k&&jc bZ (decide (k+1=ps.length)) (ps[k]?.getD [])):=by
 simp[fH,List.range_succ,List.all_append]
theorem U0 (bZ:Bool)(ps:List (List UInt8)):fH bZ ps 0=true:=rfl
theorem J6 {bZ:Bool}{ps:List (List UInt8)}{k n:Nat}(h:k<=n)(g:fH bZ ps n=true):fH bZ ps k=true:=by
 simp only[fH,List.all_eq_true,List.mem_range] at *;exact λi hi=>g i (by omega)
theorem F6 {bZ:Bool}{ps:List (List UInt8)}{k n:Nat}(h:k<n)(g:jc bZ (decide (k+1=ps.length)) (ps[k]?.getD [])=false):fH bZ ps n=false:=by
 cases e:fH bZ ps n with
 | false=>rfl
 | true =>
  have:=J6 (Nat.succ_le_of_lt h) e;rw[Nat.succ_eq_add_one,Du,g] at this;simp at this
theorem Dw {bZ:Bool}{ps:List (List UInt8)}(h:8<ps.length):errOf bZ ps=2:=by simp[errOf,h]
theorem pX {bZ:Bool}{ps:List (List UInt8)}(h:¬8<ps.length)(g:fH bZ ps ps.length=true):errOf bZ ps=0:=by simp[errOf,h,g]
theorem yY {bZ:Bool}{ps:List (List UInt8)}{k:Nat}(h:¬8<ps.length)(hk:k<ps.length)(g:jc bZ (decide (k+1=ps.length)) (ps[k]?.getD [])=false):errOf bZ ps=3:=by
 simp[errOf,h,F6 hk g]
theorem ny:∀l:List UInt8,fZ l≠[]
 | []=>by simp[fZ]
 | c::r=>by
  unfold fZ;split
  ·simp
  ·have:=ny r
   cases e:fZ r with
   | nil=>exact absurd e this
   | cons a b=>simp
theorem fM:∀l:List UInt8,(fZ l).length=l.count 46+1
 | []=>rfl
 | c::r=>by
  unfold fZ;by_cases h:c=46
  ·subst h;simp[fM r]
  ·rw[if_neg h,List.length_modifyHead,fM r,List.count_cons_of_ne h]
theorem wo:∀{l:List UInt8},l.count 46=0->fZ l=[l]
 | [],_=>rfl
 | c::r,h=>by
  by_cases e:c=46
  ·subst e;simp at h
  ·rw[List.count_cons_of_ne e] at h;unfold fZ;rw[if_neg e,wo h];rfl
theorem AO:∀(a:List UInt8) (b:List UInt8),a.count 46=0->fZ (a++46::b)=a::fZ b
 | [],b,_=>by simp[fZ]
 | c::r,b,h=>by
  by_cases e:c=46
  ·subst e;simp at h
  ·rw[List.count_cons_of_ne e] at h;rw[List.cons_append,fZ,if_neg e,AO r b h];rfl
theorem Dx:∀(l:List UInt8) (p:List UInt8),p∈fZ l->p.count 46=0
 | [],p,h=>by simp[fZ] at h;subst h;rfl
 | c::r,p,h=>by
  unfold fZ at h;by_cases e:c=46
  ·rw[if_pos e] at h;rcases List.mem_cons.1 h with h|h
   ·subst h;rfl
   ·exact Dx r p h
  ·rw[if_neg e] at h;have ih:=Dx r
   cases q:fZ r with
   | nil=>rw[q] at h;simp at h
   | cons x y =>
    rw[q] at h ih;simp only[List.modifyHead_cons,List.mem_cons] at h;rcases h with h|h
    ·subst h;rw[List.count_cons_of_ne e];exact ih x (by simp)
    ·exact ih p (by simp[h])
theorem yZ:∀(l:List UInt8) (p:List UInt8),p∈fZ l->p.length<=l.length
 | [],p,h=>by simp[fZ] at h;subst h;simp
 | c::r,p,h=>by
  have ih:=yZ r;unfold fZ at h;by_cases e:c=46
  ·rw[if_pos e] at h;rcases List.mem_cons.1 h with h|h
   ·subst h;simp
   ·have:=ih p h;simp;omega
  ·rw[if_neg e] at h
   cases q:fZ r with
   | nil=>rw[q] at h;simp at h
   | cons x y =>
    rw[q] at h ih;simp only[List.modifyHead_cons,List.mem_cons] at h;rcases h with h|h
    ·subst h;have:=ih x (by simp);simp;omega
    ·have:=ih p (by simp[h]);simp;omega
theorem qK:∀l:List UInt8,fZ (l++[46])=fZ l++[[]]
 | []=>rfl
 | c::r=>by
  rw[List.cons_append];unfold fZ;by_cases e:c=46
  ·rw[if_pos e,if_pos e,qK r];rfl
  ·rw[if_neg e,if_neg e,qK r];have:=ny r
   cases q:fZ r with
   | nil=>exact absurd q this
   | cons x y=>rfl
theorem wu:∀(l:List UInt8) (c:UInt8),c≠46->∀(i:List (List UInt8)) (t:List UInt8),fZ l=i++[t]->fZ (l++[c])=i++[t++[c]]
 | [],c,h,i,t,e=>by
  simp only[fZ] at e
  cases i with
  | nil=>simp at e;subst e;simp[fZ,h]
  | cons a b=>simp at e
 | d::r,c,h,i,t,e=>by
  rw[List.cons_append];unfold fZ at e ⊢;by_cases q:d=46
  ·rw[if_pos q] at e ⊢
   cases i with
   | nil =>
    simp at e;exact absurd e.2 (ny r)
   | cons a b =>
    simp only[List.cons_append,List.cons.injEq] at e ⊢;exact⟨e.1,wu r c h b t e.2⟩
  ·rw[if_neg q] at e ⊢;have hr:=ny r
   cases g:fZ r with
   | nil=>exact absurd g hr
   | cons x y =>
    rw[g] at e;simp only[List.modifyHead_cons] at e
    cases i with
    | nil =>
     simp only[List.nil_append,List.cons.injEq] at e;obtain⟨e1,e2⟩:=e;subst e2;rw[wu r c h [] x (by rw[g];rfl)];subst e1;rfl
    | cons a b =>
     simp only[List.cons_append,List.cons.injEq] at e;obtain⟨e1,e2⟩:=e;rw[wu r c h (x::b) t (by rw[g,e2];rfl)];subst e1;rfl
theorem nC {l:List UInt8}(h:Lib.index l [46]=-1):l.count 46=0:=by
 have:=Lib.count_miss h;rwa [Lib.count_one] at this
theorem oW {l:List UInt8}{i:Nat}(h:Lib.index l [46]=i):(l.take i).count 46=0/\l=l.take i++46::l.drop (i+1):=by
 rcases Lib.index_spec l [46] with ⟨e,_⟩|⟨j,e,hj,ho,hn⟩
 ·omega
 ·obtain rfl:i=j:=by omega
  have hd:l[i]?=some 46:=Lib.occAt_head rfl ho;have hl:i<l.length:=by
   rcases Nat.lt_or_ge i l.length with h|h
   ·exact h
   ·rw[List.getElem?_eq_none h] at hd;cases hd
  refine⟨?_,?_⟩
  ·rw[List.count_eq_zero];intro hm;obtain⟨k,hk,hk2⟩:=List.mem_iff_getElem.1 hm;rw[List.length_take] at hk;rw[List.getElem_take] at hk2;have hf:=hn k (by omega);have ht:Lib.occAt l [46] k=true:=by
    unfold Lib.occAt;rw[List.drop_eq_getElem_cons (by omega),hk2];simp[List.isPrefixOf]
   rw[ht] at hf
   cases hf
  ·have:l[i]=46:=by rw[List.getElem?_eq_getElem hl] at hd;exact Option.some.inj hd
   rw[<-this,<-List.drop_eq_getElem_cons hl,List.take_append_drop]
theorem wz:∀(k:Nat) (l:List UInt8),l.count 46=k->Lib.splitK [46] 0 k l=fZ l
 | 0,l,h=>by rw[wo h];rfl
 | k+1,l,h=>by
  unfold Lib.splitK;split
  ·rename_i e;have:=nC (beq_iff_eq.1 e);omega
  ·rename_i e;have hge:=Lib.index_ge l [46];have hne:Lib.index l [46]≠-1:=λx=>e (beq_iff_eq.2 x)
   obtain⟨i,hi⟩:∃i:Nat,Lib.index l [46]=i:=⟨(Lib.index l [46]).toNat,by omega⟩;obtain⟨h1,h2⟩:=oW hi;have e1:(Lib.index l [46]).toNat=i:=by omega
   rw[e1];have hc:(l.drop (i+1)).count 46=k:=by
    have:=congrArg (List.count 46) h2;rw[List.count_append,h1,List.count_cons_self] at this;omega
   rw[show i+0=i from rfl,show([46]:List UInt8).length=1 from rfl,wz k _ hc,<-AO _ _ h1,<-h2]
def toks (s:ByteArray):List ByteArray:=Lib.splitB ⟨#[46]⟩ 0 (Lib.countB s ⟨#[46]⟩) s
theorem jI (s:ByteArray):(toks s).map (·.data.toList)=fZ s.data.toList:=by
 unfold toks;rw[Lib.splitB_data];show Lib.splitK [46] 0 (Lib.count s.data.toList [46]) s.data.toList=_;rw[Lib.count_one];exact wz _ _ rfl
theorem aO (s:ByteArray):(toks s).length=(fZ s.data.toList).length:=by rw[<-jI,List.length_map]
theorem U1 (s:ByteArray):Lib.countB s ⟨#[46]⟩+1=(fZ s.data.toList).length:=by
 rw[fM];show Lib.count s.data.toList [46]+1=_;rw[Lib.count_one]
theorem qL (s:ByteArray)(i:Nat):((fZ s.data.toList)[i]?).getD []=((toks s)[i]?.getD ByteArray.empty).data.toList:=by
 rw[<-jI,List.getElem?_map]
 cases (toks s)[i]?<;>rfl
end Go.Proofs.YtophdoapcdjnjaaGreatDoor.Pl
namespace Go.Proofs.YtophdoapcdjnjaaGreatDoor.Pn
open Go Go.Proofs.Tryz
def cut (b:UInt8):List UInt8->List (List UInt8)
 | []=>[[]]
 | c::r=>if c=b then []::cut b r else (cut b r).modifyHead (λp=>c::p)
theorem II:∀l:List UInt8,cut 46 l=Pl.fZ l
 | []=>rfl
 | c::r=>by unfold cut Pl.fZ;rw[II r]
theorem nD (b:UInt8):∀l:List UInt8,cut b l≠[]
 | []=>by simp[cut]
 | c::r=>by
  unfold cut;split
  ·simp
  ·have:=nD b r
   cases e:cut b r with
   | nil=>exact absurd e this
   | cons x y=>simp
theorem qM (b:UInt8):∀(l:List UInt8) (p:List UInt8),p∈cut b l->b∉p
 | [],p,h=>by
  simp[cut] at h;rw[h];simp
 | c::r,p,h=>by
  unfold cut at h;by_cases e:c=b
  ·rw[if_pos e] at h;rcases List.mem_cons.1 h with y|y
   ·rw[y];simp
   ·exact qM b r p y
  ·rw[if_neg e] at h
   cases hc:cut b r with
   | nil=>exact absurd hc (nD b r)
   | cons x xs =>
    rw[hc] at h;simp only[List.modifyHead_cons] at h;rcases List.mem_cons.1 h with y|y
    ·rw[y];have hx:=qM b r x (by rw[hc];exact List.mem_cons_self ..);intro z;rcases List.mem_cons.1 z with q|q
     ·exact e q.symm
     ·exact hx q
    ·exact qM b r p (by rw[hc];exact List.mem_cons_of_mem _ y)
def glue (b:UInt8):List (List UInt8)->List UInt8
 | []=>[]
 | [t]=>t
 | t::u::ts=>t++b::glue b (u::ts)
theorem fE (b:UInt8)(t:List UInt8){ts:List (List UInt8)}(h:ts≠[]):glue b (t::ts)=t++b::glue b ts:=by
 cases ts with
 | nil=>exact absurd rfl h
 | cons u us=>rfl
theorem J7 (b:UInt8):∀(ts:List (List UInt8)) (t:List UInt8),ts≠[]->glue b (ts++[t])=glue b ts++b::t
 | [],_,h=>absurd rfl h
 | [x],t,_=>rfl
 | x::y::ts,t,_=>by
  have h1:=J7 b (y::ts) t (by simp);rw[List.cons_append,fE b x (by simp),h1,fE b x (by simp),List.append_assoc];rfl
theorem qN (b:UInt8):∀l:List UInt8,glue b (cut b l)=l
 | []=>rfl
 | c::r=>by
  have ih:=qN b r;unfold cut;by_cases e:c=b
  ·rw[if_pos e,fE b [] (nD b r),ih,e];rfl
  ·rw[if_neg e]
   cases hc:cut b r with
   | nil=>exact absurd hc (nD b r)
   | cons x xs =>
    rw[hc] at ih;rw[List.modifyHead_cons]
    cases xs with
    | nil=>rw[<-ih];rfl
    | cons y ys =>
     rw[fE b (c::x) (List.cons_ne_nil y ys),<-ih,fE b x (List.cons_ne_nil y ys)];rfl
theorem zf (b:UInt8):∀(a l:List UInt8),b∉a->cut b (a++b::l)=a::cut b l
 | [],l,_=>by rw[List.nil_append,cut,if_pos rfl]
 | c::a,l,h=>by
  have hc:¬c=b:=λe=>h (by rw[e];exact List.mem_cons_self ..)
  rw[List.cons_append,cut,if_neg hc,zf b a l (λz=>h (List.mem_cons_of_mem _ z)),List.modifyHead_cons]
theorem Dy (b:UInt8):∀(a:List UInt8),b∉a->cut b a=[a]
 | [],_=>rfl
 | c::a,h=>by
  have hc:¬c=b:=λe=>h (by rw[e];exact List.mem_cons_self ..)
  rw[cut,if_neg hc,Dy b a (λz=>h (List.mem_cons_of_mem _ z)),List.modifyHead_cons]
theorem qO (b:UInt8):∀(ts:List (List UInt8)),ts≠[]->(∀t∈ts,b∉t)->cut b (glue b ts)=ts
 | [],h,_=>absurd rfl h
 | [t],_,h=>Dy b t (h t (List.mem_cons_self ..))
 | t::u::ts,_,h=>by
  rw[fE b t (by simp),zf b t _ (h t (List.mem_cons_self ..)),qO b (u::ts) (by simp) (λx hx=>h x (List.mem_cons_of_mem _ hx))]
theorem qP (b:UInt8)(M:Nat):∀(ts:List (List UInt8)),(∀t∈ts,t.length<=M)->(glue b ts).length<=ts.length*(M+1)
 | [],_=>by simp[glue]
 | [t],h=>by have:=h t (List.mem_cons_self ..);simp[glue];omega
 | t::u::ts,h=>by
  have h1:=qP b M (u::ts) (λx hx=>h x (List.mem_cons_of_mem _ hx));have h2:=h t (List.mem_cons_self ..);rw[fE b t (by simp),List.length_append,List.length_cons];rw[List.length_cons (a:=t),Nat.add_mul];omega
theorem wB (b:UInt8):∀(ts:List (List UInt8)) (c:UInt8),c∈glue b ts->c=b\/∃t∈ts,c∈t
 | [],c,h=>by cases h
 | [t],c,h=>.inr ⟨t,List.mem_cons_self ..,h⟩
 | t::u::ts,c,h=>by
  rw[fE b t (by simp)] at h;rcases List.mem_append.1 h with y|y
  ·exact .inr ⟨t,List.mem_cons_self ..,y⟩
  ·rcases List.mem_cons.1 y with z|z
   ·exact .inl z
   ·rcases wB b (u::ts) c z with q|⟨x,hx,hc⟩
    ·exact .inl q
    ·exact .inr ⟨x,List.mem_cons_of_mem _ hx,hc⟩
def fO (c:UInt8):Bool:=decide (48<=c.toNat)&&decide (c.toNat<=57)
def iF (l:List UInt8):Nat:=l.foldl (λn c=>n*10+(c.toNat-48)) 0
theorem lV (l:List UInt8)(c:UInt8):iF (l++[c])=iF l*10+(c.toNat-48):=by unfold iF;rw[List.foldl_append];rfl
theorem AP {d:Nat}(h:d<10):(UInt8.ofNat (48+d)).toNat=48+d:=by rw[UInt8.toNat_ofNat'];omega
theorem Dz {d:Nat}(h:d<10):fO (UInt8.ofNat (48+d))=true:=by unfold fO;rw[AP h];simp;omega
theorem F7 (u:Nat):Lib.decDigits u≠[]:=by rw[Lib.decDigits];split<;>simp
theorem AQ (u:Nat):∀c∈Lib.decDigits u,fO c=true:=by
 induction u using Nat.strongRecOn with
 | _ u ih =>
  intro c hc;rw[Lib.decDigits] at hc;split at hc
  ·rename_i h;rw[List.mem_singleton.1 hc];exact Dz h
  ·rename_i h;rcases List.mem_append.1 hc with y|y
   ·exact ih (u / 10) (by omega) c y
   ·rw[List.mem_singleton.1 y];exact Dz (by omega)
theorem RD (u:Nat):iF (Lib.decDigits u)=u:=by
 induction u using Nat.strongRecOn with
 | _ u ih =>
  rw[Lib.decDigits];split
  ·rename_i h;have:=lV [] (UInt8.ofNat (48+u));rw[List.nil_append,AP h] at this;rw[this];simp[iF]
  ·rename_i h;rw[lV,ih (u / 10) (by omega),AP (by omega)];omega
theorem NT (u:Nat)(hu:1<=u):(Lib.decDigits u).head?≠some 48:=by
 induction u using Nat.strongRecOn with
 | _ u ih =>
  rw[Lib.decDigits];split
  ·rename_i h;intro z;simp only[List.head?_cons,Option.some.injEq] at z;have:=congrArg UInt8.toNat z;rw[AP h] at this;simp at this;omega
  ·rename_i h;have hr:=ih (u / 10) (by omega) (by omega)
   cases hd:Lib.decDigits (u / 10) with
   | nil=>exact absurd hd (F7 _)
   | cons x xs =>
    rw[hd] at hr;simpa using hr
theorem AU:∀(k u:Nat),u<10 ^ (k+1)->(Lib.decDigits u).length<=k+1
 | 0,u,h=>by
  have h':u<10:=by simpa using h
  rw[Lib.decDigits,dif_pos h'];simp
 | k+1,u,h=>by
  rw[Lib.decDigits];split
  ·simp
  ·have:u / 10<10 ^ (k+1):=by rw[Nat.pow_succ] at h;omega
   have:=AU k (u / 10) this;rw[List.length_append];simp;omega
theorem DC {P:List UInt8->Prop}(h0:P [])(h1:∀a d,P a->P (a++[d]))(l:List UInt8):P l:=by
 have key:∀(n:Nat) (l:List UInt8),l.length=n->P l:=by
  intro n;induction n with
  | zero=>intro l hl;rw[List.eq_nil_of_length_eq_zero hl];exact h0
  | succ n ih =>
   intro l hl;have hne:l≠[]:=by intro z;rw[z] at hl;simp at hl
   rw[<-List.dropLast_concat_getLast hne];exact h1 _ _ (ih _ (by simp[hl]))
 exact key _ l rfl
theorem IJ:∀{l:List UInt8},(∀c∈l,fO c=true)->l≠[]->l.head?≠some 48->1<=iF l:=by
 refine λ{l}=>DC (P:=λl=>(∀c∈l,fO c=true)->l≠[]->l.head?≠some 48->1<=iF l) ?_ ?_ l
 ·intro _ h;exact absurd rfl h
 ·intro a d ih hd _ hh;rw[lV]
  cases a with
  | nil =>
   simp only[List.nil_append,List.head?_cons,ne_eq,Option.some.injEq] at hh;have h1:=hd d (by simp);unfold fO at h1;simp at h1;have:d.toNat≠48:=λz=>hh (UInt8.toNat_inj.1 (by simpa using z))
   omega
  | cons x xs =>
   have:=ih (λc hc=>hd c (List.mem_append_left _ hc)) (by simp) (by simpa using hh);omega
theorem RG:∀{l:List UInt8},(∀c∈l,fO c=true)->l≠[]->l.head?≠some 48->Lib.decDigits (iF l)=l:=by
 refine λ{l}=>DC (P:=λl=>(∀c∈l,fO c=true)->l≠[]->l.head?≠some 48->Lib.decDigits (iF l)=l) ?_ ?_ l
 ·intro _ h;exact absurd rfl h
 ·intro a d ih hd _ hh;have h1:=hd d (by simp);unfold fO at h1;simp at h1;have hdd:∀n,n=d.toNat-48->UInt8.ofNat (48+n)=d:=λn hn=>UInt8.toNat_inj.1 (by rw[UInt8.toNat_ofNat',hn];omega)
  rw[lV]
  cases a with
  | nil =>
   have e:iF []*10+(d.toNat-48)=d.toNat-48:=by simp[iF]
   rw[e,Lib.decDigits,dif_pos (by omega),hdd _ rfl];rfl
  | cons x xs =>
   have ha:∀c∈x::xs,fO c=true:=λc hc=>hd c (List.mem_append_left _ hc)
   have hh':(x::xs).head?≠some 48:=by simpa using hh
   have hp:=IJ ha (by simp) hh';rw[Lib.decDigits,dif_neg (by omega),show(iF (x::xs)*10+(d.toNat-48)) / 10=iF (x::xs) by omega,ih ha (by simp) hh',hdd _ (by omega)]
def gW (l:List UInt8):Int:=if (l.take 10).all fO=true/\1<=l.length/\l.length<=9/\¬(l.head?=some 48/\l≠[48]) then (iF l:Int) else -1
theorem DF {u:Nat}(h:1<=u)(h9:u<1000000000):gW (Lib.decDigits u)=(u:Int):=by
 have hl:=AU 8 u (by simpa using h9);have hn:=F7 u;unfold gW;rw[if_pos,RD];refine⟨?_,?_,hl,λz=>NT u h z.1⟩
 ·rw[List.all_eq_true];exact λc hc=>AQ u c (List.mem_of_mem_take hc)
 ·cases hd:Lib.decDigits u with
  | nil=>exact absurd hd hn
  | cons x xs=>simp
theorem zh {l:List UInt8}(h:1<=gW l):Lib.itoa (gW l)=l/\gW l<1000000000:=by
 unfold gW at h ⊢;split
 ·rename_i hc;rw[if_pos hc] at h;obtain⟨h1,h2,h3,h4⟩:=hc;have hall:∀c∈l,fO c=true:=by
   rw[List.take_of_length_le (by omega),List.all_eq_true] at h1;exact h1
  have hne:l≠[]:=by intro z;rw[z] at h2;simp at h2
  have hh:l.head?≠some 48:=λz=>by
   have:l=[48]:=Classical.byContradiction (λy=>h4 ⟨z,y⟩);rw[this] at h;simp[iF] at h
  have hd:=RG hall hne hh;refine⟨?_,?_⟩
  ·unfold Lib.itoa;rw[if_neg (by omega)];simpa using hd
  ·apply Classical.byContradiction;intro z;have hlen:∀(k v:Nat),10 ^ k<=v->k+1<=(Lib.decDigits v).length:=by
    intro k;induction k with
    | zero=>intro v _;cases hd:Lib.decDigits v with
     | nil=>exact absurd hd (F7 v)
     | cons x xs=>simp
    | succ k ih =>
     intro v hv;rw[Nat.pow_succ] at hv;have hp:1<=10 ^ k:=Nat.one_le_pow _ _ (by decide);rw[Lib.decDigits,dif_neg (by omega),List.length_append];have:=ih (v / 10) (by omega);simp;omega
   have:=hlen 9 (iF l) (by simp;omega);rw[hd] at this;omega
 ·rename_i hc;rw[if_neg hc] at h;omega
end Go.Proofs.YtophdoapcdjnjaaGreatDoor.Pn
namespace Go.Proofs.YtophdoapcdjnjaaGreatDoor.Dk
open Go.RowKit Go.Proofs.Tryz
structure aC where
 n:Int
 sure:Int
 text:ByteArray
def pa (l:List aC)(k:Nat):aC:=l[k]?.getD ⟨0,0,ByteArray.empty⟩
theorem fP {l:List aC}{k:Nat}(h:k<l.length):pa l k=l[k]:=by unfold pa;rw[List.getElem?_eq_getElem h];rfl
theorem pY {l:List aC}{k:Nat}(h:k<l.length):pa l k∈l:=by rw[fP h];exact List.getElem_mem h
theorem YH (e:aC)(r:List aC):pa (e::r) 0=e:=rfl
theorem RH (e:aC)(r:List aC)(k:Nat):pa (e::r) (k+1)=pa r k:=rfl
structure aF (A:Nat->Prop)(w w':World):Prop where
 os:w'.os=w.os
 tape:w'.tape=w.tape
 output:w'.output=w.output
 size:w.heap.size<=w'.heap.size
 block:∀k,k<w.heap.size->¬A k->w'.heap[k]?=w.heap[k]?
theorem aF.refl (A:Nat->Prop)(w:World):aF A w w:=⟨rfl,rfl,rfl,Nat.le_refl _,λ_ _ _=>rfl⟩
theorem aF.trans {A:Nat->Prop}{a b c:World}(h:aF A a b)(k:aF A b c):aF A a c :=
 ⟨k.os.trans h.os,k.tape.trans h.tape,k.output.trans h.output,Nat.le_trans h.size k.size,λi hi hn=>(k.block i (by have:=h.size;omega) hn).trans (h.block i hi hn)⟩
theorem aF.mono {A A':Nat->Prop}{a b:World}(h:aF A a b)(hA:∀k,k<a.heap.size->A k->A' k):aF A' a b :=
 ⟨h.os,h.tape,h.output,h.size,λk hk hn=>h.block k hk (λq=>hn (hA k hk q))⟩
theorem aF.of_below {A:Nat->Prop}{w w':World}(h:Below w.heap.size w w'):aF A w w':=⟨h.os,h.tape,h.output,h.size,λk hk _=>h.block k hk⟩
theorem aF.cu {w w':World}{row:Option Nat}(h:w.grownBy w' row):aF (λk=>row=some k) w w':=⟨h.os,h.tape,h.output,h.size,λk hk hn=>h.block k hk (λe=>hn e.symm)⟩
theorem aF.setCell {A:Nat->Prop}{a w:World}(h:aF A a w){p:Addr}(hp:A p.block\/a.heap.size<=p.block)(u:Value):aF A a (w.setCell p u):=by
 refine⟨h.os,h.tape,h.output,by simpa[World.setCell] using h.size,λk hk hn=>?_⟩;rw[Below.heap_setCell _ _ _ _ (λe=>by subst e;rcases hp with q|q;exact hn q;omega)];exact h.block k hk hn
theorem aF.below {A:Nat->Prop}{B:Nat}{w w':World}(h:aF A w w')(hB:B<=w.heap.size)(hA:∀k,k<B->¬A k):Below B w w':=⟨h.os,h.tape,h.output,h.size,λk hk=>h.block k (by omega) (hA k hk)⟩
theorem aF.cell {A:Nat->Prop}{w w':World}(h:aF A w w'){p:Addr}(hp:p.block<w.heap.size)(hn:¬A p.block):w'.cell? p=w.cell? p:=World.cell?_of_block (w:=w) (h.block p.block hp hn)
theorem aF.frozen {A:Nat->Prop}{w w':World}(h:aF A w w'){p:Addr}(hp:p.block<w.heap.size)(hn:¬A p.block):w'.frozen? p=w.frozen? p:=World.frozen?_of_block (w:=w) (h.block p.block hp hn)
def insL (es:List aC)(i:Nat)(x:aC):List aC:=es.take i++x::es.drop i
theorem DI {es:List aC}{i:Nat}{x:aC}(h:i<=es.length):(insL es i x).length=es.length+1:=by
 unfold insL;rw[List.length_append,List.length_cons,List.length_take,List.length_drop];omega
def ix (es:List aC)(n:Int):Nat:=es.findIdx (λp=>p.n==n)
theorem aad (es:List aC)(n:Int):ix es n<=es.length:=List.findIdx_le_length
theorem NU {es:List aC}{n:Int}{i:Nat}(h:i<es.length)(hi:(pa es i).n=n)(hlo:∀k,k<i->((pa es k).n==n)=false):ix es n=i:=by
 unfold ix;rw[List.findIdx_eq h];refine⟨by rw[<-fP h];simp[hi],λj hj=>?_⟩;have:=hlo j hj;rw[fP (by omega)] at this;exact this
theorem YI {es:List aC}{n:Int}(h:∀k,k<es.length->((pa es k).n==n)=false):ix es n=es.length:=by
 unfold ix;rw[List.findIdx_eq_length];intro x hx;obtain⟨k,hk,rfl⟩:=List.mem_iff_getElem.1 hx;have:=h k hk;rw[fP hk] at this;exact this
theorem DJ {es:List aC}{n:Int}(h:ix es n<es.length):(pa es (ix es n)).n=n:=by
 rw[fP h];have:=List.findIdx_getElem (w:=h);exact eq_of_beq this
def YJ (es:List aC)(n:Int):Int:=if ix es n<es.length then (ix es n:Int) else -1
theorem fQ {k:IntKind}{a b:Int}(h:b=a):Ending.returned (.int k a)=.returned (.int k b):=by rw[h]
def used:List aC->Nat
 | []=>0
 | e::r=>e.text.size+used r
theorem eu (a b:List aC):used (a++b)=used a+used b:=by
 induction a with
 | nil=>simp[used]
 | cons e r ih=>rw[List.cons_append,used,used,ih];omega
theorem WR {es:List aC}{k:Nat}(h:k<es.length):used (es.take (k+1))=used (es.take k)+(pa es k).text.size:=by
 rw[List.take_succ_eq_append_getElem h,eu,<-fP h];simp[used]
theorem YK (es:List aC)(k:Nat):used (es.take k)<=used es:=by
 have:=eu (es.take k) (es.drop k);rw[List.take_append_drop] at this;omega
theorem WS {es:List aC}{n:Int}(h:ix es n<es.length):YJ es n=(ix es n:Int):=by unfold YJ;rw[if_pos h]
theorem Xt {es:List aC}{n:Int}(h:¬ix es n<es.length):YJ es n=-1:=by unfold YJ;rw[if_neg h]
def aae (es:List aC)(n:Int):Value:=if ix es n<es.length then .tuple #[.string (pa es (ix es n)).text,.int .i64 0] else .tuple #[.string ⟨#[]⟩,.int .i64 4]
def jA (es:List aC)(n:Int):List aC:=if ix es n<es.length then es.set (ix es n) {pa es (ix es n) with sure:=((pa es (ix es n)).text.size:Int)} else es
def Xu (es:List aC)(n:Int):Int:=if ix es n<es.length then 0 else 4
def lC (n lo hi:Int):Bool:=decide (lo<=n)&&decide (n<=hi)
def qQ (e:aC)(k:Nat):aC:=⟨e.n,(k:Int),e.text.extract 0 k⟩
def zi (es:List aC)(n size:Int):Bool:=lC size 0 ((pa es (ix es n)).text.size:Int)
def J8 (es:List aC)(n size:Int):List aC:=if ix es n<es.length then (if zi es n size then es.set (ix es n) (qQ (pa es (ix es n)) size.toNat) else es) else es
def F8 (es:List aC)(n size:Int):Int:=if ix es n<es.length then (if zi es n size then 0 else 1) else 4
def iG (es:List aC):List Int:=es.map (·.n)
theorem WT {es:List aC}{k:Nat}(h:k<es.length):iG (es.take (k+1))=iG (es.take k)++[(pa es k).n]:=by
 unfold iG;rw[List.take_succ_eq_append_getElem h,List.map_append,<-fP h];rfl
theorem Xv {es:List aC}{k:Nat}(h:k<=es.length):(iG (es.take k)).length=k:=by
 unfold iG;rw[List.length_map,List.length_take];omega
def low (es:List aC)(n:Int):Nat:=es.findIdx (λp=>!decide (p.n<n))
theorem F9 (es:List aC)(n:Int):low es n<=es.length:=List.findIdx_le_length
theorem VD {es:List aC}{n:Int}{k:Nat}(h:k<low es n):(pa es k).n<n:=by
 have hk:k<es.length:=Nat.lt_of_lt_of_le h (F9 es n);have:=List.not_of_lt_findIdx h;rw[fP hk];simpa using this
theorem NV {es:List aC}{n:Int}(h:low es n<es.length):¬(pa es (low es n)).n<n:=by
 rw[fP h];have:=List.findIdx_getElem (w:=h);simp only[Bool.not_eq_true',decide_eq_false_iff_not] at this;exact this
def yM (e:aC)(s:ByteArray):aC:={e with text:=e.text++s}
def full (es:List aC)(m n:Int)(s:ByteArray):Bool:=decide (m<(s.size:Int)+(used es:Int))||(!decide (ix es n<es.length)&&decide (es.length=20))
def iH (es:List aC)(m n:Int)(s:ByteArray):Int:=if lC n 0 1099511627776=false then 1 else if full es m n s then 8 else 0
def kU (es:List aC)(m n:Int)(s:ByteArray):List aC :=
 if lC n 0 1099511627776=false then es else if full es m n s then es
 else if ix es n<es.length then es.set (ix es n) (yM (pa es (ix es n)) s) else insL es (low es n) ⟨n,0,s⟩
theorem IK {es:List aC}{m n:Int}{s:ByteArray}(h:lC n 0 1099511627776=false):iH es m n s=1/\kU es m n s=es:=by
 unfold iH kU;rw[if_pos h,if_pos h];exact⟨rfl,rfl⟩
theorem DK {es:List aC}{m n:Int}{s:ByteArray}(h:lC n 0 1099511627776=true)(hf:full es m n s=true):iH es m n s=8/\kU es m n s=es:=by
 unfold iH kU;constructor<;>simp[h,hf]
theorem vH {es:List aC}{m n:Int}{s:ByteArray}(h:lC n 0 1099511627776=true)(hf:full es m n s=false)(hi:ix es n<es.length):iH es m n s=0/\kU es m n s=es.set (ix es n) (yM (pa es (ix es n)) s):=by
 unfold iH kU;constructor<;>simp[h,hf,hi]
theorem vI {es:List aC}{m n:Int}{s:ByteArray}(h:lC n 0 1099511627776=true)(hf:full es m n s=false)(hi:¬ix es n<es.length):iH es m n s=0/\kU es m n s=insL es (low es n) ⟨n,0,s⟩:=by
 unfold iH kU;constructor<;>simp[h,hf,hi]
theorem NY {es:List aC}{m n:Int}{s:ByteArray}(h:full es m n s=false)(hh:¬ix es n<es.length):¬m<(s.size:Int)+(used es:Int)/\es.length≠20:=by
 unfold full at h;rw[decide_eq_false hh] at h;simpa using h
theorem aF.more {A A':Nat->Prop}{a b c:World}(h:aF A a b)(k:aF A' b c)(hA:∀i,i<a.heap.size->A' i->A i):aF A a c :=
 ⟨k.os.trans h.os,k.tape.trans h.tape,k.output.trans h.output,Nat.le_trans h.size k.size,λi hi hn=>(k.block i (by have:=h.size;omega) (λq=>hn (hA i hi q))).trans (h.block i hi hn)⟩
theorem YL {es:List aC}{k:Nat}(h:k<=es.length)(x:aC):pa (insL es k x) k=x:=by
 unfold pa insL;have hl:(es.take k).length=k:=by rw[List.length_take];omega
 rw[List.getElem?_append_right (by omega),hl,Nat.sub_self];simp
theorem Xw {es:List aC}{k:Nat}(h:k<=es.length)(x y:aC):(insL es k x).set k y=insL es k y:=by
 unfold insL;have hl:(es.take k).length=k:=by rw[List.length_take];omega
 rw[List.set_append_right _ _ (by omega),hl,Nat.sub_self];simp
theorem Xx {L:List aC}{k:Nat}{n:Int}{s:ByteArray}(h:pa L k=⟨n,0,ByteArray.empty⟩):({pa L k with text:=(pa L k).text++s}:aC)=⟨n,0,s⟩:=by rw[h];simp
def J9 (es:List aC)(n:Int):List aC:=if ix es n<es.length then es.take (ix es n)++es.drop (ix es n+1) else es
def eU (e:aC)(keep:Int):Nat:=min e.text.size (e.sure.toNat+keep.toNat)
def iL (keep:Int)(e:aC):aC:=⟨e.n,(eU e keep:Int),e.text.extract 0 (eU e keep)⟩
def Sound (e:aC):Prop:=0<=e.sure/\e.sure<=(e.text.size:Int)/\e.text.size<=1000000
theorem AV (e:aC)(keep:Int):eU e keep<=e.text.size:=Nat.min_le_left _ _
theorem ext_size (t:ByteArray)(c:Nat)(h:c<=t.size):(t.extract 0 c).size=c:=by simp;omega
def nth (l:List Int)(k:Nat):Int:=l[k]?.getD 0
def jm (w:World)(a:Option Addr)(l:List Int):Prop:=∀k,k<l.length->∃b o,a=some ⟨b,o,none⟩/\b<w.heap.size/\w.cell? ⟨b,o+k,none⟩=some (.int .i64 (nth l k))
theorem jm.below {w w':World}{a:Option Addr}{l:List Int}(h:jm w a l)(hb:Below w.heap.size w w'):jm w' a l:=by
 intro k hk;obtain⟨b,o,h1,h2,h3⟩:=h k hk;exact⟨b,o,h1,by have:=hb.size;omega,by rw[hb.cell (p:=⟨b,o+k,none⟩) h2];exact h3⟩
end Go.Proofs.YtophdoapcdjnjaaGreatDoor.Dk
namespace Go.Proofs.YtophdoapcdjnjaaGreatDoor
open Go.RowKit Go.Proofs.Tryz
def Gf (l:List UInt8):ByteArray:=⟨l.toArray⟩
theorem WU (l:List UInt8):(Gf l).data.toList=l:=by simp[Gf]
theorem YM (l:List UInt8):(Gf l).size=l.length:=by simp[Gf,ByteArray.size]
theorem NZ (b o i:Nat):(⟨b,o,none⟩:Addr).add i=⟨b,o+i,none⟩:=by unfold Addr.add;split<;>simp_all
def puts (W:World)(b:Nat):Nat->List Value->World
 | _,[]=>W
 | o,v::vs=>puts (W.setCell ⟨b,o,none⟩ v) b (o+1) vs
theorem sQ (b:Nat):∀(vs:List Value) (W:World) (o:Nat),(∀j,j<vs.length->(W.cell? ⟨b,o+j,none⟩).isSome=true)->(∀j,j<vs.length->(puts W b o vs).cell? ⟨b,o+j,none⟩=vs[j]?)/\∀k,k<o->(puts W b o vs).cell? ⟨b,k,none⟩=W.cell? ⟨b,k,none⟩
 | [],W,o,_=>⟨λj hj=>by simp at hj,λk _=>rfl⟩
 | v::vs,W,o,h=>by
  have h2:∀j,j<vs.length->((W.setCell ⟨b,o,none⟩ v).cell? ⟨b,o+1+j,none⟩).isSome=true:=λj hj=>by
   rw[World.cell?_setCell_other _ _ _ _ (by intro e;injection e;omega)];have:=h (j+1) (by simpa using hj);rwa [show o+(j+1)=o+1+j by omega] at this
  obtain⟨r1,r2⟩:=sQ b vs (W.setCell ⟨b,o,none⟩ v) (o+1) h2;refine⟨λj hj=>?_,λk hk=>?_⟩
  ·cases j with
   | zero =>
    rw[Nat.add_zero];show(puts (W.setCell ⟨b,o,none⟩ v) b (o+1) vs).cell? ⟨b,o,none⟩=some v;rw[r2 o (by omega)];exact World.cell?_setCell_same' _ _ _ (by have:=h 0 (by simp);rwa [Nat.add_zero] at this)
   | succ j =>
    have:=r1 j (by simpa using hj);rw[show o+(j+1)=o+1+j by omega];exact this
  ·show(puts (W.setCell ⟨b,o,none⟩ v) b (o+1) vs).cell? ⟨b,k,none⟩=_;rw[r2 k (by omega),World.cell?_setCell_other _ _ _ _ (by intro e;injection e;omega)]
theorem oH (b:Nat):∀(vs:List Value) (W:World) (o:Nat),(puts W b o vs).heap.size=W.heap.size
 | [],W,o=>rfl
 | v::vs,W,o=>by
  show(puts (W.setCell ⟨b,o,none⟩ v) b (o+1) vs).heap.size=_;rw[oH b vs];simp[World.setCell]
theorem qc {B b:Nat}(hB:B<=b){w:World}:∀(vs:List Value) (W:World) (o:Nat),Below B w W->Below B w (puts W b o vs)
 | [],_,_,h=>h
 | v::vs,_,o,h=>qc hB vs _ (o+1) (h.setCell (p:=⟨b,o,none⟩) hB v)
theorem wC {b k j:Nat}(h:k≠b):∀(vs:List Value) (W:World) (o:Nat),(puts W b o vs).cell? ⟨k,j,none⟩=W.cell? ⟨k,j,none⟩
 | [],W,o=>rfl
 | v::vs,W,o=>by
  show(puts (W.setCell ⟨b,o,none⟩ v) b (o+1) vs).cell? ⟨k,j,none⟩=_;rw[wC h vs,World.cell?_setCell_other _ _ _ _ (by intro e;injection e;omega)]
end Go.Proofs.YtophdoapcdjnjaaGreatDoor
namespace Go.Proofs.YtophdoapcdjnjaaGreatDoor.Pn
open Go Go.Proofs.Tryz
theorem qg (b:UInt8):∀l:List UInt8,(cut b l).length=l.count b+1
 | []=>rfl
 | c::r=>by
  unfold cut;by_cases h:c=b
  ·rw[if_pos h,h];simp[qg b r]
  ·rw[if_neg h,List.length_modifyHead,qg b r,List.count_cons_of_ne h]
theorem Ko (b:UInt8):∀(l:List UInt8) (p:List UInt8),p∈cut b l->p.length<=l.length
 | [],p,h=>by simp[cut] at h;subst h;simp
 | c::r,p,h=>by
  have ih:=Ko b r;unfold cut at h;by_cases e:c=b
  ·rw[if_pos e] at h;rcases List.mem_cons.1 h with h|h
   ·subst h;simp
   ·have:=ih p h;simp;omega
  ·rw[if_neg e] at h
   cases q:cut b r with
   | nil=>rw[q] at h;simp at h
   | cons x y =>
    rw[q] at h ih;simp only[List.modifyHead_cons,List.mem_cons] at h;rcases h with h|h
    ·subst h;have:=ih x (by simp);simp;omega
    ·have:=ih p (by simp[h]);simp;omega
theorem uy (b:UInt8):∀l:List UInt8,cut b (l++[b])=cut b l++[[]]
 | []=>by simp[cut]
 | c::r=>by
  rw[List.cons_append];unfold cut;by_cases e:c=b
  ·rw[if_pos e,if_pos e,uy b r];rfl
  ·rw[if_neg e,if_neg e,uy b r];have:=nD b r
   cases q:cut b r with
   | nil=>exact absurd q this
   | cons x y=>rfl
theorem wE (b:UInt8):∀(l:List UInt8) (c:UInt8),c≠b->∀(i:List (List UInt8)) (t:List UInt8),cut b l=i++[t]->cut b (l++[c])=i++[t++[c]]
 | [],c,h,i,t,e=>by
  simp only[cut] at e
  cases i with
  | nil=>simp at e;subst e;simp[cut,h]
  | cons a bb=>simp at e
 | d::r,c,h,i,t,e=>by
  rw[List.cons_append];unfold cut at e ⊢;by_cases q:d=b
  ·rw[if_pos q] at e ⊢
   cases i with
   | nil =>
    simp at e;exact absurd e.2 (nD b r)
   | cons a bb =>
    simp only[List.cons_append,List.cons.injEq] at e ⊢;exact⟨e.1,wE b r c h bb t e.2⟩
  ·rw[if_neg q] at e ⊢;have hr:=nD b r
   cases g:cut b r with
   | nil=>exact absurd g hr
   | cons x y =>
    rw[g] at e;simp only[List.modifyHead_cons] at e
    cases i with
    | nil =>
     simp only[List.nil_append,List.cons.injEq] at e;obtain⟨e1,e2⟩:=e;subst e2;rw[wE b r c h [] x (by rw[g];rfl)];subst e1;rfl
    | cons a bb =>
     simp only[List.cons_append,List.cons.injEq] at e;obtain⟨e1,e2⟩:=e;rw[wE b r c h (x::bb) t (by rw[g,e2];rfl)];subst e1;rfl
end Go.Proofs.YtophdoapcdjnjaaGreatDoor.Pn
namespace Go.Proofs.YtophdoapcdjnjaaGreatDoor.Dk
open Go.RowKit Go.Proofs.Tryz
def kV (es:List aC)(n:Int):Option aC:=es.find? (λp=>p.n==n)
theorem YN (n:Int):kV [] n=none:=rfl
theorem lD (e:aC)(r:List aC)(n:Int):kV (e::r) n=if e.n=n then some e else kV r n:=by
 unfold kV;rw[List.find?_cons];by_cases h:e.n=n
 ·rw[if_pos h,beq_iff_eq.2 h]
 ·rw[if_neg h,beq_eq_false_iff_ne.2 h]
theorem wF (a b:List aC)(n:Int):kV (a++b) n=(kV a n).or (kV b n):=List.find?_append
theorem DL {l:List aC}{n:Int}(h:∀e∈l,e.n≠n):kV l n=none:=by
 unfold kV;rw[List.find?_eq_none];intro e he;rw[beq_iff_eq];exact h e he
theorem vJ {A B:List aC}{x:aC}(hA:∀e∈A,e.n≠x.n)(k:Int):kV (A++x::B) k=if k=x.n then some x else kV (A++B) k:=by
 rw[wF,wF,lD];by_cases h:k=x.n
 ·rw[if_pos h,if_pos h.symm,h,DL hA];rfl
 ·rw[if_neg h,if_neg (λq=>h q.symm)]
theorem RI (e:aC)(r:List aC)(n:Int):ix (e::r) n=if e.n=n then 0 else ix r n+1:=by
 unfold ix;rw[List.findIdx_cons];by_cases h:e.n=n
 ·rw[if_pos h,beq_iff_eq.2 h];rfl
 ·rw[if_neg h,beq_eq_false_iff_ne.2 h];rfl
theorem AX:∀(es:List aC) (n:Int),kV es n=if ix es n<es.length then some (pa es (ix es n)) else none
 | [],n=>rfl
 | e::r,n=>by
  rw[lD,RI];by_cases h:e.n=n
  ·rw[if_pos h,if_pos h,if_pos (by simp)];rfl
  ·rw[if_neg h,if_neg h,AX r n,RH];simp
theorem wG {es:List aC}{n:Int}(h:ix es n<es.length):kV es n=some (pa es (ix es n)):=by rw[AX,if_pos h]
theorem vK {es:List aC}{n:Int}(h:¬ix es n<es.length):kV es n=none:=by rw[AX,if_neg h]
theorem Zi {es:List aC}{n:Int}:ix es n<es.length↔(kV es n).isSome=true:=by
 rw[AX];by_cases h:ix es n<es.length
 ·rw[if_pos h];simp[h]
 ·rw[if_neg h];simp[h]
theorem YO {es:List aC}{n:Int}{e:aC}(h:kV es n=some e):e∈es/\e.n=n:=⟨List.mem_of_find?_eq_some h,by have:=List.find?_some h;simpa using this⟩
theorem zk {es:List aC}{n:Int}(h:¬ix es n<es.length):∀e∈es,e.n≠n:=by
 have q:=vK h;unfold kV at q;rw[List.find?_eq_none] at q;intro e he;have:=q e he;simpa using this
def lF (es:List aC):Prop:=es.Pairwise (λa b=>a.n<b.n)
theorem jP (es:List aC):lF es↔(iG es).Pairwise (· < ·):=by unfold lF iG;rw[List.pairwise_map]
theorem nG {es:List aC}{i:Nat}(h:i<es.length):es=es.take i++pa es i::es.drop (i+1):=by
 rw[fP h,<-List.drop_eq_getElem_cons h,List.take_append_drop]
theorem sS {es:List aC}{i:Nat}(h:i<es.length)(x:aC):es.set i x=es.take i++x::es.drop (i+1):=by
 rw[List.set_eq_take_append_cons_drop,if_pos h]
theorem lW {A B:List aC}{y:aC}(h:lF (A++y::B)):∀e∈A,e.n≠y.n:=by
 intro e he;have:=(List.pairwise_append.1 h).2.2 e he y (by simp);omega
theorem DN {A B:List aC}{y:aC}(h:lF (A++y::B)):∀e∈B,e.n≠y.n:=by
 intro e he;have:=List.rel_of_pairwise_cons (List.pairwise_append.1 h).2.1 he;omega
theorem N7 {es:List aC}{i:Nat}(h:i<es.length){x:aC}(hx:x.n=(pa es i).n):iG (es.set i x)=iG es:=by
 rw[sS h];conv=>rhs;rw[nG h]
 simp[iG,hx]
theorem dw (e:aC)(r:List aC):used (e::r)=used r+e.text.size:=by simp[used];omega
theorem N8 {es:List aC}{i:Nat}(h:i<es.length)(x:aC):used (es.set i x)+(pa es i).text.size=used es+x.text.size:=by
 rw[sS h];conv=>rhs;rw[nG h]
 rw[eu,eu,dw,dw];omega
theorem AY {es:List aC}{i:Nat}(hr:lF es)(h:i<es.length){x:aC}(hx:x.n=(pa es i).n)(k:Int):kV (es.set i x) k=if k=x.n then some x else kV es k:=by
 have e:=nG h;have hA:∀e∈es.take i,e.n≠(pa es i).n:=lW (by rw[<-e];exact hr);rw[sS h,vJ (λe he=>by rw[hx];exact hA e he)];by_cases hk:k=x.n
 ·rw[if_pos hk,if_pos hk]
 ·rw[if_neg hk,if_neg hk];conv=>rhs;rw[e]
  rw[vJ hA,if_neg (by rw[<-hx];exact hk)]
theorem DR {es:List aC}{q:Nat}{e:aC}(h:e∈es.take q):∃j,j<q/\j<es.length/\e=pa es j:=by
 obtain⟨j,hj,rfl⟩:=List.getElem_of_mem h;rw[List.length_take] at hj;refine⟨j,by omega,by omega,?_⟩;rw[List.getElem_take,fP (by omega)]
theorem DT {es:List aC}{q:Nat}{e:aC}(h:e∈es.drop q):∃j,q<=j/\j<es.length/\e=pa es j:=by
 obtain⟨j,hj,rfl⟩:=List.getElem_of_mem h;rw[List.length_drop] at hj;refine⟨q+j,by omega,by omega,?_⟩;rw[List.getElem_drop,fP (by omega)]
theorem AZ {es:List aC}(h:lF es){i j:Nat}(hij:i<j)(hj:j<es.length):(pa es i).n<(pa es j).n:=by
 rw[fP (by omega),fP hj];exact List.pairwise_iff_getElem.1 h i j (by omega) hj hij
theorem N9 {es:List aC}(h:lF es){x:aC}(hn:∀e∈es,e.n≠x.n):lF (insL es (low es x.n) x):=by
 unfold insL lF;have hA:∀e∈es.take (low es x.n),e.n<x.n:=λe he=>by
  obtain⟨j,h1,h2,rfl⟩:=DR he;exact VD h1
 have hB:∀e∈es.drop (low es x.n),x.n<e.n:=λe he=>by
  obtain⟨j,h1,h2,rfl⟩:=DT he;have q1:=NV (es:=es) (n:=x.n) (by omega);have q2:=hn _ (pY (l:=es) (k:=low es x.n) (by omega));rcases Nat.eq_or_lt_of_le h1 with z|z
  ·rw[<-z];omega
  ·have:=AZ h z h2;omega
 have hp:(es.take (low es x.n)++es.drop (low es x.n)).Pairwise (λa b=>a.n<b.n):=by rw[List.take_append_drop];exact h
 rw[List.pairwise_append] at hp ⊢;refine⟨hp.1,List.pairwise_cons.2 ⟨hB,hp.2.1⟩,λa ha b hb=>?_⟩;rcases List.mem_cons.1 hb with rfl|hb
 ·exact hA a ha
 ·exact hp.2.2 a ha b hb
theorem RJ {es:List aC}(q:Nat){x:aC}(hn:∀e∈es,e.n≠x.n)(k:Int):kV (insL es q x) k=if k=x.n then some x else kV es k:=by
 unfold insL;rw[vJ (λe he=>hn e (List.mem_of_mem_take he)),List.take_append_drop]
theorem Oa {es:List aC}(q:Nat)(x:aC):used (insL es q x)=used es+x.text.size:=by
 unfold insL;conv=>rhs;rw[<-List.take_append_drop q es]
 rw[eu,eu,dw];omega
theorem IL {es:List aC}{q:Nat}{x e:aC}(h:e∈insL es q x):e=x\/e∈es:=by
 unfold insL at h;rw[List.mem_append,List.mem_cons] at h;rcases h with h|h|h
 ·exact .inr (List.mem_of_mem_take h)
 ·exact .inl h
 ·exact .inr (List.mem_of_mem_drop h)
theorem RN {es:List aC}{i:Nat}(hr:lF es)(h:i<es.length)(k:Int):kV (es.take i++es.drop (i+1)) k=if k=(pa es i).n then none else kV es k:=by
 have e:=nG h;have hr':lF (es.take i++pa es i::es.drop (i+1)):=by rw[<-e];exact hr
 by_cases hk:k=(pa es i).n
 ·rw[if_pos hk];refine DL (λe he=>?_);rw[hk];rcases List.mem_append.1 he with q|q
  ·exact lW hr' e q
  ·exact DN hr' e q
 ·rw[if_neg hk];conv=>rhs;rw[e]
  rw[vJ (lW hr'),if_neg hk]
theorem Ob {es:List aC}{i:Nat}(h:i<es.length):used (es.take i++es.drop (i+1))+(pa es i).text.size=used es:=by
 conv=>rhs;rw[nG h]
 rw[eu,eu,dw];omega
theorem RP (es:List aC)(i:Nat):(es.take i++es.drop (i+1)).Sublist es:=by
 conv=>rhs;rw[<-List.take_append_drop i es]
 refine List.Sublist.append (List.Sublist.refl _) ?_;rw[<-List.drop_drop];exact List.drop_sublist 1 _
theorem RQ (es:List aC)(f:aC->aC)(hf:∀e,(f e).n=e.n)(k:Int):kV (es.map f) k=(kV es k).map f:=by
 induction es with
 | nil=>rfl
 | cons e r ih =>
  rw[List.map_cons,lD,lD,hf,ih];by_cases h:e.n=k
  ·rw[if_pos h,if_pos h];rfl
  ·rw[if_neg h,if_neg h]
structure Tidy (m:Int)(es:List aC):Prop where
 rise:lF es
 few:es.length<=20
 fits:(used es:Int)<=m
 each:∀e∈es,lC e.n 0 1099511627776=true/\0<=e.sure/\e.sure<=(e.text.size:Int)
theorem Tidy.nil {m:Int}(h:0<=m):Tidy m []:=⟨List.Pairwise.nil,by simp,by simpa[used] using h,λe he=>by simp at he⟩
theorem Oc {es:List aC}{e:aC}(h:e∈es):e.text.size<=used es:=by
 induction es with
 | nil=>simp at h
 | cons x r ih =>
  rw[dw];rcases List.mem_cons.1 h with rfl|h
  ·omega
  ·have:=ih h;omega
theorem Tidy.sound {m:Int}{es:List aC}(h:Tidy m es)(hm:m<=1000000):∀e∈es,Sound e:=λe he=>⟨(h.each e he).2.1,(h.each e he).2.2,by have:=Oc he;have:=h.fits;omega⟩
theorem Tidy.set {m:Int}{es:List aC}(h:Tidy m es){i:Nat}(hi:i<es.length){x:aC}(hx:x.n=(pa es i).n)(hu:(used es:Int)+(x.text.size:Int)<=m+((pa es i).text.size:Int))(h0:0<=x.sure)(h1:x.sure<=(x.text.size:Int)):Tidy m (es.set i x):=by
 refine⟨?_,by rw[List.length_set];exact h.few,?_,?_⟩
 ·rw[jP,N7 hi hx,<-jP];exact h.rise
 ·have:=N8 hi x;omega
 ·intro e he;rcases List.mem_or_eq_of_mem_set he with q|q
  ·exact h.each e q
  ·subst q;refine⟨?_,h0,h1⟩;rw[hx];exact(h.each _ (pY hi)).1
def VE (o:Option aC)(n:Int)(s:ByteArray):aC:=match o with
 | some e=>yM e s
 | none=>⟨n,0,s⟩
theorem zl {es:List aC}{m n:Int}{s:ByteArray}(h:full es m n s=false):(s.size:Int)+(used es:Int)<=m:=by
 unfold full at h;simp only[Bool.or_eq_false_iff,decide_eq_false_iff_not] at h;omega
theorem qh {es:List aC}{m n:Int}{s:ByteArray}:iH es m n s=0↔lC n 0 1099511627776=true/\full es m n s=false:=by
 cases hI:lC n 0 1099511627776 with
 | false=>rw[(IK hI).1];simp
 | true =>
  cases hf:full es m n s with
  | true=>rw[(DK hI hf).1];simp
  | false =>
   by_cases hh:ix es n<es.length
   ·rw[(vH hI hf hh).1];simp
   ·rw[(vI hI hf hh).1];simp
theorem lX {es:List aC}{m n:Int}{s:ByteArray}(h:iH es m n s≠0):kU es m n s=es:=by
 cases hI:lC n 0 1099511627776 with
 | false=>exact(IK hI).2
 | true =>
  cases hf:full es m n s with
  | true=>exact(DK hI hf).2
  | false=>exact absurd (qh.2 ⟨hI,hf⟩) h
theorem Kq (e:aC)(s:ByteArray):(yM e s).text.size=e.text.size+s.size:=by simp[yM]
theorem Tidy.app {m:Int}{es:List aC}(h:Tidy m es)(n:Int)(s:ByteArray):Tidy m (kU es m n s):=by
 by_cases he:iH es m n s=0
 ·obtain⟨hI,hf⟩:=qh.1 he;have hu:=zl hf;by_cases hh:ix es n<es.length
  ·rw[(vH hI hf hh).2];have hs:=(h.each _ (pY hh)).2;have hz:=Kq (pa es (ix es n)) s;exact h.set hh rfl (by omega) hs.1 (by have:(yM (pa es (ix es n)) s).sure=(pa es (ix es n)).sure:=rfl;omega)
  ·rw[(vI hI hf hh).2];refine⟨N9 (x:=⟨n,0,s⟩) h.rise (zk hh),?_,?_,?_⟩
   ·rw[DI (F9 _ _)];have:=(NY hf hh).2;have:=h.few;omega
   ·rw[Oa];show((used es+s.size:Nat):Int)<=m;omega
   ·intro e q;rcases IL q with rfl|q
    ·exact⟨hI,by show(0:Int)<=0;omega,by show(0:Int)<=(s.size:Int);omega⟩
    ·exact h.each e q
 ·rw[lX he];exact h
theorem YP {m:Int}{es:List aC}(h:Tidy m es)(n:Int)(s:ByteArray)(k:Int):kV (kU es m n s) k=if iH es m n s=0/\k=n then some (VE (kV es n) n s) else kV es k:=by
 by_cases he:iH es m n s=0
 ·obtain⟨hI,hf⟩:=qh.1 he;by_cases hh:ix es n<es.length
  ·rw[(vH hI hf hh).2,AY (x:=yM (pa es (ix es n)) s) h.rise hh rfl,wG hh];have:(yM (pa es (ix es n)) s).n=n:=DJ hh;rw[this];simp[he,VE]
  ·rw[(vI hI hf hh).2,RJ _ (x:=⟨n,0,s⟩) (zk hh),vK hh];simp[he,VE]
 ·rw[lX he,if_neg (λq=>he q.1)]
theorem Ba {es:List aC}{n size:Int}:F8 es n size=0↔ix es n<es.length/\zi es n size=true:=by
 unfold F8;by_cases h:ix es n<es.length
 ·rw[if_pos h]
  cases zi es n size<;>simp[h]
 ·rw[if_neg h];simp[h]
theorem Oe {es:List aC}{n size:Int}(h:F8 es n size=0):J8 es n size=es.set (ix es n) (qQ (pa es (ix es n)) size.toNat):=by
 obtain⟨h1,h2⟩:=Ba.1 h;unfold J8;rw[if_pos h1,if_pos h2]
theorem IQ {es:List aC}{n size:Int}(h:F8 es n size≠0):J8 es n size=es:=by
 unfold J8;by_cases h1:ix es n<es.length
 ·rw[if_pos h1];by_cases h2:zi es n size=true
  ·exact absurd (Ba.2 ⟨h1,h2⟩) h
  ·rw[if_neg h2]
 ·rw[if_neg h1]
theorem sU {e:aC}{k:Nat}(h:k<=e.text.size):(qQ e k).text.size=k:=ext_size _ _ h
theorem Tidy.cut {m:Int}{es:List aC}(h:Tidy m es)(n size:Int):Tidy m (J8 es n size):=by
 by_cases he:F8 es n size=0
 ·obtain⟨h1,h2⟩:=Ba.1 he;have hz:0<=size/\size<=((pa es (ix es n)).text.size:Int):=by simpa[zi,lC] using h2
  have hq:=sU (e:=pa es (ix es n)) (k:=size.toNat) (by omega);have hf:=h.fits;rw[Oe he];have hs:(qQ (pa es (ix es n)) size.toNat).sure=(size.toNat:Int):=rfl;exact h.set h1 rfl (by omega) (by omega) (by omega)
 ·rw[IQ he];exact h
theorem YQ {m:Int}{es:List aC}(h:Tidy m es)(n size:Int)(k:Int):kV (J8 es n size) k=if F8 es n size=0/\k=n then (kV es n).map (qQ · size.toNat) else kV es k:=by
 by_cases he:F8 es n size=0
 ·obtain⟨h1,h2⟩:=Ba.1 he;rw[Oe he,AY (x:=qQ (pa es (ix es n)) size.toNat) h.rise h1 rfl,wG h1];have:(qQ (pa es (ix es n)) size.toNat).n=n:=DJ h1;rw[this];simp[he]
 ·rw[IQ he,if_neg (λq=>he q.1)]
theorem Zj {es:List aC}{n:Int}:Xu es n=0↔ix es n<es.length:=by
 unfold Xu;by_cases h:ix es n<es.length
 ·rw[if_pos h];simp[h]
 ·rw[if_neg h];simp[h]
def iM (e:aC):aC:={e with sure:=(e.text.size:Int)}
theorem Tidy.sync {m:Int}{es:List aC}(h:Tidy m es)(n:Int):Tidy m (jA es n):=by
 unfold jA;by_cases hh:ix es n<es.length
 ·rw[if_pos hh];have hf:=h.fits;exact h.set hh rfl (by show(used es:Int)+((pa es (ix es n)).text.size:Int)<=_;omega) (by show(0:Int)<=((pa es (ix es n)).text.size:Int);omega) (by show((pa es (ix es n)).text.size:Int)<=((pa es (ix es n)).text.size:Int);omega)
 ·rw[if_neg hh];exact h
theorem Xy {m:Int}{es:List aC}(h:Tidy m es)(n:Int)(k:Int):kV (jA es n) k=if k=n then (kV es n).map iM else kV es k:=by
 unfold jA;by_cases hh:ix es n<es.length
 ·rw[if_pos hh];show kV (es.set (ix es n) (iM (pa es (ix es n)))) k=_;rw[AY (x:=iM (pa es (ix es n))) h.rise hh rfl,wG hh];have:(iM (pa es (ix es n))).n=n:=DJ hh;rw[this];rfl
 ·rw[if_neg hh];by_cases hk:k=n
  ·rw[if_pos hk,hk,vK hh];rfl
  ·rw[if_neg hk]
theorem Tidy.rem {m:Int}{es:List aC}(h:Tidy m es)(n:Int):Tidy m (J9 es n):=by
 unfold J9;by_cases hh:ix es n<es.length
 ·rw[if_pos hh];have hs:=RP es (ix es n);refine⟨List.Pairwise.sublist hs h.rise,?_,?_,λe he=>h.each e (hs.subset he)⟩
  ·have:=hs.length_le;have:=h.few;omega
  ·have:=Ob hh;have:=h.fits;omega
 ·rw[if_neg hh];exact h
theorem YR {m:Int}{es:List aC}(h:Tidy m es)(n:Int)(k:Int):kV (J9 es n) k=if k=n then none else kV es k:=by
 unfold J9;by_cases hh:ix es n<es.length
 ·rw[if_pos hh,RN h.rise hh,DJ hh]
 ·rw[if_neg hh];by_cases hk:k=n
  ·rw[if_pos hk,hk,vK hh]
  ·rw[if_neg hk]
theorem zn (keep:Int)(e:aC):(iL keep e).text.size=eU e keep:=ext_size _ _ (AV e keep)
theorem zo (keep:Int):∀es:List aC,used (es.map (iL keep))<=used es
 | []=>by simp
 | e::r=>by
  rw[List.map_cons,dw,dw,zn];have:=AV e keep;have:=zo keep r;omega
theorem Tidy.stop {m:Int}{es:List aC}(h:Tidy m es)(keep:Int):Tidy m (es.map (iL keep)):=by
 refine⟨?_,by rw[List.length_map];exact h.few,?_,?_⟩
 ·unfold lF;rw[List.pairwise_map];exact h.rise
 ·have:=zo keep es;have:=h.fits;omega
 ·intro e he;obtain⟨x,hx,rfl⟩:=List.mem_map.1 he;refine⟨(h.each x hx).1,?_,?_⟩
  ·show(0:Int)<=(eU x keep:Int);omega
  ·rw[zn];show(eU x keep:Int)<=_;omega
theorem Xz (es:List aC)(keep:Int)(k:Int):kV (es.map (iL keep)) k=(kV es k).map (iL keep):=RQ es (iL keep) (λ_=>rfl) k
theorem RS {es:List aC}{k:Int}:k∈iG es↔(kV es k).isSome=true:=by
 unfold iG kV;rw[List.mem_map,List.find?_isSome];constructor
 ·rintro ⟨e,he,rfl⟩;exact⟨e,he,by simp⟩
 ·rintro ⟨e,he,h⟩;exact⟨e,he,by simpa using h⟩
theorem zq:∀(a b:List Int),a.Pairwise (· < ·)->b.Pairwise (· < ·)->(∀k,k∈a↔k∈b)->a=b
 | [],[],_,_,_=>rfl
 | [],y::b,_,_,h=>absurd ((h y).2 (by simp)) (by simp)
 | x::a,[],_,_,h=>absurd ((h x).1 (by simp)) (by simp)
 | x::a,y::b,ha,hb,h=>by
  have ha':=List.pairwise_cons.1 ha;have hb':=List.pairwise_cons.1 hb;have hxy:x=y:=by
   rcases List.mem_cons.1 ((h x).1 (by simp)) with q|q
   ·exact q
   ·rcases List.mem_cons.1 ((h y).2 (by simp)) with p|p
    ·exact p.symm
    ·have:=hb'.1 x q;have:=ha'.1 y p;omega
  subst hxy;have:a=b:=zq a b ha'.2 hb'.2 (λk=>⟨λq=>by
   rcases List.mem_cons.1 ((h k).1 (by simp[q])) with p|p
   ·have:=ha'.1 k q;omega
   ·exact p,λq=>by
   rcases List.mem_cons.1 ((h k).2 (by simp[q])) with p|p
   ·have:=hb'.1 k q;omega
   ·exact p⟩)
  rw[this]
theorem Tidy.list {m:Int}{es:List aC}(h:Tidy m es){l:List Int}(hl:l.Pairwise (· < ·))(hm:∀k,k∈l↔(kV es k).isSome=true):l=iG es :=
 zq l _ hl ((jP es).1 h.rise) (λk=>by rw[hm,RS])
def nH (es:List aC)(k:Int):Nat:=match kV es k with
 | some e=>e.text.size
 | none=>0
theorem DU:∀{es:List aC},lF es->used es=((iG es).map (nH es)).sum
 | [],_=>by simp[used,iG]
 | e::r,h=>by
  have h':=List.pairwise_cons.1 h;have ih:=DU (es:=r) h'.2;have e1:nH (e::r) e.n=e.text.size:=by unfold nH;rw[lD,if_pos rfl]
  have e2:(iG r).map (nH (e::r))=(iG r).map (nH r):=by
   refine List.map_congr_left (λk hk=>?_);have:e.n≠k:=by
    obtain⟨x,hx,rfl⟩:=List.mem_map.1 hk;have:=h'.1 x hx;omega
   unfold nH;rw[lD,if_neg this]
  show used (e::r)=((e.n::iG r).map (nH (e::r))).sum;rw[List.map_cons,List.sum_cons,e1,e2,dw,ih];omega
theorem Tidy.used {m:Int}{es:List aC}(h:Tidy m es){l:List Int}(hl:l.Perm (iG es)):(l.map (nH es)).sum=used es:=by
 rw[DU h.rise];exact(hl.map _).sum_nat
end Go.Proofs.YtophdoapcdjnjaaGreatDoor.Dk
namespace Go.Proofs.YtophdoapcdjnjaaGreatDoor.Pk
open Go.Proofs.Tryz
def at' (l:List UInt8)(k:Nat):Nat:=(l[k]?.getD 0).toNat
theorem XA (l:List UInt8)(k:Nat):at' l k<256:=UInt8.toNat_lt _
theorem gU (c:UInt8)(l:List UInt8):at' (c::l) 0=c.toNat:=rfl
theorem iW (c:UInt8)(l:List UInt8)(k:Nat):at' (c::l) (k+1)=at' l k:=rfl
theorem wH {l m:List UInt8}{k:Nat}(h:k<l.length):at' (l++m) k=at' l k:=by
 unfold at';rw[List.getElem?_append_left h]
theorem Zk {l:List UInt8}{k:Nat}(h:k<l.length):at' l k=(l[k]).toNat:=by
 unfold at';rw[List.getElem?_eq_getElem h];rfl
theorem RU {l:List UInt8}{k i:Nat}(h:k<i):at' (l.take i) k=at' l k:=by
 unfold at';rw[List.getElem?_take_of_lt h]
def enc (n:Nat):List UInt8:=if n<128 then [UInt8.ofNat n] else UInt8.ofNat (128+n % 128)::enc (n / 128)
theorem gZ {n:Nat}(h:n<128):enc n=[UInt8.ofNat n]:=by rw[enc,if_pos h]
theorem jJ {n:Nat}(h:¬n<128):enc n=UInt8.ofNat (128+n % 128)::enc (n / 128):=by rw[enc,if_neg h]
theorem uz {n:Nat}(h:n<256):(UInt8.ofNat n).toNat=n:=by simp;omega
theorem kE (n:Nat):1<=(enc n).length:=by
 by_cases h:n<128
 ·rw[gZ h];simp
 ·rw[jJ h];simp
theorem zu:∀(m:Nat) {n:Nat},n<128 ^ (m+1)->(enc n).length<=m+1
 | 0,n,h=>by rw[gZ (by simpa using h)];simp
 | m+1,n,h=>by
  by_cases hs:n<128
  ·rw[gZ hs];simp
  ·rw[jJ hs,List.length_cons];have:n / 128<128 ^ (m+1):=by rw[Nat.div_lt_iff_lt_mul (by decide)];rw[Nat.pow_succ] at h;exact h
   have:=zu m this;omega
theorem wJ {n:Nat}(h:n<9223372036854775808):(enc n).length<=9:=zu 8 (by simpa using h)
def lead:List UInt8->Nat->Nat
 | [],_=>0
 | _::_,0=>0
 | c::r,m+1=>if c.toNat<128 then 0 else lead r m+1
theorem IU:∀{l:List UInt8} {m k:Nat},k<=m->k<=l.length->(∀j,j<k->128<=at' l j)->(k=m\/k=l.length\/at' l k<128)->lead l m=k
 | [],m,k,_,h2,_,_=>by simp at h2;subst h2;simp[lead]
 | c::r,0,k,h1,_,_,_=>by simp at h1;subst h1;simp[lead]
 | c::r,m+1,0,_,_,_,h=>by
  rcases h with h|h|h
  ·cases h
  ·simp at h
  ·rw[gU] at h;simp[lead,h]
 | c::r,m+1,k+1,h1,h2,h3,h4=>by
  have h0:=h3 0 (by omega);rw[gU] at h0;have e:=IU (l:=r) (m:=m) (k:=k) (by omega) (by simpa using h2) (λj hj=>by have:=h3 (j+1) (by omega);rwa [iW] at this) (by
   rcases h4 with h|h|h
   ·exact .inl (by omega)
   ·exact .inr (.inl (by simpa using h))
   ·exact .inr (.inr (by rwa [iW] at h)))
  simp[lead,e];omega
theorem IV:∀(l:List UInt8) (m:Nat),lead l m<=m/\lead l m<=l.length
 | [],m=>by simp[lead]
 | _::_,0=>by simp[lead]
 | c::r,m+1=>by
  have:=IV r m;unfold lead;split<;>simp<;>omega
theorem wK:∀{l:List UInt8} {m j:Nat},j<lead l m->128<=at' l j
 | [],m,j,h=>by simp[lead] at h
 | _::_,0,j,h=>by simp[lead] at h
 | c::r,m+1,j,h=>by
  unfold lead at h;split at h
  ·omega
  ·cases j with
   | zero=>rw[gU];omega
   | succ j=>rw[iW];exact wK (m:=m) (by omega)
theorem zx:∀{l:List UInt8} {m:Nat},lead l m<m->lead l m<l.length->at' l (lead l m)<128
 | [],m,_,h=>by simp[lead] at h
 | _::_,0,h,_=>by simp[lead] at h
 | c::r,m+1,h1,h2=>by
  unfold lead at h1 h2 ⊢;split
  ·rw[gU];assumption
  ·rw[iW];rename_i hc;rw[if_neg hc] at h1 h2;exact zx (by omega) (by simpa using h2)
def val (l:List UInt8)(i:Nat):Nat->Nat
 | 0=>0
 | m+1=>at' l i % 128+128*val l (i+1) m
theorem val_succ (l:List UInt8)(i m:Nat):val l i (m+1)=at' l i % 128+128*val l (i+1) m:=rfl
theorem sV (c:UInt8)(l:List UInt8):∀(m i:Nat),val (c::l) (i+1) m=val l i m
 | 0,_=>rfl
 | m+1,i=>by rw[val_succ,val_succ,iW,sV c l m (i+1)]
theorem val_last (l:List UInt8):∀(m i:Nat),val l i (m+1)=val l i m+128 ^ m*(at' l (i+m) % 128)
 | 0,i=>by simp[val]
 | m+1,i=>by
  rw[val_succ,val_last l m (i+1),val_succ,Nat.pow_succ,Nat.mul_add,<-Nat.add_assoc];rw[show i+1+m=i+(m+1) from by omega,Nat.mul_comm (128 ^ m) 128,Nat.mul_assoc]
theorem Og (l:List UInt8):∀(m i:Nat),val l i m<128 ^ m
 | 0,_=>by simp[val]
 | m+1,i=>by
  have:=Og l m (i+1);rw[val_succ,Nat.pow_succ];have:=Nat.mod_lt (at' l i) (show 0<128 by decide);omega
def rd (l:List UInt8):Nat×Nat×Nat :=
 if lead l 9=9 then (0,0,7) else if lead l 9=l.length then (0,0,6) else if 0<lead l 9/\at' l (lead l 9)=0 then (0,0,7)
 else (val l 0 (lead l 9+1),lead l 9+1,0)
theorem DV (more:List UInt8)(n:Nat):∀m,(enc n).length<=m->lead (enc n++more) m=(enc n).length-1:=by
 induction n using Nat.strongRecOn with
 | _ n ih =>
  intro m hm;by_cases hs:n<128
  ·rw[gZ hs] at hm ⊢;obtain⟨m,rfl⟩:∃k,m=k+1:=⟨m-1,by simp at hm;omega⟩;simp[lead];omega
  ·rw[jJ hs] at hm ⊢;obtain⟨m,rfl⟩:∃k,m=k+1:=⟨m-1,by simp at hm;omega⟩;have e:=ih (n / 128) (by omega) m (by simpa using hm);have p:=kE (n / 128);rw[List.cons_append,lead,uz (by omega),if_neg (by omega),e,List.length_cons];omega
theorem RV (more:List UInt8)(n:Nat):val (enc n++more) 0 (enc n).length=n:=by
 induction n using Nat.strongRecOn with
 | _ n ih =>
  by_cases hs:n<128
  ·rw[gZ hs];simp[val,at'];omega
  ·have e:=ih (n / 128) (by omega);rw[jJ hs,List.cons_append,List.length_cons,val_succ,sV,e,gU,uz (by omega)];omega
theorem Oh (more:List UInt8)(n:Nat):0<n->at' (enc n++more) ((enc n).length-1)≠0:=by
 induction n using Nat.strongRecOn with
 | _ n ih =>
  intro h0;by_cases hs:n<128
  ·rw[gZ hs];simp[at'];omega
  ·have e:=ih (n / 128) (by omega) (by omega);have p:=kE (n / 128);rw[jJ hs,List.cons_append,List.length_cons];rw[show(enc (n / 128)).length+1-1=((enc (n / 128)).length-1)+1 from by omega,iW];exact e
theorem kW {n:Nat}(h:n<9223372036854775808)(more:List UInt8):rd (enc n++more)=(n,(enc n).length,0):=by
 have h9:=wJ h;have p:=kE n;have e:=DV more n 9 h9;unfold rd;rw[e,if_neg (by omega),if_neg (by simp;omega),if_neg]
 ·rw[show(enc n).length-1+1=(enc n).length from by omega,RV]
 ·rintro ⟨h1,h2⟩;by_cases hn:0<n
  ·exact Oh more n hn h2
  ·rw[gZ (by omega)] at h1;simp at h1
theorem DW {n i:Nat}(h:n<9223372036854775808)(hi:i<(enc n).length)(more:List UInt8):rd ((enc n++more).take i)=(0,0,6):=by
 have h9:=wJ h;have e0:=DV more n 9 h9;have hl:((enc n++more).take i).length=i:=by simp;omega
 have e:lead ((enc n++more).take i) 9=i:=IU (by omega) (by omega) (λj hj=>by rw[RU hj];exact wK (m:=9) (by omega)) (.inr (.inl hl.symm));unfold rd;rw[e,hl,if_neg (by omega),if_pos rfl]
theorem IW:∀(k:Nat) {l:List UInt8},k<l.length->(∀j,j<k->128<=at' l j)->at' l k<128->(k=0\/at' l k≠0)->enc (val l 0 (k+1))=l.take (k+1)
 | k,[],h,_,_,_=>by simp at h
 | 0,c::r,_,_,h2,_=>by
  rw[gU] at h2;rw[val_succ,gU,val,gZ (by omega)];simp[Nat.mod_eq_of_lt h2]
 | k+1,c::r,h0,h1,h2,h3=>by
  rw[iW] at h2 h3;have hne:at' r k≠0:=by omega
  have e:=IW k (l:=r) (by simpa using h0) (λj hj=>by have:=h1 (j+1) (by omega);rwa [iW] at this) h2 (.inr hne);have hc:=h1 0 (by omega);rw[gU] at hc;have hcl:=UInt8.toNat_lt c;have hp:0<val r 0 (k+1):=by
   rw[val_last,Nat.zero_add,Nat.mod_eq_of_lt h2];have:=Nat.mul_pos (show 0<128 ^ k from Nat.pow_pos (by decide)) (show 0<at' r k by omega);omega
  rw[val_succ,sV,gU,jJ (by omega)];rw[show(c.toNat % 128+128*val r 0 (k+1)) / 128=val r 0 (k+1) from by omega,e];rw[show 128+(c.toNat % 128+128*val r 0 (k+1)) % 128=c.toNat from by omega];simp
theorem Zl {l:List UInt8}(h:(rd l).2.2≠0):(rd l).1=0/\(rd l).2.1=0:=by
 unfold rd at h ⊢;split
 ·exact⟨rfl,rfl⟩
 split
 ·exact⟨rfl,rfl⟩
 split
 ·exact⟨rfl,rfl⟩
 ·rename_i h1 h2 h3;rw[if_neg h1,if_neg h2,if_neg h3] at h;exact absurd rfl h
theorem IX {l:List UInt8}(h:(rd l).2.2=0):enc (rd l).1=l.take (rd l).2.1/\(rd l).2.1<=l.length/\(rd l).1<9223372036854775808/\1<=(rd l).2.1/\(rd l).2.1<=9:=by
 have hl:=IV l 9;unfold rd at h ⊢;split
 ·rename_i h1;rw[if_pos h1] at h;cases h
 rename_i h1;rw[if_neg h1] at h;split
 ·rename_i h2;rw[if_pos h2] at h;cases h
 rename_i h2;rw[if_neg h2] at h;split
 ·rename_i h3;rw[if_pos h3] at h;cases h
 rename_i h3;refine⟨IW _ (by omega) (λj hj=>wK hj) (zx (by omega) (by omega)) (by omega),by show lead l 9+1<=_;omega,?_,by show 1<=lead l 9+1;omega,by show lead l 9+1<=9;omega⟩;refine Nat.lt_of_lt_of_le (Og l _ 0) ?_;exact Nat.le_trans (Nat.pow_le_pow_right (by decide) (show lead l 9+1<=9 by omega)) (by decide)
def rt (l:List UInt8)(most:Int):List UInt8×Nat×Nat :=
 if (rd l).2.2≠0 then ([],0,(rd l).2.2) else if most<(rd l).1 then ([],0,7) else if l.length<(rd l).2.1+(rd l).1 then ([],0,6)
 else ((l.drop (rd l).2.1).take (rd l).1,(rd l).2.1+(rd l).1,0)
def txt (t:List UInt8):List UInt8:=enc t.length++t
theorem Zm {t:List UInt8}(h:t.length<9223372036854775808)(more:List UInt8):rt (txt t++more) t.length=(t,(txt t).length,0):=by
 unfold rt txt;rw[List.append_assoc,kW h];simp only[];rw[if_neg (by simp),if_neg (by omega),if_neg (by simp)];simp
theorem XB {t:List UInt8}{i:Nat}(h:t.length<9223372036854775808)(hi:i<(txt t).length):(rt ((txt t).take i) t.length).2.2=6:=by
 unfold rt;by_cases hl:i<(enc t.length).length
 ·unfold txt;rw[DW h hl];rfl
 ·have e:(txt t).take i=enc t.length++t.take (i-(enc t.length).length):=by
   unfold txt;rw[List.take_append,List.take_of_length_le (by omega)]
  have hi':=hi;unfold txt at hi';rw[List.length_append] at hi';rw[e,kW h];simp only[];rw[if_neg (by simp),if_neg (by omega),if_pos (by simp;omega)]
def Z (r:Nat):Nat:=(r / 2) ^^^ (if r % 2=1 then 3988292384 else 0)
theorem XC {r:Nat}(h:r<4294967296):Z r<4294967296:=by
 unfold Z;exact Nat.xor_lt_two_pow (n:=32) (by omega) (by split<;>decide)
theorem Oi (a b:Nat):(a ^^^ b) / 2=a / 2 ^^^ b / 2:=by
 apply Nat.eq_of_testBit_eq;intro i;simp[Nat.testBit_div_two]
theorem IY (a b:Nat):(a ^^^ b) % 2=(a % 2+b % 2) % 2:=by
 have:=Nat.testBit_xor a b 0;simp only[Nat.testBit_zero] at this;have ha:a % 2=0\/a % 2=1:=by omega
 have hb:b % 2=0\/b % 2=1:=by omega
 have hc:(a ^^^ b) % 2=0\/(a ^^^ b) % 2=1:=by omega
 rcases ha with ha|ha<;>rcases hb with hb|hb<;>rcases hc with hc|hc<;>simp[ha,hb,hc] at this ⊢
theorem Oj (a b:Nat):Z (a ^^^ b)=Z a ^^^ Z b:=by
 unfold Z;rw[Oi,IY];have ha:a % 2=0\/a % 2=1:=by omega
 have hb:b % 2=0\/b % 2=1:=by omega
 rcases ha with ha|ha<;>rcases hb with hb|hb<;>simp only[ha,hb]
 ·simp
 ·simp[Nat.xor_assoc]
 ·simp only[Nat.zero_ne_one,↓reduceIte,Nat.xor_zero];ac_rfl
 ·simp only[Nat.reduceAdd,Nat.reduceMod,Nat.zero_ne_one,↓reduceIte,Nat.xor_zero];rw[show a / 2 ^^^ 3988292384 ^^^ (b / 2 ^^^ 3988292384)=(a / 2 ^^^ b / 2) ^^^ (3988292384 ^^^ 3988292384) from by ac_rfl,Nat.xor_self,Nat.xor_zero]
theorem Gg {r:Nat}(hr:r<4294967296)(h:Z r=0):r=0:=by
 unfold Z at h;by_cases ho:r % 2=1
 ·rw[if_pos ho] at h;have hb:=congrArg (λn=>n.testBit 31) h;simp only[Nat.testBit_xor,Nat.zero_testBit] at hb;rw[Nat.testBit_lt_two_pow (show r / 2<2 ^ 31 by omega)] at hb;exact absurd hb (by decide)
 ·rw[if_neg ho,Nat.xor_zero] at h;omega
def reg (f:Nat->Nat):Nat->Nat
 | 0=>4294967295
 | n+1=>Z (reg f n ^^^ f n)
def qR (l:List UInt8)(j:Nat):Nat:=at' l (j / 8) / 2 ^ (j % 8) % 2
theorem dS (l:List UInt8)(j:Nat):qR l j<2:=Nat.mod_lt _ (by decide)
theorem lY {f:Nat->Nat}(hf:∀j,f j<2):∀n,reg f n<4294967296
 | 0=>by show 4294967295<4294967296;decide
 | n+1=>XC (Nat.xor_lt_two_pow (n:=32) (lY hf n) (by have:=hf n;omega))
def crc (l:List UInt8):Nat:=4294967295-reg (qR l) (8*l.length)
theorem U2 {a b:Nat}(h:a ^^^ b=0):a=b:=by
 have:=congrArg (· ^^^ b) h;simpa[Nat.xor_assoc] using this
theorem jK {f g:Nat->Nat}(n:Nat):reg f (n+1) ^^^ reg g (n+1)=Z ((reg f n ^^^ reg g n) ^^^ (f n ^^^ g n)):=by
 show Z (reg f n ^^^ f n) ^^^ Z (reg g n ^^^ g n)=_;rw[<-Oj];congr 1
 ac_rfl
def Zs:Nat->Nat->Nat
 | 0,r=>r
 | n+1,r=>Z (Zs n r)
theorem U3 {r:Nat}(h:r<4294967296):∀n,Zs n r<4294967296
 | 0=>h
 | n+1=>XC (U3 h n)
theorem U4 {r:Nat}(h:r<4294967296)(h0:r≠0):∀n,Zs n r≠0
 | 0=>h0
 | n+1=>λe=>U4 h h0 n (Gg (U3 h n) e)
theorem XD {f g:Nat->Nat}(hf:∀j,f j<2)(hg:∀j,g j<2){k turn:Nat}(ht:turn<4294967296)(h0:turn≠0)
 (h:∀j,f j ^^^ g j=if k<=j/\j<k+32 then turn / 2 ^ (j-k) % 2 else 0) {N:Nat} (hN:k+32<=N):reg f N≠reg g N:=by
 have hpre:∀n,n<=k->reg f n ^^^ reg g n=0:=by
  intro n;induction n with
  | zero=>intro _;simp[reg]
  | succ n ih =>
   intro hn;rw[jK,ih (by omega),h,if_neg (by omega)];rfl
 have hmid:∀i,i<=32->(reg f (k+i) ^^^ reg g (k+i)) ^^^ (turn / 2 ^ i)=Zs i turn:=by
  intro i;induction i with
  | zero=>intro _;rw[Nat.add_zero,hpre k (Nat.le_refl _)];simp[Zs]
  | succ i ih =>
   intro hi;have e:=ih (by omega);rw[<-Nat.add_assoc,jK,h,if_pos (by omega),show k+i-k=i from by omega,Zs,<-e];have hd:turn / 2 ^ (i+1)=turn / 2 ^ i / 2:=by rw[Nat.pow_succ,Nat.div_div_eq_div_mul]
   have hz:∀x,Z x=Z (x % 2) ^^^ (x / 2):=by
    intro x;unfold Z;have:x % 2 / 2=0:=by omega
    rw[this,Nat.zero_xor,Nat.mod_mod,Nat.xor_comm]
   rw[Oj,Oj (reg f (k+i) ^^^ reg g (k+i)),hd,hz (turn / 2 ^ i)];ac_rfl
 have hend:∀n,reg f (k+32+n) ^^^ reg g (k+32+n)≠0:=by
  intro n;induction n with
  | zero =>
   have e:=hmid 32 (Nat.le_refl _);rw[Nat.div_eq_of_lt (show turn<2 ^ 32 by omega),Nat.xor_zero] at e;rw[Nat.add_zero,e];exact U4 ht h0 32
  | succ n ih =>
   intro e;rw[<-Nat.add_assoc,jK,h,if_neg (by omega),Nat.xor_zero] at e;exact ih (Gg (Nat.xor_lt_two_pow (n:=32) (lY hf _) (lY hg _)) e)
 intro e;have:=hend (N-(k+32));rw[show k+32+(N-(k+32))=N from by omega,e,Nat.xor_self] at this;exact this rfl
theorem Ol {l x:List UInt8}{most:Int}{n:Nat}(h:rt l most=(x,n,0)):txt x=l.take n/\n<=l.length/\(x.length:Int)<=most:=by
 unfold rt at h;split at h
 ·rename_i he;injection h with _ h;injection h with _ h;exact absurd h he
 rename_i he;have he0:(rd l).2.2=0:=Classical.byContradiction λq=>he q
 obtain⟨g1,g2,g3,g4,g5⟩:=IX he0;split at h
 ·injection h with _ h;injection h with _ h;exact absurd h (by decide)
 rename_i hm;split at h
 ·injection h with _ h;injection h with _ h;exact absurd h (by decide)
 rename_i hl;injection h with h1 h2
 injection h2 with h2 _
 have hx:x.length=(rd l).1:=by rw[<-h1];simp;omega
 refine⟨?_,by omega,by omega⟩;unfold txt;rw[hx,g1,<-h1,<-h2,List.take_add]
def body (k q t:Nat)(s h d:List UInt8):List UInt8:=UInt8.ofNat k::(enc q++(enc t++(txt s++(txt h++txt d))))
def le4 (n:Nat):List UInt8:=[UInt8.ofNat (n % 256),UInt8.ofNat (n / 256 % 256),UInt8.ofNat (n / 65536 % 256),UInt8.ofNat (n / 16777216 % 256)]
def RX (l:List UInt8):Nat:=at' l 0+256*at' l 1+65536*at' l 2+16777216*at' l 3
theorem DX {n:Nat}(h:n<4294967296)(more:List UInt8):RX (le4 n++more)=n:=by
 unfold RX le4;simp only[List.cons_append,gU,iW,List.nil_append];rw[uz (by omega),uz (by omega),uz (by omega),uz (by omega)];omega
theorem XE {l:List UInt8}(h:4<=l.length):le4 (RX l)=l.take 4:=by
 match l,h with
 | a::b::c::d::r,_ =>
  unfold RX le4;simp only[gU,iW];have ha:=UInt8.toNat_lt a;have hb:=UInt8.toNat_lt b;have hc:=UInt8.toNat_lt c;have hd:=UInt8.toNat_lt d;rw[show(a.toNat+256*b.toNat+65536*c.toNat+16777216*d.toNat) % 256=a.toNat from by omega,
   show(a.toNat+256*b.toNat+65536*c.toNat+16777216*d.toNat) / 256 % 256=b.toNat from by omega,
   show(a.toNat+256*b.toNat+65536*c.toNat+16777216*d.toNat) / 65536 % 256=c.toNat from by omega,
   show(a.toNat+256*b.toNat+65536*c.toNat+16777216*d.toNat) / 16777216 % 256=d.toNat from by omega]
  simp
def iK (l:List UInt8):List UInt8:=l.drop (rd l).2.1
def lZ (l:List UInt8):List UInt8:=l.drop (rt l 1024).2.1
theorem IZ {l:List UInt8}(h:(rd l).2.2=0):enc (rd l).1++iK l=l:=by
 rw[(IX h).1];exact List.take_append_drop _ _
theorem Bc {l:List UInt8}(h:(rt l 1024).2.2=0):txt (rt l 1024).1++lZ l=l/\(rt l 1024).1.length<=1024:=by
 have:=Ol (l:=l) (most:=1024) (x:=(rt l 1024).1) (n:=(rt l 1024).2.1) (by rw[<-h]);refine⟨?_,by omega⟩;rw[this.1];exact List.take_append_drop _ _
def qU (r0:List UInt8):Prop:=(rd r0).2.2=0/\(rd (iK r0)).2.2=0/\(rt (iK (iK r0)) 1024).2.2=0/\(rt (lZ (iK (iK r0))) 1024).2.2=0/\(rt (lZ (lZ (iK (iK r0)))) 1024).2.2=0/\lZ (lZ (lZ (iK (iK r0))))=[]
theorem qV {n:Nat}(h:n<9223372036854775808)(more:List UInt8):iK (enc n++more)=more:=by
 unfold iK;rw[kW h];simp
theorem oZ {t:List UInt8}(h:t.length<=1024)(more:List UInt8):rt (txt t++more) 1024=(t,(txt t).length,0):=by
 have h0:t.length<9223372036854775808:=by omega
 unfold rt txt;rw[List.append_assoc,kW h0];simp only[];rw[if_neg (by simp),if_neg (by omega),if_neg (by simp)];simp
theorem nI {x:List UInt8}(h:x.length<=1024)(more:List UInt8):lZ (txt x++more)=more:=by
 unfold lZ;rw[oZ h];simp
theorem Gh {q t:Nat}{s h d:List UInt8}(hq:q<9223372036854775808)(ht:t<9223372036854775808)(hs:s.length<=1024)(hh:h.length<=1024)(hd:d.length<=1024) :
 qU (enc q++(enc t++(txt s++(txt h++txt d)))):=by
 have e5:rt (txt d) 1024=(d,(txt d).length,0):=by have:=oZ hd [];rwa [List.append_nil] at this
 have e6:lZ (txt d)=[]:=by have:=nI hd [];rwa [List.append_nil] at this
 unfold qU;rw[qV hq,qV ht,nI hs,nI hh,kW hq,kW ht,oZ hs,oZ hh,e5,e6];exact⟨rfl,rfl,rfl,rfl,rfl,rfl⟩
theorem Kr {r0:List UInt8}(h:qU r0) :
 enc (rd r0).1++(enc (rd (iK r0)).1++(txt (rt (iK (iK r0)) 1024).1++(txt (rt (lZ (iK (iK r0))) 1024).1++txt (rt (lZ (lZ (iK (iK r0)))) 1024).1)))=r0:=by
 obtain⟨h1,h2,h3,h4,h5,h6⟩:=h;have s5:=(Bc h5).1;rw[h6,List.append_nil] at s5;rw[s5,(Bc h4).1,(Bc h3).1,IZ h2,IZ h1]
theorem Gi {a b:Nat}(ha:a<2)(hb:b<2):a ^^^ b=(a+b) % 2:=by
 have h1:a=0\/a=1:=by omega
 have h2:b=0\/b=1:=by omega
 rcases h1 with rfl|rfl<;>rcases h2 with rfl|rfl<;>rfl
theorem RY (a b q:Nat):(a ^^^ b) / 2 ^ q % 2=(a / 2 ^ q % 2+b / 2 ^ q % 2) % 2:=by
 rw[<-Nat.shiftRight_eq_div_pow,Nat.shiftRight_xor_distrib,IY,Nat.shiftRight_eq_div_pow,Nat.shiftRight_eq_div_pow]
theorem RZ {p q:Nat}(hp:p<8)(hq:q<8):2 ^ p / 2 ^ q % 2=if p=q then 1 else 0:=by
 have:∀p:Fin 8,∀q:Fin 8,2 ^ p.val / 2 ^ q.val % 2=if p.val=q.val then 1 else 0:=by decide
 exact this ⟨p,hp⟩ ⟨q,hq⟩
def flip (l:List UInt8)(j:Nat):List UInt8:=l.set (j / 8) (UInt8.ofNat (at' l (j / 8) ^^^ 2 ^ (j % 8)))
theorem Kt (l:List UInt8)(j:Nat):at' l (j / 8) ^^^ 2 ^ (j % 8)<256 :=
 Nat.xor_lt_two_pow (n:=8) (XA l _) (Nat.lt_of_le_of_lt (Nat.pow_le_pow_right (by decide) (show j % 8<=7 by omega)) (by decide))
theorem nJ (l:List UInt8)(j:Nat):(flip l j).length=l.length:=by simp[flip]
theorem Si {l:List UInt8}{j:Nat}(h:j / 8<l.length)(k:Nat):at' (flip l j) k=if k=j / 8 then at' l (j / 8) ^^^ 2 ^ (j % 8) else at' l k:=by
 unfold flip;by_cases hk:k=j / 8
 ·subst hk;rw[if_pos rfl];show((l.set (j / 8) _)[j / 8]?.getD 0).toNat=_;rw[List.getElem?_set_self h];exact uz (Kt l j)
 ·rw[if_neg hk];unfold at';rw[List.getElem?_set_ne (by omega)]
theorem DY {l:List UInt8}{j:Nat}(h:j / 8<l.length)(i:Nat):qR (flip l j) i=(qR l i+if i=j then 1 else 0) % 2:=by
 unfold qR;rw[Si h];by_cases hk:i / 8=j / 8
 ·rw[if_pos hk,RY,RZ (by omega) (by omega),hk];by_cases hp:j % 8=i % 8
  ·rw[if_pos hp,if_pos (by omega)]
  ·rw[if_neg hp,if_neg (by omega)]
 ·rw[if_neg hk,if_neg (by intro e;subst e;exact hk rfl)];omega
def Turned (l0:List UInt8)(k turn i:Nat)(l:List UInt8):Prop :=
 l.length=l0.length/\∀j,qR l0 j ^^^ qR l j=if k<=j/\j<k+i then turn / 2 ^ (j-k) % 2 else 0
theorem U5 (l:List UInt8)(k turn:Nat):Turned l k turn 0 l:=⟨rfl,λj=>by rw[Nat.xor_self,if_neg (by omega)]⟩
theorem U6 {l0 l:List UInt8}{k turn i:Nat}(h:Turned l0 k turn i l)(hb:turn / 2 ^ i % 2=0):Turned l0 k turn (i+1) l:=by
 refine⟨h.1,λj=>?_⟩;rw[h.2];by_cases h1:k<=j/\j<k+i
 ·rw[if_pos h1,if_pos (by omega)]
 ·rw[if_neg h1];by_cases h2:k<=j/\j<k+(i+1)
  ·rw[if_pos h2,show j-k=i from by omega,hb]
  ·rw[if_neg h2]
theorem U7 {l0 l:List UInt8}{k turn i:Nat}(h:Turned l0 k turn i l)(hb:turn / 2 ^ i % 2=1)(hj:(k+i) / 8<l.length):Turned l0 k turn (i+1) (flip l (k+i)):=by
 refine⟨by rw[nJ];exact h.1,λj=>?_⟩;have e:=h.2 j;have b0:=dS l0 j;have b1:=dS l j;have b2:=dS (flip l (k+i)) j;rw[Gi b0 b1] at e;rw[Gi b0 b2,DY hj];by_cases h1:j=k+i
 ·subst h1;rw[if_neg (by omega)] at e;rw[if_pos rfl,if_pos (by omega),show k+i-k=i from by omega,hb];omega
 ·rw[if_neg h1];by_cases h2:k<=j/\j<k+i
  ·rw[if_pos h2] at e;rw[if_pos (by omega)];omega
  ·rw[if_neg h2] at e;rw[if_neg (by omega)];omega
theorem U8 {l0 l:List UInt8}{k turn:Nat}(h:Turned l0 k turn 32 l)(ht:turn<4294967296)(h0:turn≠0)(hk:k+32<=8*l0.length):crc l≠crc l0:=by
 have:=XD (dS l0) (dS l) ht h0 h.2 hk;have r0:=lY (dS l0) (8*l0.length);have r1:=lY (dS l) (8*l0.length);unfold crc;rw[h.1];omega
theorem WV:crc [49,50,51,52,53,54,55,56,57]=3421780262:=by decide +kernel
theorem I4:∀l:List UInt8,((Pl.fZ l).map λp=>p.length+1).sum=l.length+1
 | []=>rfl
 | c::r=>by
  have ih:=I4 r;unfold Pl.fZ;split
  ·simp only[List.map_cons,List.sum_cons,ih,List.length_nil,List.length_cons];omega
  ·cases q:Pl.fZ r with
   | nil=>exact absurd q (Pl.ny r)
   | cons a b =>
    rw[q] at ih;simp only[List.map_cons,List.sum_cons] at ih;simp only[List.modifyHead_cons,List.map_cons,List.sum_cons,List.length_cons];omega
theorem Om:∀ps:List (List UInt8),(∀p∈ps,p.length<=16)->(ps.map λp=>p.length+1).sum<=17*ps.length
 | [],_=>by simp
 | a::b,h=>by
  have ih:=Om b (λp hp=>h p (List.mem_cons_of_mem _ hp));have:=h a (List.mem_cons_self ..);simp only[List.map_cons,List.sum_cons,List.length_cons];omega
theorem Sj {bZ last:Bool}{t:List UInt8}(h:Pl.jc bZ last t=true):t.length<=16:=by
 unfold Pl.jc Pl.pW at h;simp only[Bool.or_eq_true,Bool.and_eq_true,decide_eq_true_eq,beq_iff_eq] at h;rcases h with ⟨_,h,_⟩|⟨_,h|⟨h,_⟩⟩
 ·exact h
 ·rw[h];decide
 ·rw[h];decide
theorem DZ {bZ:Bool}{l:List UInt8}(h:Pl.errOf bZ (Pl.fZ l)=0):l.length<=135:=by
 unfold Pl.errOf at h;split at h
 ·exact absurd h (by decide)
 rename_i h8;split at h
 ·rename_i hg;have hs:=I4 l;have:=Om (Pl.fZ l) (λp hp=>by
   obtain⟨i,hi,rfl⟩:=List.mem_iff_getElem.1 hp;simp only[Pl.fH,List.all_eq_true,List.mem_range] at hg;have:=hg i hi;rw[List.getElem?_eq_getElem hi] at this;exact Sj this)
  omega
 ·exact absurd h (by decide)
structure Rec where
 k:Int
 q:Int
 t:Int
 s:List UInt8
 h:List UInt8
 d:List UInt8
def none':Rec:=⟨0,0,0,[],[],[]⟩
def inB (k q t:Int):Bool:=decide (1<=k)&&(decide (k<=4)&&(decide (1<=q)&&(decide (q<=1099511627776)&&(decide (0<=t)&&decide (t<=1099511627776)))))
def chk (r:Rec):Int :=
 if inB r.k r.q r.t=false then 1
 else if r.k=1 then (if Pl.errOf false (Pl.fZ r.s)≠0 then Pl.errOf false (Pl.fZ r.s) else if 256<r.h.length+r.d.length then 2 else 0)
 else if r.k=3 then (if Pl.errOf true (Pl.fZ r.s)≠0 then Pl.errOf true (Pl.fZ r.s) else if r.h.length+r.d.length=0 then 0 else 1)
 else if r.s.length+(r.h.length+r.d.length)=0 then 0 else 1
theorem kF {k q t:Int}:inB k q t=true↔1<=k/\k<=4/\1<=q/\q<=1099511627776/\0<=t/\t<=1099511627776:=by
 unfold inB;simp only[Bool.and_eq_true,decide_eq_true_eq]
theorem oI {r:Rec}(h:chk r=0):1<=r.k/\r.k<=4/\1<=r.q/\r.q<=1099511627776/\0<=r.t/\r.t<=1099511627776/\r.s.length<=135/\r.h.length+r.d.length<=256:=by
 unfold chk at h;split at h
 ·exact absurd h (by decide)
 rename_i hb;have hb2:=kF.1 (by simpa using hb);refine⟨hb2.1,hb2.2.1,hb2.2.2.1,hb2.2.2.2.1,hb2.2.2.2.2.1,hb2.2.2.2.2.2,?_⟩;split at h
 ·split at h
  ·rename_i hn;exact absurd h hn
  rename_i hn;split at h
  ·exact absurd h (by decide)
  exact⟨DZ (Classical.byContradiction hn),by omega⟩
 split at h
 ·split at h
  ·rename_i hn;exact absurd h hn
  rename_i hn;split at h
  ·exact⟨DZ (Classical.byContradiction hn),by omega⟩
  ·exact absurd h (by decide)
 split at h
 ·omega
 ·exact absurd h (by decide)
def jY (r:Rec):List UInt8:=body r.k.toNat r.q.toNat r.t.toNat r.s r.h r.d
def ni (r:Rec):List UInt8:=txt (jY r)++le4 (crc (jY r))
theorem I5 (n:Nat):(le4 n).length=4:=rfl
theorem oJ {n:Nat}(h:n<=1099511627776):(enc n).length<=9:=wJ (by omega)
theorem qW {r:Rec}(h:chk r=0):6<=(jY r).length/\(jY r).length<=1024:=by
 obtain⟨_,_,_,h1,_,h2,h3,h4⟩:=oI h;unfold jY body txt;simp only[List.length_cons,List.length_append];have a1:=kE r.q.toNat;have a2:=kE r.t.toNat;have a3:=kE r.s.length;have a4:=kE r.h.length;have a5:=kE r.d.length;have b1:=oJ (n:=r.q.toNat) (by omega);have b2:=oJ (n:=r.t.toNat) (by omega);have b3:=oJ (n:=r.s.length) (by omega);have b4:=oJ (n:=r.h.length) (by omega);have b5:=oJ (n:=r.d.length) (by omega);omega
theorem Oo (l:List UInt8):crc l<4294967296:=by unfold crc;omega
def p1 (r0:List UInt8):List UInt8:=iK r0
def p2 (r0:List UInt8):List UInt8:=iK (iK r0)
def p3 (r0:List UInt8):List UInt8:=lZ (iK (iK r0))
def p4 (r0:List UInt8):List UInt8:=lZ (lZ (iK (iK r0)))
def p5 (r0:List UInt8):List UInt8:=lZ (lZ (lZ (iK (iK r0))))
def okB (r0:List UInt8):Bool:=decide ((rd r0).2.2=0)&&(decide ((rd (p1 r0)).2.2=0)&&(decide ((rt (p2 r0) 1024).2.2=0)&&(decide ((rt (p3 r0) 1024).2.2=0)&&(decide ((rt (p4 r0) 1024).2.2=0)&&decide ((p5 r0).length=0)))))
theorem I7 {r0:List UInt8}:okB r0=true↔qU r0:=by
 unfold okB qU p1 p2 p3 p4 p5;simp only[Bool.and_eq_true,decide_eq_true_eq,List.length_eq_zero_iff]
def zy (c:Nat)(r0:List UInt8):Rec:=⟨c,(rd r0).1,(rd (p1 r0)).1,(rt (p2 r0) 1024).1,(rt (p3 r0) 1024).1,(rt (p4 r0) 1024).1⟩
def dec (l:List UInt8):Rec×Nat×Int :=
 if (rt l 1024).2.2≠0 then (none',0,(rt l 1024).2.2)
 else if l.length<(rt l 1024).2.1+4 then (none',0,6)
 else if (l.drop (rt l 1024).2.1).take 4≠le4 (crc (rt l 1024).1) then (none',0,7)
 else if (rt l 1024).1.length=0 then (none',0,7)
 else if okB ((rt l 1024).1.drop 1)=false then (none',0,7)
 else if chk (zy (at' (rt l 1024).1 0) ((rt l 1024).1.drop 1))≠0 then (none',0,7)
 else (zy (at' (rt l 1024).1 0) ((rt l 1024).1.drop 1),(rt l 1024).2.1+4,0)
theorem Ku {r:Rec}(h:chk r=0):zy (at' (jY r) 0) ((jY r).drop 1)=r/\okB ((jY r).drop 1)=true:=by
 obtain⟨h1,h2,h3,h4,h5,h6,h7,h8⟩:=oI h;have hq:r.q.toNat<9223372036854775808:=by omega
 have ht:r.t.toNat<9223372036854775808:=by omega
 have hs:r.s.length<=1024:=by omega
 have hh:r.h.length<=1024:=by omega
 have hd:r.d.length<=1024:=by omega
 have e5:rt (txt r.d) 1024=(r.d,(txt r.d).length,0):=by have:=oZ hd [];rwa [List.append_nil] at this
 have e:(jY r).drop 1=enc r.q.toNat++(enc r.t.toNat++(txt r.s++(txt r.h++txt r.d))):=rfl;have e0:at' (jY r) 0=r.k.toNat:=by show(UInt8.ofNat r.k.toNat).toNat=_;exact uz (by omega)
 refine⟨?_,by rw[I7,e];exact Gh hq ht hs hh hd⟩;rw[e,e0];unfold zy p1 p2 p3 p4;rw[qV hq,qV ht,nI hs,nI hh,kW hq,kW ht,oZ hs,oZ hh,e5];show Rec.mk ((r.k.toNat:Nat):Int) ((r.q.toNat:Nat):Int) ((r.t.toNat:Nat):Int) r.s r.h r.d=r;rw[Int.toNat_of_nonneg (by omega),Int.toNat_of_nonneg (by omega),Int.toNat_of_nonneg (by omega)]
theorem oK (r:Rec):(ni r).length=(txt (jY r)).length+4:=by unfold ni;rw[List.length_append,I5]
theorem Sr {r:Rec}(h:chk r=0)(more:List UInt8):dec (ni r++more)=(r,(ni r).length,0):=by
 have hb:=qW h;have e:rt (ni r++more) 1024=(jY r,(txt (jY r)).length,0):=by unfold ni;rw[List.append_assoc];exact oZ hb.2 _
 have e2:((ni r++more).drop (txt (jY r)).length).take 4=le4 (crc (jY r)):=by
  unfold ni;rw[List.append_assoc,List.drop_left];rfl
 obtain⟨g1,g2⟩:=Ku h;unfold dec;rw[e];simp only[];rw[if_neg (by simp),if_neg (by rw[List.length_append,oK];omega),if_neg (by rw[e2];simp),if_neg (by omega),g1,g2,if_neg (by simp),if_neg (by rw[h];simp),oK]
theorem Kv {t:List UInt8}{i:Nat}(h:t.length<=1024)(hi:i<(txt t).length):(rt ((txt t).take i) 1024).2.2=6:=by
 have h0:t.length<9223372036854775808:=by omega
 unfold rt;by_cases hl:i<(enc t.length).length
 ·unfold txt;rw[DW h0 hl];rfl
 ·have e:(txt t).take i=enc t.length++t.take (i-(enc t.length).length):=by
   unfold txt;rw[List.take_append,List.take_of_length_le (by omega)]
  have hi':=hi;unfold txt at hi';rw[List.length_append] at hi';rw[e,kW h0];simp only[];rw[if_neg (by simp),if_neg (by omega),if_pos (by simp;omega)]
theorem Kw {r:Rec}{i:Nat}(h:chk r=0)(hi:i<(ni r).length):(dec ((ni r).take i)).2.2=6:=by
 have hb:=qW h;by_cases hl:i<(txt (jY r)).length
 ·have e:(ni r).take i=(txt (jY r)).take i:=by
   unfold ni;rw[List.take_append_of_le_length (by omega)]
  have e6:=Kv hb.2 hl;unfold dec;rw[e,e6,if_pos (by decide)];rfl
 ·have e:(ni r).take i=txt (jY r)++(le4 (crc (jY r))).take (i-(txt (jY r)).length):=by
   unfold ni;rw[List.take_append,List.take_of_length_le (by omega)]
  have hi':=hi;rw[oK] at hi';unfold dec;rw[e,oZ hb.2];simp only[];rw[if_neg (by simp),if_pos (by rw[<-e,List.length_take];omega)]
theorem YS {l:List UInt8}(h:(dec l).2.2≠0):(dec l).1=none'/\(dec l).2.1=0:=by
 unfold dec at h ⊢;split
 ·exact⟨rfl,rfl⟩
 rename_i h1;rw[if_neg h1] at h;split
 ·exact⟨rfl,rfl⟩
 rename_i h2;rw[if_neg h2] at h;split
 ·exact⟨rfl,rfl⟩
 rename_i h3;rw[if_neg h3] at h;split
 ·exact⟨rfl,rfl⟩
 rename_i h4;rw[if_neg h4] at h;split
 ·exact⟨rfl,rfl⟩
 rename_i h5;rw[if_neg h5] at h;split
 ·exact⟨rfl,rfl⟩
 rename_i h6;rw[if_neg h6] at h;exact absurd rfl h
theorem I8 {l:List UInt8}(h:(dec l).2.2=0):chk (dec l).1=0/\ni (dec l).1=l.take (dec l).2.1/\(dec l).2.1<=l.length:=by
 unfold dec at h ⊢;split
 ·rename_i h1;rw[if_pos h1] at h;exact absurd (by simpa using h) h1
 rename_i h1;rw[if_neg h1] at h;split
 ·rename_i h2;rw[if_pos h2] at h;exact absurd h (by decide)
 rename_i h2;rw[if_neg h2] at h;split
 ·rename_i h3;rw[if_pos h3] at h;exact absurd h (by decide)
 rename_i h3;rw[if_neg h3] at h;split
 ·rename_i h4;rw[if_pos h4] at h;exact absurd h (by decide)
 rename_i h4;rw[if_neg h4] at h;split
 ·rename_i h5;rw[if_pos h5] at h;exact absurd h (by decide)
 rename_i h5;rw[if_neg h5] at h;split
 ·rename_i h6;rw[if_pos h6] at h;exact absurd h (by decide)
 rename_i h6;have hc:=Classical.byContradiction h6;refine⟨hc,?_,by show(rt l 1024).2.1+4<=_;omega⟩;have h10:(rt l 1024).2.2=0:=Classical.byContradiction h1;have ho:=Ol (l:=l) (most:=1024) (x:=(rt l 1024).1) (n:=(rt l 1024).2.1) (by rw[<-h10]);have hp:=Kr (I7.1 (Bool.not_eq_false _ |>.mp h5));have Zn:jY (zy (at' (rt l 1024).1 0) ((rt l 1024).1.drop 1))=(rt l 1024).1:=by
  obtain⟨B,hB⟩:∃B,(rt l 1024).1=B:=⟨_,rfl⟩;rw[hB] at hp h4 ⊢;match B,h4 with
  | [],h4=>exact absurd rfl h4
  | c::r,_ =>
   rw[show(c::r).drop 1=r from rfl] at hp;rw[show(c::r).drop 1=r from rfl];unfold jY body zy p1 p2 p3 p4;simp only[Int.toNat_natCast,gU,UInt8.ofNat_toNat];rw[hp]
 show ni _=l.take ((rt l 1024).2.1+4);unfold ni;rw[Zn,ho.1,<-Classical.byContradiction h3,List.take_add]
theorem Sv {f g:Nat->Nat}(hf:∀j,f j<2)(hg:∀j,g j<2){j:Nat}(h:∀i,f i ^^^ g i=if i=j then 1 else 0){N:Nat}(hN:j<N):reg f N≠reg g N:=by
 have hpre:∀n,n<=j->reg f n ^^^ reg g n=0:=by
  intro n;induction n with
  | zero=>intro _;simp[reg]
  | succ n ih =>
   intro hn;rw[jK,ih (by omega),h,if_neg (by omega)];rfl
 have hend:∀n,reg f (j+1+n) ^^^ reg g (j+1+n)≠0:=by
  intro n;induction n with
  | zero =>
   rw[Nat.add_zero,jK,hpre j (Nat.le_refl _),h,if_pos rfl];decide
  | succ n ih =>
   intro e;rw[<-Nat.add_assoc,jK,h,if_neg (by omega),Nat.xor_zero] at e;exact ih (Gg (Nat.xor_lt_two_pow (n:=32) (lY hf _) (lY hg _)) e)
 intro e;have:=hend (N-(j+1));rw[show j+1+(N-(j+1))=N from by omega,e,Nat.xor_self] at this;exact this rfl
theorem D5 {l:List UInt8}{j:Nat}(h:j<8*l.length):crc (flip l j)≠crc l:=by
 have:=Sv (f:=qR l) (g:=qR (flip l j)) (dS l) (dS _) (j:=j) (λi=>by
  have b0:=dS l i;rw[Gi b0 (dS _ _),DY (by omega)];by_cases e:i=j
  ·rw[if_pos e];omega
  ·rw[if_neg e];omega) h
 have r0:=lY (dS l) (8*l.length);have r1:=lY (dS (flip l j)) (8*l.length);unfold crc;rw[nJ];omega
theorem Sz {l:List UInt8}{j:Nat}(h:j<8*l.length):flip l j≠l:=λe=>D5 h (by rw[e])
theorem wL {a b:List UInt8}{j:Nat}:flip (a++b) (8*a.length+j)=a++flip b j:=by
 unfold flip;rw[show(8*a.length+j) / 8=a.length+j / 8 from by omega,show(8*a.length+j) % 8=j % 8 from by omega];have e:at' (a++b) (a.length+j / 8)=at' b (j / 8):=by
  unfold at';rw[List.getElem?_append_right (by omega),show a.length+j / 8-a.length=j / 8 from by omega]
 rw[e,List.set_append_right _ _ (by omega),show a.length+j / 8-a.length=j / 8 from by omega]
theorem Ky {a b:List UInt8}{j:Nat}(h:j<8*a.length):flip (a++b) j=flip a j++b:=by
 unfold flip;rw[wH (by omega),List.set_append_left _ _ (by omega)]
theorem I9 {B S:List UInt8}(hb:B.length<=1024)(hs:S.length=4)(hne:S≠le4 (crc B)):(dec (txt B++S)).2.2=7:=by
 unfold dec;rw[oZ hb];simp only[];rw[if_neg (by simp),if_neg (by rw[List.length_append,hs];omega),if_pos (by rw[List.drop_left,List.take_of_length_le (by omega)];exact hne)]
theorem SA {a b:Nat}(ha:a<4294967296)(hb:b<4294967296)(h:le4 a=le4 b):a=b:=by
 have h1:=DX ha [];have h2:=DX hb [];rw[h] at h1;exact h1.symm.trans h2
theorem Zo {r:Rec}(h:chk r=0):rd (ni r)=((jY r).length,(enc (jY r).length).length,0):=by
 have hb:=qW h;unfold ni txt;rw[List.append_assoc];exact kW (by omega) _
theorem VF {r:Rec}{i:Nat}(h:chk r=0)(hi:i<8*((ni r).length-(enc (jY r).length).length)):(dec (flip (ni r) (8*(enc (jY r).length).length+i))).2.2=7:=by
 have hb:=qW h;rw[oK] at hi;have e:ni r=enc (jY r).length++(jY r++le4 (crc (jY r))):=by unfold ni txt;rw[List.append_assoc]
 have hl:(txt (jY r)).length=(enc (jY r).length).length+(jY r).length:=by unfold txt;rw[List.length_append]
 rw[e,wL];by_cases hj:i<8*(jY r).length
 ·rw[Ky hj];have e2:enc (jY r).length++(flip (jY r) i++le4 (crc (jY r)))=txt (flip (jY r) i)++le4 (crc (jY r)):=by
   unfold txt;rw[nJ,List.append_assoc]
  rw[e2];refine I9 (by rw[nJ];exact hb.2) rfl (λq=>?_);exact D5 hj (SA (Oo _) (Oo _) q).symm
 ·obtain⟨m,rfl⟩:∃m,i=8*(jY r).length+m:=⟨i-8*(jY r).length,by omega⟩;rw[wL];have e2:enc (jY r).length++(jY r++flip (le4 (crc (jY r))) m)=txt (jY r)++flip (le4 (crc (jY r))) m:=by
   unfold txt;rw[List.append_assoc]
  rw[e2];exact I9 hb.2 (by rw[nJ];rfl) (Sz (by rw[I5];omega))
end Go.Proofs.YtophdoapcdjnjaaGreatDoor.Pk
namespace Go.Proofs.YtophdoapcdjnjaaGreatDoor.Dk
open Go.RowKit Go.Proofs.Tryz
structure Rc where
 k:Int
 q:Int
 t:Int
 s:ByteArray
 h:ByteArray
 d:ByteArray
def Rc.pk (r:Rc):Pk.Rec:=⟨r.k,r.q,r.t,r.s.data.toList,r.h.data.toList,r.d.data.toList⟩
def bt (l:List UInt8):ByteArray:=⟨l.toArray⟩
theorem Ja (l:List UInt8):(bt l).data.toList=l:=by simp[bt]
theorem SC (l:List UInt8):(bt l).size=l.length:=by simp[bt,ByteArray.size]
theorem XF (s:ByteArray):bt s.data.toList=s:=by apply ByteArray.ext;simp[bt]
def D6 (r:Pk.Rec):Rc:=⟨r.k,r.q,r.t,bt r.s,bt r.h,bt r.d⟩
theorem SE (r:Pk.Rec):(D6 r).pk=r:=by unfold D6 Rc.pk;simp only[Ja]
theorem SG (r:Rc):D6 r.pk=r:=by unfold D6 Rc.pk;simp only[XF]
def WW (r:Rc):Value:=.agg #[.int .i64 r.k,.int .i64 r.q,.int .i64 r.t,.string r.s,.string r.h,.string r.d]
theorem Jb (r:Pk.Rec):4<=(Pk.ni r).length:=by rw[Pk.oK];omega
theorem Bf {l:List UInt8}(h:(Pk.dec l).2.2=0):1<=(Pk.dec l).2.1/\(Pk.dec l).2.1<=l.length:=by
 obtain⟨_,h2,h3⟩:=Pk.I8 h;have:=Jb (Pk.dec l).1;rw[h2,List.length_take] at this;omega
def scan:Nat->List UInt8->List Rc×Option Nat
 | 0,_=>([],none)
 | f+1,l=>if l.length=0 then ([],none) else if (Pk.dec l).2.2=0 then (D6 (Pk.dec l).1::(scan f (l.drop (Pk.dec l).2.1)).1,(scan f (l.drop (Pk.dec l).2.1)).2.map (·+(Pk.dec l).2.1)) else ([],some 0)
theorem nK (f:Nat):scan f []=([],none):=by cases f<;>rfl
theorem scan_ok {f:Nat}{l:List UInt8}(h0:l.length≠0)(h:(Pk.dec l).2.2=0):scan (f+1) l=(D6 (Pk.dec l).1::(scan f (l.drop (Pk.dec l).2.1)).1,(scan f (l.drop (Pk.dec l).2.1)).2.map (·+(Pk.dec l).2.1)):=by
 rw[scan,if_neg h0,if_pos h]
theorem scan_bad {f:Nat}{l:List UInt8}(h0:l.length≠0)(h:(Pk.dec l).2.2≠0):scan (f+1) l=([],some 0):=by
 rw[scan,if_neg h0,if_neg h]
theorem Bg:∀(f:Nat) (l:List UInt8) (k:Nat),(scan f l).2=some k->k<=l.length
 | 0,_,_,h=>by cases h
 | f+1,l,k,h=>by
  by_cases h0:l.length=0
  ·rw[scan,if_pos h0] at h;cases h
  ·by_cases hd:(Pk.dec l).2.2=0
   ·rw[scan_ok h0 hd] at h
    cases hs:(scan f (l.drop (Pk.dec l).2.1)).2 with
    | none=>rw[hs] at h;cases h
    | some j =>
     rw[hs] at h;have:=Bg f _ j hs;have:=(Bf hd).2;rw[List.length_drop] at *;simp at h;omega
   ·rw[scan_bad h0 hd] at h
    cases h
    exact Nat.zero_le _
theorem wM:∀(f:Nat) (l:List UInt8),(scan f l).1.length<=l.length
 | 0,_=>Nat.zero_le _
 | f+1,l=>by
  by_cases h0:l.length=0
  ·rw[scan,if_pos h0];exact Nat.zero_le _
  ·by_cases hd:(Pk.dec l).2.2=0
   ·rw[scan_ok h0 hd,List.length_cons];have:=wM f (l.drop (Pk.dec l).2.1);have:=Bf hd;rw[List.length_drop] at *;omega
   ·rw[scan_bad h0 hd];exact Nat.zero_le _
def Read (l:List UInt8)(at':Nat)(rs:List Rc):Prop:=∃f,l.length<=at'+f/\scan l.length l=(rs++(scan f (l.drop at')).1,(scan f (l.drop at')).2.map (·+at'))
theorem Read.start (l:List UInt8):Read l 0 []:=⟨l.length,by omega,by
 rw[List.drop_zero,List.nil_append]
 cases h:(scan l.length l).2<;>simp[<-h]⟩
theorem Read.done {l:List UInt8}{p:Nat}{rs:List Rc}(h:Read l p rs)(hp:¬p<l.length):scan l.length l=(rs,none):=by
 obtain⟨f,_,h⟩:=h;rw[List.drop_eq_nil_of_le (by omega),nK] at h;simpa using h
theorem Read.step {l:List UInt8}{p:Nat}{rs:List Rc}(h:Read l p rs)(hp:p<l.length)(hd:(Pk.dec (l.drop p)).2.2=0):Read l (p+(Pk.dec (l.drop p)).2.1) (rs++[D6 (Pk.dec (l.drop p)).1]):=by
 obtain⟨f,hf,h⟩:=h;have h0:(l.drop p).length≠0:=by rw[List.length_drop];omega
 have hpos:=Bf hd
 cases f with
 | zero=>omega
 | succ f =>
  rw[scan_ok h0 hd,List.drop_drop] at h;refine⟨f,by omega,?_⟩;rw[h,List.append_assoc,List.singleton_append];congr 1
  cases (scan f (l.drop (p+(Pk.dec (l.drop p)).2.1))).2 with
  | none=>rfl
  | some j=>simp;omega
theorem Read.bad {l:List UInt8}{p:Nat}{rs:List Rc}(h:Read l p rs)(hp:p<l.length)(hd:(Pk.dec (l.drop p)).2.2≠0):scan l.length l=(rs,some p):=by
 obtain⟨f,hf,h⟩:=h;have h0:(l.drop p).length≠0:=by rw[List.length_drop];omega
 cases f with
 | zero=>omega
 | succ f =>
  rw[scan_bad h0 hd] at h;simpa using h
theorem Read.len {l:List UInt8}{p:Nat}{rs:List Rc}(h:Read l p rs):rs.length<=l.length:=by
 obtain⟨f,_,h⟩:=h;have:=wM l.length l;rw[h,List.length_append] at this;omega
def iO (t:ByteArray):List Rc×Option Nat:=scan t.data.toList.length t.data.toList
def bG:List aC->List Rc×List aC
 | []=>([],[])
 | e::r=>match (iO e.text).2 with
  | none=>((iO e.text).1++(bG r).1,e::(bG r).2)
  | some k=>((iO e.text).1,[qQ e k])
theorem dI {e:aC}{r:List aC}{rs:List Rc}(h:iO e.text=(rs,none)):bG (e::r)=(rs++(bG r).1,e::(bG r).2):=by
 rw[bG,h]
theorem lG {e:aC}{r:List aC}{rs:List Rc}{k:Nat}(h:iO e.text=(rs,some k)):bG (e::r)=(rs,[qQ e k]):=by
 rw[bG,h]
def Reads (es:List aC)(i:Nat)(acc:List Rc):Prop:=bG es=(acc++(bG (es.drop i)).1,es.take i++(bG (es.drop i)).2)
theorem Reads.start (es:List aC):Reads es 0 []:=by unfold Reads;simp
theorem Jc {es:List aC}{i:Nat}(h:i<es.length):es.drop i=pa es i::es.drop (i+1):=by rw[fP h,<-List.drop_eq_getElem_cons h]
theorem SI {es:List aC}{i:Nat}(h:i<es.length):es.take (i+1)=es.take i++[pa es i]:=by rw[List.take_succ_eq_append_getElem h,fP h]
theorem Reads.step {es:List aC}{i:Nat}{acc rs:List Rc}(h:Reads es i acc)(hi:i<es.length)(hs:iO (pa es i).text=(rs,none)):Reads es (i+1) (acc++rs):=by
 unfold Reads at h ⊢;rw[h,Jc hi,dI hs,SI hi];simp
theorem Reads.done {es:List aC}{i:Nat}{acc:List Rc}(h:Reads es i acc)(hi:¬i<es.length):bG es=(acc,es):=by
 unfold Reads at h;rw[h,List.drop_eq_nil_of_le (by omega),List.take_of_length_le (by omega)];simp[bG]
theorem Reads.bad {es:List aC}{i k:Nat}{acc rs:List Rc}(h:Reads es i acc)(hi:i<es.length)(hs:iO (pa es i).text=(rs,some k)):bG es=(acc++rs,es.take i++[qQ (pa es i) k]):=by
 unfold Reads at h;rw[h,Jc hi,lG hs]
theorem Oq {t:ByteArray}{k:Nat}(h:(iO t).2=some k):k<=t.size:=by
 have:=Bg _ _ _ h;simpa using this
theorem Kz (t:ByteArray):(iO t).1.length<=t.size:=by
 have:=wM t.data.toList.length t.data.toList;unfold iO;simpa using this
theorem KA:∀es:List aC,(bG es).1.length<=used es
 | []=>Nat.zero_le _
 | e::r=>by
  have h1:=Kz e.text;rw[dw]
  cases hs:iO e.text with
  | mk rs o =>
   rw[hs] at h1
   cases o with
   | none =>
    rw[dI hs,List.length_append];have:=KA r;simp only at h1;omega
   | some k=>rw[lG hs];simp only at h1 ⊢;omega
theorem uD:∀es:List aC,(iG (bG es).2).Sublist (iG es)/\used (bG es).2<=used es/\∀x∈(bG es).2,∃e∈es,x=e\/∃k,k<=e.text.size/\x=qQ e k
 | []=>⟨by simp[bG,iG],by simp[bG],by simp[bG]⟩
 | e::r=>by
  cases hs:iO e.text with
  | mk rs o =>
   cases o with
   | none =>
    rw[dI hs];obtain⟨h1,h2,h3⟩:=uD r;refine⟨?_,?_,?_⟩
    ·show(e.n::iG (bG r).2).Sublist (e.n::iG r);exact h1.cons_cons _
    ·rw[dw,dw];omega
    ·intro x hx;rcases List.mem_cons.1 hx with rfl|hx
     ·exact⟨x,by simp,.inl rfl⟩
     ·obtain⟨y,hy,hq⟩:=h3 x hx;exact⟨y,by simp[hy],hq⟩
   | some k =>
    have hk:k<=e.text.size:=Oq (by rw[hs]);rw[lG hs];refine⟨?_,?_,?_⟩
    ·show([e.n]:List Int).Sublist (e.n::iG r);exact(List.nil_sublist _).cons_cons _
    ·rw[dw,dw,sU hk];simp[used];omega
    ·intro x hx;have:x=qQ e k:=by simpa using hx
     exact⟨e,by simp,.inr ⟨k,hk,this⟩⟩
theorem Tidy.opened {m:Int}{es:List aC}(h:Tidy m es):Tidy m (bG es).2:=by
 obtain⟨h1,h2,h3⟩:=uD es;refine⟨?_,?_,?_,?_⟩
 ·rw[jP];exact List.Pairwise.sublist h1 ((jP es).1 h.rise)
 ·have:=h1.length_le;simp only[iG,List.length_map] at this;have:=h.few;omega
 ·have:=h.fits;omega
 ·intro x hx;obtain⟨e,he,hq⟩:=h3 x hx;have:=h.each e he;rcases hq with rfl|⟨k,hk,rfl⟩
  ·exact this
  ·exact⟨this.1,by show(0:Int)<=(k:Int);omega,by rw[sU hk];show(k:Int)<=(k:Int);omega⟩
theorem YT {A B:List aC}{x:aC}(h:lF (A++x::B)):J9 (A++x::B) x.n=A++B:=by
 have hi:ix (A++x::B) x.n=A.length:=by
  have e:pa (A++x::B) A.length=x:=by unfold pa;simp
  refine NU (by simp) (by rw[e]) (λj hj=>?_);rw[beq_eq_false_iff_ne];have hm:pa (A++x::B) j∈A:=by
   have:pa (A++x::B) j=A[j]:=by unfold pa;rw[List.getElem?_append_left hj,List.getElem?_eq_getElem hj];rfl
   rw[this];exact List.getElem_mem hj
  exact lW h _ hm
 unfold J9;rw[hi,if_pos (by simp)];simp
def gB (r:Rc):ByteArray:=bt (Pk.ni r.pk)
def dJ (r:Rc):Int:=Pk.chk r.pk
def gG (es:List aC):aC:=pa es (es.length-1)
def fills (es:List aC)(size:Int)(s:ByteArray):Bool:=decide (0<(gG es).text.size)&&decide (size<((gG es).text.size:Int)+(s.size:Int))
def jd (es:List aC)(m size:Int)(r:Rc):Int×List aC :=
 if dJ r≠0 then (dJ r,es)
 else if es.length=0 then (iH es m 0 (gB r),kU es m 0 (gB r))
 else if fills es size (gB r) then (iH (jA es (gG es).n) m ((gG es).n+1) (gB r),kU (jA es (gG es).n) m ((gG es).n+1) (gB r))
 else (iH es m (gG es).n (gB r),kU es m (gG es).n (gB r))
theorem Tidy.logged {m:Int}{es:List aC}(h:Tidy m es)(size:Int)(r:Rc):Tidy m (jd es m size r).2:=by
 unfold jd;split
 ·exact h
 ·split
  ·exact h.app 0 (gB r)
  ·split
   ·exact(h.sync (gG es).n).app ((gG es).n+1) (gB r)
   ·exact h.app (gG es).n (gB r)
def jZ (es:List aC)(m size:Int)(r:Rc):Int×List aC:=if (jd es m size r).1=0 then jd es m size r else ((jd es m size r).1,es)
theorem Bh {es:List aC}{m size:Int}{r:Rc}(h:(jd es m size r).1=0):jZ es m size r=jd es m size r:=by unfold jZ;rw[if_pos h]
theorem wO {es:List aC}{m size:Int}{r:Rc}(h:(jd es m size r).1≠0):jZ es m size r=((jd es m size r).1,es):=by unfold jZ;rw[if_neg h]
theorem Tidy.logp {m:Int}{es:List aC}(h:Tidy m es)(size:Int)(r:Rc):Tidy m (jZ es m size r).2:=by
 unfold jZ;split
 ·exact h.logged size r
 ·exact h
def kX (es:List aC):List aC:=if es.length=0 then es else jA es (gG es).n
theorem Tidy.Jd {m:Int}{es:List aC}(h:Tidy m es):Tidy m (kX es):=by
 unfold kX;split
 ·exact h
 ·exact h.sync _
def Ot:List Rc->Int
 | []=>0
 | r::l=>if dJ r≠0 then dJ r else Ot l
def gu:List Rc->ByteArray
 | []=>ByteArray.empty
 | r::l=>gB r++gu l
def D7 (es:List aC):Int:=if es.length=0 then 0 else (gG es).n+1
def wP (es:List aC)(m size:Int)(l:List Rc):Int×List aC :=
 if Ot l≠0 then (Ot l,es)
 else if 1<l.length/\size<((gu l).size:Int) then (8,es)
 else if iH es m (D7 es) (gu l)≠0 then (iH es m (D7 es) (gu l),es)
 else (0,[⟨D7 es,((gu l).size:Int),gu l⟩])
theorem Tidy.rewritten {m:Int}{es:List aC}(h:Tidy m es)(size:Int)(l:List Rc):Tidy m (wP es m size l).2:=by
 unfold wP;split
 ·exact h
 ·split
  ·exact h
  ·split
   ·exact h
   ·rename_i h0;obtain⟨hI,hf⟩:=qh.1 (Classical.byContradiction h0);have hu:=zl hf;refine⟨List.pairwise_singleton _ _,by simp,?_,?_⟩
    ·simp only[Dk.used];omega
    ·intro e he;have:e=⟨D7 es,((gu l).size:Int),gu l⟩:=by simpa using he
     subst this;exact⟨hI,by show(0:Int)<=((gu l).size:Int);omega,by show((gu l).size:Int)<=((gu l).size:Int);omega⟩
def rc (l:List Rc)(k:Nat):Rc:=l[k]?.getD ⟨0,0,0,ByteArray.empty,ByteArray.empty,ByteArray.empty⟩
theorem dU {l:List Rc}{k:Nat}(h:k<l.length):rc l k=l[k]:=by unfold rc;rw[List.getElem?_eq_getElem h];rfl
def aG:List Rc->List Value
 | []=>[]
 | r::l=>.int .i64 r.k::.int .i64 r.q::.int .i64 r.t::.string r.s::.string r.h::.string r.d::aG l
theorem bQ:∀l:List Rc,(aG l).length=l.length*6
 | []=>rfl
 | r::l=>by simp[aG,bQ l];omega
theorem kG:∀a b:List Rc,aG (a++b)=aG a++aG b
 | [],_=>rfl
 | r::a,b=>by simp[aG,kG a b]
theorem lH:∀(l:List Rc),∀v∈aG l,v.oneCell'=true
 | [],v,h=>by simp[aG] at h
 | r::l,v,h=>by
  simp only[aG,List.mem_cons] at h;rcases h with h|h|h|h|h|h|h
  ·subst h;rfl
  ·subst h;rfl
  ·subst h;rfl
  ·subst h;rfl
  ·subst h;rfl
  ·subst h;rfl
  ·exact lH l v h
structure Six (w:World)(b o:Nat)(r:Rc):Prop where
 lt:b<w.heap.size
 c0:w.cell? ⟨b,o,none⟩=some (.int .i64 r.k)
 c1:w.cell? ⟨b,o+1,none⟩=some (.int .i64 r.q)
 c2:w.cell? ⟨b,o+2,none⟩=some (.int .i64 r.t)
 c3:w.cell? ⟨b,o+3,none⟩=some (.string r.s)
 c4:w.cell? ⟨b,o+4,none⟩=some (.string r.h)
 c5:w.cell? ⟨b,o+5,none⟩=some (.string r.d)
theorem Six.bW {A:Nat->Prop}{w w':World}{b o:Nat}{r:Rc}(h:Six w b o r)(hc:aF A w w')(hn:¬A b):Six w' b o r :=
 ⟨Nat.lt_of_lt_of_le h.lt hc.size,by rw[hc.cell (p:=⟨b,o,none⟩) h.lt hn];exact h.c0,by rw[hc.cell (p:=⟨b,o+1,none⟩) h.lt hn];exact h.c1,by rw[hc.cell (p:=⟨b,o+2,none⟩) h.lt hn];exact h.c2,by rw[hc.cell (p:=⟨b,o+3,none⟩) h.lt hn];exact h.c3,by rw[hc.cell (p:=⟨b,o+4,none⟩) h.lt hn];exact h.c4,by rw[hc.cell (p:=⟨b,o+5,none⟩) h.lt hn];exact h.c5⟩
theorem Six.below {B:Nat}{w w':World}{b o:Nat}{r:Rc}(h:Six w b o r)(hb:Below B w w')(hB:b<B):Six w' b o r :=
 ⟨Nat.lt_of_lt_of_le h.lt hb.size,by rw[hb.cell (p:=⟨b,o,none⟩) hB];exact h.c0,by rw[hb.cell (p:=⟨b,o+1,none⟩) hB];exact h.c1,by rw[hb.cell (p:=⟨b,o+2,none⟩) hB];exact h.c2,by rw[hb.cell (p:=⟨b,o+3,none⟩) hB];exact h.c3,by rw[hb.cell (p:=⟨b,o+4,none⟩) hB];exact h.c4,by rw[hb.cell (p:=⟨b,o+5,none⟩) hB];exact h.c5⟩
theorem Je:∀(l:List Rc) (k:Nat),k<l.length->(aG l)[k*6]?=some (.int .i64 (rc l k).k)/\(aG l)[k*6+1]?=some (.int .i64 (rc l k).q)/\(aG l)[k*6+2]?=some (.int .i64 (rc l k).t)/\(aG l)[k*6+3]?=some (.string (rc l k).s)/\(aG l)[k*6+4]?=some (.string (rc l k).h)/\(aG l)[k*6+5]?=some (.string (rc l k).d)
 | [],k,h=>absurd h (Nat.not_lt_zero k)
 | r::l,0,_=>⟨rfl,rfl,rfl,rfl,rfl,rfl⟩
 | r::l,k+1,h=>by
  rw[show(k+1)*6=k*6+1+1+1+1+1+1 by omega];have:=Je l k (by simpa using h);have e:rc (r::l) (k+1)=rc l k:=rfl;rw[e];refine⟨?_,?_,?_,?_,?_,?_⟩
  ·simp only[aG,List.getElem?_cons_succ];exact this.1
  ·rw[show k*6+1+1+1+1+1+1+1=(k*6+1)+1+1+1+1+1+1 by omega];simp only[aG,List.getElem?_cons_succ];exact this.2.1
  ·rw[show k*6+1+1+1+1+1+1+2=(k*6+2)+1+1+1+1+1+1 by omega];simp only[aG,List.getElem?_cons_succ];exact this.2.2.1
  ·rw[show k*6+1+1+1+1+1+1+3=(k*6+3)+1+1+1+1+1+1 by omega];simp only[aG,List.getElem?_cons_succ];exact this.2.2.2.1
  ·rw[show k*6+1+1+1+1+1+1+4=(k*6+4)+1+1+1+1+1+1 by omega];simp only[aG,List.getElem?_cons_succ];exact this.2.2.2.2.1
  ·rw[show k*6+1+1+1+1+1+1+5=(k*6+5)+1+1+1+1+1+1 by omega];simp only[aG,List.getElem?_cons_succ];exact this.2.2.2.2.2
theorem Jf:(prog.info? 45).map (λi=>(i.zero,i.size,i.bytes))=some (some (.agg #[.int .i64 0,.int .i64 0,.int .i64 0,.string ByteArray.empty,.string ByteArray.empty,.string ByteArray.empty]),6,72):=by kernel_rfl
def dA (w:World)(B:Nat)(v:Value)(l:List Rc):Prop:=w.ownsRow B 45 6 v l.length (aG l)
theorem dA.empty (w:World)(B:Nat):dA w B (.slice none 0 0) []:=World.ownsRow_nil w B _ 6
theorem dA.bW {A:Nat->Prop}{w w':World}{B:Nat}{v:Value}{l:List Rc}(h:dA w B v l)(hb:aF A w w')(hn:∀g,v.ownBlock=some g->¬A g):dA w' B v l:=by
 refine⟨h.1,?_⟩;rcases h.2 with q|⟨g,cap,cur,h1,h2,h3,r⟩
 ·exact .inl q
 ·refine .inr ⟨g,cap,cur,h1,h2,?_,r⟩;rw[hb.block g (h.lt g (by rw[h1];rfl)).2 (hn g (by rw[h1];rfl))];exact h3
theorem dA.below {w w':World}{B:Nat}{v:Value}{l:List Rc}(h:dA w B v l)(hb:Below w.heap.size w w'):dA w' B v l:=h.bW (A:=λ_=>False) (aF.of_below hb) (λ_ _ z=>z)
def Dl (w:World)(a:Option Addr)(l:List Rc):Prop:=∀k,k<l.length->∃b o,a=some ⟨b,o,none⟩/\Six w b (o+k*6) (rc l k)
theorem Dl.below {w w':World}{a:Option Addr}{l:List Rc}(h:Dl w a l)(hb:Below w.heap.size w w'):Dl w' a l:=λk hk=>by
 obtain⟨b,o,h1,h2⟩:=h k hk;exact⟨b,o,h1,h2.below hb h2.lt⟩
theorem Dl.bW {A:Nat->Prop}{w w':World}{a:Option Addr}{l:List Rc}(h:Dl w a l)(hc:aF A w w')(hn:∀p,a=some p->¬A p.block):Dl w' a l:=λk hk=>by
 obtain⟨b,o,h1,h2⟩:=h k hk;exact⟨b,o,h1,h2.bW hc (hn _ h1)⟩
theorem dA.shape {w:World}{B:Nat}{v:Value}{l:List Rc}(h:dA w B v l):∃a cap,v=.slice a l.length cap/\l.length<=cap/\cap<=maxLen/\Dl w a l:=by
 rcases h.2 with ⟨h1,h2⟩|⟨g,cap,cur,h1,h2,h3,h4,h5,h6,h7⟩
 ·exact⟨none,0,by rw[h1,h2],by omega,by simp[maxLen],λk hk=>by omega⟩
 ·refine⟨_,cap,h1,h4,h5,λk hk=>⟨g,0,rfl,?_⟩⟩;have hl:=(h.lt g (by rw[h1];rfl)).2;have hat:=Je l k hk;rw[h1] at h;refine⟨hl,?_,?_,?_,?_,?_,?_⟩
  ·rw[World.ownsRow.cellAt h (0+k*6) (by omega),Nat.zero_add];exact hat.1
  ·rw[World.ownsRow.cellAt h (0+k*6+1) (by omega),Nat.zero_add];exact hat.2.1
  ·rw[World.ownsRow.cellAt h (0+k*6+2) (by omega),Nat.zero_add];exact hat.2.2.1
  ·rw[World.ownsRow.cellAt h (0+k*6+3) (by omega),Nat.zero_add];exact hat.2.2.2.1
  ·rw[World.ownsRow.cellAt h (0+k*6+4) (by omega),Nat.zero_add];exact hat.2.2.2.2.1
  ·rw[World.ownsRow.cellAt h (0+k*6+5) (by omega),Nat.zero_add];exact hat.2.2.2.2.2
theorem Bj (w:World)(r:Rc):∀j u,(aG [r])[j]?=some u->(w.alloc (.cells #[.int .i64 r.k,.int .i64 r.q,.int .i64 r.t,.string r.s,.string r.h,.string r.d] 45)).cell? ((⟨w.heap.size,0,none⟩:Addr).add j)=some u:=by
 intro j u hj;rw[Addr.add_lit,Nat.zero_add,cell_of_row _ w.heap.size j _ _ _ (heap_alloc_new w _)];simpa[aG] using hj
theorem qj (w:World)(B:Nat)(ty:TypeId)(v:Value)(l fs:List Rc)(ha:dA w B v l)(a:Addr)(c:Nat)(hnews:∀j u,(aG fs)[j]?=some u->w.cell? (a.add j)=some u)(hl:l.length+fs.length<=1000000)(hB:B<=w.heap.size) :
 ∃v' w',(Builtin.append_ #[25,25] ty #[v,.slice (some a) fs.length c]).run prog w=.ok v' w'/\dA w' B v' (l++fs)/\aF (λk=>v.ownBlock=some k) w w'/\∀g,v'.ownBlock=some g->v.ownBlock=some g\/w.heap.size<=g:=by
 obtain⟨i0,hi,hz0,hz1,hz2⟩:=info_parts Jf;have hlen:(aG fs).length=fs.length*6:=bQ fs;obtain⟨v',w',hr,h2,h3,h4⟩:=run_append_own (P:=prog) w B 25 ty 45 i0 _ 6 72 underlying25 hi hz0 hz1 hz2 rfl (by omega) v l.length (aG l) ha a fs.length c (aG fs) hlen hnews (lH fs) (by unfold maxLen;omega) (by omega) hB;refine⟨v',w',hr,?_,aF.cu h3,λk hk=>?_⟩
 ·unfold dA;rw[List.length_append,kG];exact h2
 ·rcases ha.2 with ⟨rfl,hn⟩|⟨g,cap,cur,rfl,hbg,hg,hnc,hcm,hcs,htake⟩
  ·by_cases hm:fs.length=0
   ·rw[h4.2 ⟨rfl,hm⟩] at hk;cases hk
   ·right;have hr2:=run_append_nil (P:=prog) w 25 ty 45 i0 _ underlying25 hi hz0 a fs.length c (aG fs) (by rw[hz1];exact hlen) hnews (by omega) (by omega) (by rw[hz2];omega);rw[hr] at hr2
    cases hr2
    simp only[Value.ownBlock,Option.some.injEq] at hk;omega
  ·by_cases hroom:l.length+fs.length<=cap
   ·left;obtain⟨w2,hr2,_,_⟩:=run_append_fits (P:=prog) w B 25 ty 45 i0 6 underlying25 hi hz1 g l.length cap (aG l) ha a fs.length c (aG fs) hlen hnews (lH fs) hroom;rw[hr] at hr2
    cases hr2
    exact hk
   ·right;have hr2:=run_append_grow (P:=prog) w 25 ty 45 i0 _ underlying25 hi hz0 ⟨g,0,none⟩ l.length cap (aG l) (by rw[hz1];exact ha.1) (World.ownsRow.cells ha (g:=g) rfl) a fs.length c (aG fs) (by rw[hz1];exact hlen) hnews (by omega) (by omega) (by rw[hz2];exact growslice_fits (by omega) (by omega));rw[hr] at hr2
    cases hr2
    simp only[Value.ownBlock,Option.some.injEq] at hk;omega
structure Small (r:Rc):Prop where
 s:r.s.size<=140737488355328
 h:r.h.size<=140737488355328
 d:r.d.size<=140737488355328
theorem Small.of {r:Rc}(hc:dJ r=0):Small r:=by
 obtain⟨_,_,_,_,_,_,h1,h2⟩:=Pk.oI (r:=r.pk) hc;have e:∀x:ByteArray,x.data.toList.length=x.size:=λx=>by simp
 simp only[Rc.pk,e] at h1 h2;exact⟨by omega,by omega,by omega⟩
theorem Small.dec {l:List UInt8}(h:(Pk.dec l).2.2=0):Small (D6 (Pk.dec l).1):=Small.of (by unfold dJ;rw[SE];exact(Pk.I8 h).1)
theorem WX {r:Rc}(h:dJ r=0):(gB r).size<=1100:=by
 unfold gB;rw[SC,Pk.oK];have hb:=(Pk.qW (r:=r.pk) h).2;unfold Pk.txt;rw[List.length_append];have:=Pk.oJ (n:=(Pk.jY r.pk).length) (by omega);omega
end Go.Proofs.YtophdoapcdjnjaaGreatDoor.Dk
namespace Go.Proofs.YtophdoapcdjnjaaGreatDoor
open Go.RowKit Go.Proofs.Tryz
structure RB (w:World)(b:Nat)(k q t:Int)(s h d:ByteArray):Prop where
 lt:b<w.heap.size
 c0:w.cell? ⟨b,0,none⟩=some (.int .i64 k)
 c1:w.cell? ⟨b,1,none⟩=some (.int .i64 q)
 c2:w.cell? ⟨b,2,none⟩=some (.int .i64 t)
 c3:w.cell? ⟨b,3,none⟩=some (.string s)
 c4:w.cell? ⟨b,4,none⟩=some (.string h)
 c5:w.cell? ⟨b,5,none⟩=some (.string d)
 fr:∀j,w.frozen? ⟨b,j,none⟩=false
theorem RB.below {w w':World}{b B:Nat}{k q t:Int}{s h d:ByteArray}(r:RB w b k q t s h d)(hb:Below B w w')(hB:b<B):RB w' b k q t s h d :=
 ⟨Nat.lt_of_lt_of_le r.lt hb.size,by rw[hb.cell (p:=⟨b,0,none⟩) hB];exact r.c0,by rw[hb.cell (p:=⟨b,1,none⟩) hB];exact r.c1,by rw[hb.cell (p:=⟨b,2,none⟩) hB];exact r.c2,by rw[hb.cell (p:=⟨b,3,none⟩) hB];exact r.c3,by rw[hb.cell (p:=⟨b,4,none⟩) hB];exact r.c4,by rw[hb.cell (p:=⟨b,5,none⟩) hB];exact r.c5,λj=>by rw[hb.frozen (p:=⟨b,j,none⟩) hB];exact r.fr j⟩
theorem RB.drew {w:World}{b:Nat}{k q t:Int}{s h d:ByteArray}(r:RB w b k q t s h d):RB w.drew b k q t s h d :=
 r.below (B:=w.heap.size) (Below.refl _ _).drew r.lt
theorem RB.alloc {w:World}{b:Nat}{k q t:Int}{s h d:ByteArray}(r:RB w b k q t s h d)(o:Obj):RB (w.alloc o) b k q t s h d :=
 r.below (B:=w.heap.size) ((Below.refl _ _).alloc (Nat.le_refl _) o) r.lt
theorem RB.next {w w':World}{b:Nat}{k q t:Int}{s h d:ByteArray}(r:RB w b k q t s h d)(hb:Below w.heap.size w w'):RB w' b k q t s h d:=r.below hb r.lt
theorem RB.new (w:World)(k q t:Int)(s h d:ByteArray)(T:TypeId):RB (w.alloc (.cells #[.int .i64 k,.int .i64 q,.int .i64 t,.string s,.string h,.string d] T)) w.heap.size k q t s h d :=
 ⟨by simp,by simp,by simp,by simp,by simp,by simp,by simp,λj=>World.frozen?_alloc_new _ _ _ j⟩
theorem ak (w:World)(p q:Addr)(v:Value)(h:p≠q):(w.setCell p v).cell? q=w.cell? q:=by
 first|exact World.cell?_setCell_other _ _ _ _ h|exact World.cell?_setCell_other h
theorem RB.other {w:World}{b c i:Nat}{k q t:Int}{s h d:ByteArray}{v:Value}(r:RB w b k q t s h d)(hc:c≠b):RB (w.setCell ⟨c,i,none⟩ v) b k q t s h d :=
 ⟨by simpa using r.lt,by rw[ak _ _ _ _ (by intro e;injection e;omega)];exact r.c0,by rw[ak _ _ _ _ (by intro e;injection e;omega)];exact r.c1,by rw[ak _ _ _ _ (by intro e;injection e;omega)];exact r.c2,
  by rw[ak _ _ _ _ (by intro e;injection e;omega)];exact r.c3,by rw[ak _ _ _ _ (by intro e;injection e;omega)];exact r.c4,by rw[ak _ _ _ _ (by intro e;injection e;omega)];exact r.c5,λj=>by simpa using r.fr j⟩
theorem fF {w:World}{a:Addr}{v u:Value}(h:w.cell? a=some u):(w.setCell a v).cell? a=some v:=World.cell?_setCell_same' _ _ _ (by rw[h];rfl)
theorem RB.set0 {w:World}{b:Nat}{k q t:Int}{s h d:ByteArray}(r:RB w b k q t s h d)(x:Int):RB (w.setCell ⟨b,0,none⟩ (.int .i64 x)) b x q t s h d :=
 ⟨by simpa using r.lt,fF r.c0,by rw[ak _ _ _ _ (by intro e;injection e;omega)];exact r.c1,by rw[ak _ _ _ _ (by intro e;injection e;omega)];exact r.c2,
  by rw[ak _ _ _ _ (by intro e;injection e;omega)];exact r.c3,by rw[ak _ _ _ _ (by intro e;injection e;omega)];exact r.c4,by rw[ak _ _ _ _ (by intro e;injection e;omega)];exact r.c5,λj=>by simpa using r.fr j⟩
theorem RB.set1 {w:World}{b:Nat}{k q t:Int}{s h d:ByteArray}(r:RB w b k q t s h d)(x:Int):RB (w.setCell ⟨b,1,none⟩ (.int .i64 x)) b k x t s h d :=
 ⟨by simpa using r.lt,by rw[ak _ _ _ _ (by intro e;injection e;omega)];exact r.c0,fF r.c1,by rw[ak _ _ _ _ (by intro e;injection e;omega)];exact r.c2,
  by rw[ak _ _ _ _ (by intro e;injection e;omega)];exact r.c3,by rw[ak _ _ _ _ (by intro e;injection e;omega)];exact r.c4,by rw[ak _ _ _ _ (by intro e;injection e;omega)];exact r.c5,λj=>by simpa using r.fr j⟩
theorem RB.set2 {w:World}{b:Nat}{k q t:Int}{s h d:ByteArray}(r:RB w b k q t s h d)(x:Int):RB (w.setCell ⟨b,2,none⟩ (.int .i64 x)) b k q x s h d :=
 ⟨by simpa using r.lt,by rw[ak _ _ _ _ (by intro e;injection e;omega)];exact r.c0,by rw[ak _ _ _ _ (by intro e;injection e;omega)];exact r.c1,fF r.c2,
  by rw[ak _ _ _ _ (by intro e;injection e;omega)];exact r.c3,by rw[ak _ _ _ _ (by intro e;injection e;omega)];exact r.c4,by rw[ak _ _ _ _ (by intro e;injection e;omega)];exact r.c5,λj=>by simpa using r.fr j⟩
theorem RB.KC {w:World}{b:Nat}{k q t:Int}{s h d:ByteArray}(r:RB w b k q t s h d)(x:ByteArray):RB (w.setCell ⟨b,3,none⟩ (.string x)) b k q t x h d :=
 ⟨by simpa using r.lt,by rw[ak _ _ _ _ (by intro e;injection e;omega)];exact r.c0,by rw[ak _ _ _ _ (by intro e;injection e;omega)];exact r.c1,by rw[ak _ _ _ _ (by intro e;injection e;omega)];exact r.c2,
  fF r.c3,by rw[ak _ _ _ _ (by intro e;injection e;omega)];exact r.c4,by rw[ak _ _ _ _ (by intro e;injection e;omega)];exact r.c5,λj=>by simpa using r.fr j⟩
theorem RB.VG {w:World}{b:Nat}{k q t:Int}{s h d:ByteArray}(r:RB w b k q t s h d)(x:ByteArray):RB (w.setCell ⟨b,4,none⟩ (.string x)) b k q t s x d :=
 ⟨by simpa using r.lt,by rw[ak _ _ _ _ (by intro e;injection e;omega)];exact r.c0,by rw[ak _ _ _ _ (by intro e;injection e;omega)];exact r.c1,by rw[ak _ _ _ _ (by intro e;injection e;omega)];exact r.c2,
  by rw[ak _ _ _ _ (by intro e;injection e;omega)];exact r.c3,fF r.c4,by rw[ak _ _ _ _ (by intro e;injection e;omega)];exact r.c5,λj=>by simpa using r.fr j⟩
theorem RB.XG {w:World}{b:Nat}{k q t:Int}{s h d:ByteArray}(r:RB w b k q t s h d)(x:ByteArray):RB (w.setCell ⟨b,5,none⟩ (.string x)) b k q t s h x :=
 ⟨by simpa using r.lt,by rw[ak _ _ _ _ (by intro e;injection e;omega)];exact r.c0,by rw[ak _ _ _ _ (by intro e;injection e;omega)];exact r.c1,by rw[ak _ _ _ _ (by intro e;injection e;omega)];exact r.c2,
  by rw[ak _ _ _ _ (by intro e;injection e;omega)];exact r.c3,by rw[ak _ _ _ _ (by intro e;injection e;omega)];exact r.c4,fF r.c5,λj=>by simpa using r.fr j⟩
theorem RB.new' (w:World)(b:Nat)(hb:b=w.heap.size)(k q t:Int)(s h d:ByteArray)(T:TypeId):RB (w.alloc (.cells #[.int .i64 k,.int .i64 q,.int .i64 t,.string s,.string h,.string d] T)) b k q t s h d:=by
 subst hb;exact RB.new w k q t s h d T
theorem RB.jo {w:World}{b:Nat}{k q t:Int}{s h d:ByteArray}(r:RB w b k q t s h d)(k' q' t':Int)(s' h' d':ByteArray) :
 RB ((((((w.setCell ⟨b,0,none⟩ (.int .i64 k')).setCell ⟨b,1,none⟩ (.int .i64 q')).setCell ⟨b,2,none⟩ (.int .i64 t')).setCell ⟨b,3,none⟩ (.string s')).setCell ⟨b,4,none⟩ (.string h')).setCell ⟨b,5,none⟩ (.string d')) b k' q' t' s' h' d' :=
 (((((r.set0 k').set1 q').set2 t').KC s').VG h').XG d'
theorem jQ {w0 W:World}{b:Nat}{v0 v1 v2 v3 v4 v5:Value}(x:Below w0.heap.size w0 W)(hb:w0.heap.size<=b) :
 Below w0.heap.size w0 ((((((W.setCell ⟨b,0,none⟩ v0).setCell ⟨b,1,none⟩ v1).setCell ⟨b,2,none⟩ v2).setCell ⟨b,3,none⟩ v3).setCell ⟨b,4,none⟩ v4).setCell ⟨b,5,none⟩ v5) :=
 (((((x.setCell hb _).setCell hb _).setCell hb _).setCell hb _).setCell hb _).setCell hb _
def aan (r:Pk.Rec):Value:=.agg #[.int .i64 r.k,.int .i64 r.q,.int .i64 r.t,.string (Gf r.s),.string (Gf r.h),.string (Gf r.d)]
theorem qX {w:World}{b:Nat}{k q t:Int}{s h d:ByteArray}(r:RB w b k q t s h d) :
 (loadVar 45 ⟨b,0,none⟩).run prog w=.ok (.agg #[.int .i64 k,.int .i64 q,.int .i64 t,.string s,.string h,.string d]) w:=by
 have hl:(loadCells ⟨b,0,none⟩ 6).run prog w=.ok #[.int .i64 k,.int .i64 q,.int .i64 t,.string s,.string h,.string d] w :=
  run_loadCells_list (P:=prog) w ⟨b,0,none⟩ [.int .i64 k,.int .i64 q,.int .i64 t,.string s,.string h,.string d] (λj v hv=>by
   rw[NZ,Nat.zero_add];match j,hv with
   | 0,hv=>rw[r.c0];simpa using hv
   | 1,hv=>rw[r.c1];simpa using hv
   | 2,hv=>rw[r.c2];simpa using hv
   | 3,hv=>rw[r.c3];simpa using hv
   | 4,hv=>rw[r.c4];simpa using hv
   | 5,hv=>rw[r.c5];simpa using hv)
 have hz:Tryz.t45.size=6:=by kernel_rfl
 simp[loadVar,isAgg,sizeOf];rw[hz,hl];rfl
theorem iI {fn:Func}{a u:Tmp}{tmps:Array Value}{w:World}{b:Nat}{k q t:Int}{s h d:ByteArray}(hf:fn.results=#[.cell a 45,.tmp u])(ha:tmps.getD a undef=.pointer (some ⟨b,0,none⟩))(r:RB w b k q t s h d) :
 (results fn tmps).run prog w=.ok (.tuple #[.agg #[.int .i64 k,.int .i64 q,.int .i64 t,.string s,.string h,.string d],tmps.getD u undef]) w:=by
 have ha':tmps[a]?.getD undef=.pointer (some ⟨b,0,none⟩):=by simpa using ha
 simp[results,hf,ha',asAddr,qX r]
theorem SK {fn:Func}{a u v:Tmp}{tmps:Array Value}{w:World}{b:Nat}{k q t:Int}{s h d:ByteArray}(hf:fn.results=#[.cell a 45,.tmp u,.tmp v])(ha:tmps.getD a undef=.pointer (some ⟨b,0,none⟩))(r:RB w b k q t s h d) :
 (results fn tmps).run prog w=.ok (.tuple #[.agg #[.int .i64 k,.int .i64 q,.int .i64 t,.string s,.string h,.string d],tmps.getD u undef,tmps.getD v undef]) w:=by
 have ha':tmps[a]?.getD undef=.pointer (some ⟨b,0,none⟩):=by simpa using ha
 simp[results,hf,ha',asAddr,qX r]
theorem qY {P:Program}{ops:Array Oper}{o:Oper}{a:Act}{w:World}{K:Act->World->Prop}{Q:Exit->Act->World->Prop}{E:Prop}
 (hg:o.guard=none) (d x:Operand) (dT sT:TypeId) (hop:o.op=Op.call {callee:=Callee.builtin Builtin.append,args:=#[d,x],argTypes:=#[dT,sT]})
 (v u:Value) (hd:a.eval d=v) (hx:a.eval x=u) {v':Value} {w':World} (hr:(Builtin.append_ #[dT,sT] o.type #[v,u]).run P w=.ok v' w') (hK:K (a.put o.dst v') w') :
 if Region.wanted o (yielded ops a.tmps)=true then Oper.wp P o a w K Q else E:=by
 have hw:Region.wanted o (yielded ops a.tmps)=true:=by simp[Region.wanted,hg]
 rw[if_pos hw];unfold Oper.wp;simp[execOp,hop,resolve,invoke,builtin,hd,hx,hr,Result.andThen];exact hK
end Go.Proofs.YtophdoapcdjnjaaGreatDoor
namespace Go.Proofs.YtophdoapcdjnjaaGreatDoor.Dk
open Go.RowKit Go.Proofs.Tryz
structure SB (w:World)(b:Nat)(x0 x1 x2 x3:Int):Prop where
 lt:b<w.heap.size
 c0:w.cell? ⟨b,0,none⟩=some (.int .i64 x0)
 c1:w.cell? ⟨b,1,none⟩=some (.int .i64 x1)
 c2:w.cell? ⟨b,2,none⟩=some (.int .i64 x2)
 c3:w.cell? ⟨b,3,none⟩=some (.int .i64 x3)
 fr:∀j,w.frozen? ⟨b,j,none⟩=false
theorem SB.below {w w':World}{b n:Nat}{x0 x1 x2 x3:Int}(r:SB w b x0 x1 x2 x3)(hb:Below n w w')(hn:b<n):SB w' b x0 x1 x2 x3 :=
 ⟨Nat.lt_of_lt_of_le r.lt hb.size,by rw[hb.cell (p:=⟨b,0,none⟩) hn];exact r.c0,by rw[hb.cell (p:=⟨b,1,none⟩) hn];exact r.c1,by rw[hb.cell (p:=⟨b,2,none⟩) hn];exact r.c2,by rw[hb.cell (p:=⟨b,3,none⟩) hn];exact r.c3,λj=>by rw[hb.frozen (p:=⟨b,j,none⟩) hn];exact r.fr j⟩
theorem SB.next {w w':World}{b:Nat}{x0 x1 x2 x3:Int}(r:SB w b x0 x1 x2 x3)(hb:Below w.heap.size w w'):SB w' b x0 x1 x2 x3:=r.below hb r.lt
theorem SB.alloc {w:World}{b:Nat}{x0 x1 x2 x3:Int}(r:SB w b x0 x1 x2 x3)(o:Obj):SB (w.alloc o) b x0 x1 x2 x3:=r.next ((Below.refl _ _).alloc (Nat.le_refl _) o)
theorem SB.new (w:World)(x0 x1 x2 x3:Int)(T:TypeId):SB (w.alloc (.cells #[.int .i64 x0,.int .i64 x1,.int .i64 x2,.int .i64 x3] T)) w.heap.size x0 x1 x2 x3 :=
 ⟨by simp,by simp,by simp,by simp,by simp,λj=>World.frozen?_alloc_new _ _ _ j⟩
theorem SB.set0 {w:World}{b:Nat}{x0 x1 x2 x3:Int}(r:SB w b x0 x1 x2 x3)(y:Int):SB (w.setCell ⟨b,0,none⟩ (.int .i64 y)) b y x1 x2 x3 :=
 ⟨by simpa using r.lt,fF r.c0,by rw[ak _ _ _ _ (by intro e;injection e;omega)];exact r.c1,by rw[ak _ _ _ _ (by intro e;injection e;omega)];exact r.c2,by rw[ak _ _ _ _ (by intro e;injection e;omega)];exact r.c3,λj=>by simpa using r.fr j⟩
theorem SB.set1 {w:World}{b:Nat}{x0 x1 x2 x3:Int}(r:SB w b x0 x1 x2 x3)(y:Int):SB (w.setCell ⟨b,1,none⟩ (.int .i64 y)) b x0 y x2 x3 :=
 ⟨by simpa using r.lt,by rw[ak _ _ _ _ (by intro e;injection e;omega)];exact r.c0,fF r.c1,by rw[ak _ _ _ _ (by intro e;injection e;omega)];exact r.c2,by rw[ak _ _ _ _ (by intro e;injection e;omega)];exact r.c3,λj=>by simpa using r.fr j⟩
theorem SB.set2 {w:World}{b:Nat}{x0 x1 x2 x3:Int}(r:SB w b x0 x1 x2 x3)(y:Int):SB (w.setCell ⟨b,2,none⟩ (.int .i64 y)) b x0 x1 y x3 :=
 ⟨by simpa using r.lt,by rw[ak _ _ _ _ (by intro e;injection e;omega)];exact r.c0,by rw[ak _ _ _ _ (by intro e;injection e;omega)];exact r.c1,fF r.c2,by rw[ak _ _ _ _ (by intro e;injection e;omega)];exact r.c3,λj=>by simpa using r.fr j⟩
theorem SB.KC {w:World}{b:Nat}{x0 x1 x2 x3:Int}(r:SB w b x0 x1 x2 x3)(y:Int):SB (w.setCell ⟨b,3,none⟩ (.int .i64 y)) b x0 x1 x2 y :=
 ⟨by simpa using r.lt,by rw[ak _ _ _ _ (by intro e;injection e;omega)];exact r.c0,by rw[ak _ _ _ _ (by intro e;injection e;omega)];exact r.c1,by rw[ak _ _ _ _ (by intro e;injection e;omega)];exact r.c2,fF r.c3,λj=>by simpa using r.fr j⟩
theorem SB.other {w:World}{b c i:Nat}{x0 x1 x2 x3:Int}{v:Value}(r:SB w b x0 x1 x2 x3)(hc:c≠b):SB (w.setCell ⟨c,i,none⟩ v) b x0 x1 x2 x3 :=
 ⟨by simpa using r.lt,by rw[ak _ _ _ _ (by intro e;injection e;omega)];exact r.c0,by rw[ak _ _ _ _ (by intro e;injection e;omega)];exact r.c1,by rw[ak _ _ _ _ (by intro e;injection e;omega)];exact r.c2,by rw[ak _ _ _ _ (by intro e;injection e;omega)];exact r.c3,λj=>by simpa using r.fr j⟩
theorem Ou {w:World}{b:Nat}{x0 x1 x2 x3:Int}(r:SB w b x0 x1 x2 x3):(loadVar 120 ⟨b,0,none⟩).run prog w=.ok (.agg #[.int .i64 x0,.int .i64 x1,.int .i64 x2,.int .i64 x3]) w:=by
 have hl:(loadCells ⟨b,0,none⟩ 4).run prog w=.ok #[.int .i64 x0,.int .i64 x1,.int .i64 x2,.int .i64 x3] w :=
  run_loadCells_list (P:=prog) w ⟨b,0,none⟩ [.int .i64 x0,.int .i64 x1,.int .i64 x2,.int .i64 x3] (λj v hv=>by
   rw[NZ,Nat.zero_add];match j,hv with
   | 0,hv=>rw[r.c0];simpa using hv
   | 1,hv=>rw[r.c1];simpa using hv
   | 2,hv=>rw[r.c2];simpa using hv
   | 3,hv=>rw[r.c3];simpa using hv)
 have hz:Tryz.t120.size=4:=by kernel_rfl
 simp[loadVar,isAgg,sizeOf];rw[hz,hl];rfl
theorem uF {fn:Func}{a:Tmp}{tmps:Array Value}{w:World}{b:Nat}{x0 x1 x2 x3:Int}(hf:fn.results=#[.cell a 120])(ha:tmps.getD a undef=.pointer (some ⟨b,0,none⟩))(r:SB w b x0 x1 x2 x3) :
 (results fn tmps).run prog w=.ok (.agg #[.int .i64 x0,.int .i64 x1,.int .i64 x2,.int .i64 x3]) w:=by
 have ha':tmps[a]?.getD undef=.pointer (some ⟨b,0,none⟩):=by simpa using ha
 simp[results,hf,ha',asAddr,Ou r]
end Go.Proofs.YtophdoapcdjnjaaGreatDoor.Dk
namespace Go.Proofs.YtophdoapcdjnjaaGreatDoor.Tk
open Go Go.Proofs.Tryz
structure bM where
 n:ByteArray
 f:ByteArray
 fr:Int
 st:Int
 ack:Int
 wait:Int
 bo:List Int
 mo:Int
 pe:Int
 pu:Bool
def dV (t:bM)(nth:Int):Int:=if t.bo=[] then t.wait else (t.bo[(min (max nth 1) (t.bo.length:Int)-1).toNat]?).getD 0
theorem KD {t:bM}(h:t.bo=[])(n:Int):dV t n=t.wait:=by unfold dV;rw[if_pos h]
theorem Bl {t:bM}{n:Int}{k:Nat}(hk:k<t.bo.length)(h:min (max n 1) (t.bo.length:Int)-1=(k:Int)):dV t n=Dk.nth t.bo k:=by
 unfold dV Dk.nth;rw[if_neg (by intro z;rw[z] at hk;simp at hk),h];rfl
end Go.Proofs.YtophdoapcdjnjaaGreatDoor.Tk
namespace Go.Proofs.YtophdoapcdjnjaaGreatDoor.Dk
open Go.RowKit Go.Proofs.Tryz
structure CB (w:World)(b:Nat)(vs:List Value):Prop where
 lt:b<w.heap.size
 cell:∀j u,vs[j]?=some u->w.cell? ⟨b,j,none⟩=some u
 fr:∀j,w.frozen? ⟨b,j,none⟩=false
theorem CB.new (w:World)(vs:List Value)(t:TypeId):CB (w.alloc (.cells vs.toArray t)) w.heap.size vs :=
 ⟨by simp,λj u h=>by rw[cell_of_row _ w.heap.size j _ _ _ (heap_alloc_new w _)];simpa using h,λj=>World.frozen?_alloc_new _ _ _ j⟩
theorem CB.bW {A:Nat->Prop}{w w':World}{b:Nat}{vs:List Value}(h:CB w b vs)(hc:aF A w w')(hn:¬A b):CB w' b vs :=
 ⟨Nat.lt_of_lt_of_le h.lt hc.size,λj u hj=>by rw[hc.cell (p:=⟨b,j,none⟩) h.lt hn];exact h.cell j u hj,λj=>by rw[hc.frozen (p:=⟨b,j,none⟩) h.lt hn];exact h.fr j⟩
theorem CB.next {w w':World}{b:Nat}{vs:List Value}(h:CB w b vs)(hb:Below w.heap.size w w'):CB w' b vs:=h.bW (A:=λ_=>False) (aF.of_below hb) (λz=>z)
theorem CB.jo {w:World}{b:Nat}{vs:List Value}(h:CB w b vs)(us:List Value)(hl:us.length=vs.length):CB (w.setCells b 0 us) b us:=by
 have hs:∀j,j<us.length->(w.cell? ⟨b,0+j,none⟩).isSome=true:=λj hj=>by
  rw[Nat.zero_add,h.cell j vs[j] (List.getElem?_eq_getElem (by omega))];rfl
 refine⟨?_,λj u hj=>?_,λj=>by rw[World.frozen?_setCells];exact h.fr j⟩
 ·have:∀(us:List Value) (o:Nat) (w:World),b<w.heap.size->b<(w.setCells b o us).heap.size:=by
   intro us;induction us with
   | nil=>intro o w h;exact h
   | cons x r ih=>intro o w h;exact ih _ _ (by simpa[World.setCell] using h)
  exact this us 0 w h.lt
 ·have hj2:=(List.getElem?_eq_some_iff.1 hj).1;have:=World.cell?_setCells_in b us 0 w hs j hj2;rw[Nat.zero_add] at this;rw[this,<-hj,List.getElem?_eq_getElem hj2]
theorem jR {w0:World}{b:Nat}(hb:w0.heap.size<=b):∀(us:List Value) (o:Nat) (W:World),Below w0.heap.size w0 W->Below w0.heap.size w0 (W.setCells b o us)
 | [],_,_,h=>h
 | u::r,o,_,h=>jR hb r (o+1) _ (h.setCell hb u)
theorem D8 (b j:Nat):(⟨b,0,none⟩:Addr).add j=⟨b,j,none⟩:=by rw[Addr.add_lit,Nat.zero_add]
structure U9 where
 q:Int
 s:ByteArray
 d:ByteArray
 c:Int
 n:Int
 l:Int
abbrev vw (x:U9):List Value:=[.int .i64 x.q,.string x.s,.string x.d,.int .i64 x.c,.int .i64 x.n,.int .i64 x.l]
abbrev Rj (x:U9):Value:=.agg #[.int .i64 x.q,.string x.s,.string x.d,.int .i64 x.c,.int .i64 x.n,.int .i64 x.l]
def fB:U9:=⟨0,⟨#[]⟩,⟨#[]⟩,0,0,0⟩
abbrev YU (f p c n:Int):Value:=.agg #[.int .i64 f,.int .i64 p,.int .i64 c,.int .i64 n]
theorem Jg {w:World}{b:Nat}{x:U9}(r:CB w b (vw x)):(loadVar 37 ⟨b,0,none⟩).run prog w=.ok (Rj x) w:=by
 have hl:(loadCells ⟨b,0,none⟩ 6).run prog w=.ok #[.int .i64 x.q,.string x.s,.string x.d,.int .i64 x.c,.int .i64 x.n,.int .i64 x.l] w :=
  run_loadCells_list (P:=prog) w ⟨b,0,none⟩ (vw x) (λj v hv=>by rw[D8];exact r.cell j v hv)
 have hz:Tryz.t37.size=6:=by kernel_rfl
 simp[loadVar,isAgg,sizeOf];rw[hz,hl];rfl
theorem D9 {fn:Func}{a:Tmp}{tmps:Array Value}{w:World}{b:Nat}{x:U9}(hf:fn.results=#[.cell a 37])(ha:tmps.getD a undef=.pointer (some ⟨b,0,none⟩))(r:CB w b (vw x)) :
 (results fn tmps).run prog w=.ok (Rj x) w:=by
 have ha':tmps[a]?.getD undef=.pointer (some ⟨b,0,none⟩):=by simpa using ha
 simp[results,hf,ha',asAddr,Jg r]
theorem eF {fn:Func}{a u:Tmp}{tmps:Array Value}{w:World}{b:Nat}{x:U9}(hf:fn.results=#[.cell a 37,.tmp u])(ha:tmps.getD a undef=.pointer (some ⟨b,0,none⟩))(r:CB w b (vw x)) :
 (results fn tmps).run prog w=.ok (.tuple #[Rj x,tmps.getD u undef]) w:=by
 have ha':tmps[a]?.getD undef=.pointer (some ⟨b,0,none⟩):=by simpa using ha
 simp[results,hf,ha',asAddr,Jg r]
theorem SL {w:World}{b:Nat}{f p c n:Int}(r:CB w b [.int .i64 f,.int .i64 p,.int .i64 c,.int .i64 n]):(loadVar 34 ⟨b,0,none⟩).run prog w=.ok (YU f p c n) w:=by
 have hl:(loadCells ⟨b,0,none⟩ 4).run prog w=.ok #[.int .i64 f,.int .i64 p,.int .i64 c,.int .i64 n] w :=
  run_loadCells_list (P:=prog) w ⟨b,0,none⟩ [.int .i64 f,.int .i64 p,.int .i64 c,.int .i64 n] (λj v hv=>by rw[D8];exact r.cell j v hv)
 have hz:Tryz.t34.size=4:=by kernel_rfl
 simp[loadVar,isAgg,sizeOf];rw[hz,hl];rfl
theorem wQ {fn:Func}{a:Tmp}{tmps:Array Value}{w:World}{b:Nat}{f p c n:Int}(hf:fn.results=#[.cell a 34])(ha:tmps.getD a undef=.pointer (some ⟨b,0,none⟩))(r:CB w b [.int .i64 f,.int .i64 p,.int .i64 c,.int .i64 n]) :
 (results fn tmps).run prog w=.ok (YU f p c n) w:=by
 have ha':tmps[a]?.getD undef=.pointer (some ⟨b,0,none⟩):=by simpa using ha
 simp[results,hf,ha',asAddr,SL r]
end Go.Proofs.YtophdoapcdjnjaaGreatDoor.Dk
namespace Go.Proofs.YtophdoapcdjnjaaGreatDoor
open Go.RowKit Go.Proofs.Tryz
abbrev qZ (t:Tk.bM)(a:Option Addr)(c:Nat):Value:=.agg #[.string t.n,.string t.f,.int .i64 t.fr,.int .i64 t.st,.int .i64 t.ack,.int .i64 t.wait,.slice a t.bo.length c,.int .i64 t.mo,.int .i64 t.pe,.bool t.pu]
abbrev vC (t:Tk.bM)(a:Option Addr)(c:Nat):Obj:=.cells #[.string t.n,.string t.f,.int .i64 t.fr,.int .i64 t.st,.int .i64 t.ack,.int .i64 t.wait,.slice a t.bo.length c,.int .i64 t.mo,.int .i64 t.pe,.bool t.pu] 24
structure TB (w:World)(b:Nat)(t:Tk.bM)(a:Option Addr)(c:Nat):Prop where
 lt:b<w.heap.size
 c0:w.cell? ⟨b,0,none⟩=some (.string t.n)
 c1:w.cell? ⟨b,1,none⟩=some (.string t.f)
 c2:w.cell? ⟨b,2,none⟩=some (.int .i64 t.fr)
 c3:w.cell? ⟨b,3,none⟩=some (.int .i64 t.st)
 c4:w.cell? ⟨b,4,none⟩=some (.int .i64 t.ack)
 c5:w.cell? ⟨b,5,none⟩=some (.int .i64 t.wait)
 c6:w.cell? ⟨b,6,none⟩=some (.slice a t.bo.length c)
 c7:w.cell? ⟨b,7,none⟩=some (.int .i64 t.mo)
 c8:w.cell? ⟨b,8,none⟩=some (.int .i64 t.pe)
 c9:w.cell? ⟨b,9,none⟩=some (.bool t.pu)
theorem TB.same {w w':World}{b:Nat}{t:Tk.bM}{a:Option Addr}{c:Nat}(h:TB w b t a c)(hs:w.heap.size<=w'.heap.size)(e:∀j,w'.cell? ⟨b,j,none⟩=w.cell? ⟨b,j,none⟩):TB w' b t a c :=
 ⟨Nat.lt_of_lt_of_le h.lt hs,by rw[e];exact h.c0,by rw[e];exact h.c1,by rw[e];exact h.c2,by rw[e];exact h.c3,by rw[e];exact h.c4,by rw[e];exact h.c5,by rw[e];exact h.c6,by rw[e];exact h.c7,by rw[e];exact h.c8,by rw[e];exact h.c9⟩
theorem TB.next {w w':World}{b:Nat}{t:Tk.bM}{a:Option Addr}{c:Nat}(h:TB w b t a c)(hb:Below w.heap.size w w'):TB w' b t a c:=h.same hb.size (λj=>hb.cell (p:=⟨b,j,none⟩) h.lt)
theorem TB.new (w:World)(t:Tk.bM)(a:Option Addr)(c:Nat):TB (w.alloc (vC t a c)) w.heap.size t a c:=⟨by simp,by simp,by simp,by simp,by simp,by simp,by simp,by simp,by simp,by simp,by simp⟩
theorem bY {w w':World}{a:Option Addr}{l:List Int}(h:Dk.jm w a l)(hb:Below w.heap.size w w'):Dk.jm w' a l:=λk hk=>by
 obtain⟨b,o,h1,h2,h3⟩:=h k hk;exact⟨b,o,h1,Nat.lt_of_lt_of_le h2 hb.size,by rw[hb.cell (p:=⟨b,o+k,none⟩) h2];exact h3⟩
structure jq (t:Tk.bM):Prop where
 name:t.n.size<=140737488355328
 filt:t.f.size<=140737488355328
 many:t.bo.length<=140737488355328
end Go.Proofs.YtophdoapcdjnjaaGreatDoor
namespace Go.Proofs.YtophdoapcdjnjaaGreatDoor.Dk
open Go.RowKit Go.Proofs.Tryz
def Nums (w:World)(B:Nat)(v:Value)(l:List Int):Prop:=w.ownsRow B 3 1 v l.length (l.map (Value.int .i64))
theorem Ea:(prog.info? 3).map (λi=>(i.zero,i.size,i.bytes))=some (some (.int .i64 0),1,8):=by kernel_rfl
theorem one_num (n:Int):∀u∈[Value.int .i64 n],u.oneCell'=true:=by
 intro u hu;simp at hu;subst hu;rfl
theorem WY {w0 wr w1:World}{v v':Value}{l:List Int}{n:Int}{o:Obj}(hown:Nums wr w0.heap.size v l)(hb:Below w0.heap.size w0 wr)
 (h1:w1.ownsRow w0.heap.size 3 1 v' (l.length+1) ((l.map (Value.int .i64))++[.int .i64 n])) (hg:(wr.alloc o).grownBy w1 v.ownBlock) :
 Nums w1 w0.heap.size v' (l++[n])/\Below w0.heap.size w0 w1:=by
 refine⟨?_,?_⟩
 ·unfold Nums;rw[List.map_append,List.map_cons,List.map_nil,List.length_append];exact h1
 ·have hs:=hb.size;refine(hb.alloc (by omega) o).grown hg (by simp;omega) ?_;intro j hj;exact(World.ownsRow.lt hown j hj).1
theorem Nums.sl {w:World}{B:Nat}{v:Value}{l:List Int}(h:Nums w B v l):∃a cap,v=.slice a l.length cap/\jm w a l:=by
 rcases h.2 with ⟨h1,h2⟩|⟨g,cap,cur,h1,h2,h3,h4,h5,h6,h7⟩
 ·exact⟨none,0,by rw[h1,h2],λk hk=>by omega⟩
 ·refine⟨_,cap,h1,λk hk=>⟨g,0,rfl,(h.lt g (by rw[h1];rfl)).2,?_⟩⟩;rw[Nat.zero_add];rw[h1] at h;rw[World.ownsRow.cellAt h _ (by omega)];rw[List.getElem?_map,List.getElem?_eq_getElem hk];unfold nth;rw[List.getElem?_eq_getElem hk];rfl
theorem Nums.below {w w':World}{B:Nat}{v:Value}{l:List Int}(h:Nums w B v l)(hb:Below w.heap.size w w'):Nums w' B v l:=by
 refine⟨h.1,?_⟩;rcases h.2 with q|⟨g,cap,cur,h1,h2,h3,r⟩
 ·exact .inl q
 ·refine .inr ⟨g,cap,cur,h1,h2,?_,r⟩;rw[hb.block g (World.ownsRow.lt h g (by rw[h1];rfl)).2];exact h3
theorem Nums.bW {A:Nat->Prop}{w w':World}{B:Nat}{v:Value}{l:List Int}(h:Nums w B v l)(hb:aF A w w')(hn:∀g,B<=g->¬A g):Nums w' B v l:=by
 refine⟨h.1,?_⟩;rcases h.2 with q|⟨g,cap,cur,h1,h2,h3,r⟩
 ·exact .inl q
 ·refine .inr ⟨g,cap,cur,h1,h2,?_,r⟩;rw[hb.block g (World.ownsRow.lt h g (by rw[h1];rfl)).2 (hn g h2)];exact h3
theorem Nums.shape {w:World}{B:Nat}{v:Value}{l:List Int}(h:Nums w B v l):∃a cap,v=.slice a l.length cap/\l.length<=cap/\cap<=maxLen:=by
 rcases h.2 with ⟨h1,h2⟩|⟨g,cap,cur,h1,h2,h3,h4,h5,h6⟩
 ·exact⟨none,0,by rw[h1,h2],by omega,by unfold maxLen;omega⟩
 ·exact⟨_,cap,h1,h4,h5⟩
theorem Gj (w:World)(B:Nat)(ty:TypeId)(v:Value)(l:List Int)(n:Int)(ha:Nums w B v l)(a:Addr)(c:Nat)(hnews:w.cell? a=some (.int .i64 n))(hl:l.length<=200000)(hB:B<=w.heap.size) :
 ∃v' w',(Builtin.append_ #[22,22] ty #[v,.slice (some a) 1 c]).run prog w=.ok v' w'/\Nums w' B v' (l++[n])/\aF (λk=>v.ownBlock=some k) w w':=by
 obtain⟨i0,hi,hz0,hz1,hz2⟩:=info_parts Ea;obtain⟨v',w',hr,h2,h3,h4⟩:=run_append_own (P:=prog) w B 22 ty 3 i0 _ 1 8 underlying22 hi hz0 hz1 hz2 rfl (by omega) v l.length (l.map (Value.int .i64)) ha a 1 c [.int .i64 n] rfl (λj u hj=>by
  match j,hj with
  | 0,hj =>
   rw[show a.add 0=a from rfl,hnews];simpa using hj) (one_num n) (by unfold maxLen;omega) (by omega) hB
 refine⟨v',w',hr,?_,aF.cu h3⟩;unfold Nums;rw[List.length_append,List.map_append];exact h2
structure lU where
 a:Value
 b:Value
 c:Value
def KE (x:lU):Prop:=x.a.oneCell'=true/\x.b.oneCell'=true/\x.c.oneCell'=true
abbrev aao (x:lU):Value:=.agg #[x.a,x.b,x.c]
def noT:lU:=⟨.bool false,.bool false,.bool false⟩
def tr (l:List lU)(k:Nat):lU:=l[k]?.getD noT
theorem Gl {l:List lU}{k:Nat}(h:k<l.length):tr l k=l[k]:=by unfold tr;rw[List.getElem?_eq_getElem h];rfl
theorem Zp {l:List lU}{k:Nat}(h:k<l.length):tr l k∈l:=by rw[Gl h];exact List.getElem_mem _
def aH:List lU->List Value
 | []=>[]
 | x::l=>x.a::x.b::x.c::aH l
theorem aS:∀l:List lU,(aH l).length=l.length*3
 | []=>rfl
 | x::l=>by simp[aH,aS l];omega
theorem bF:∀a b:List lU,aH (a++b)=aH a++aH b
 | [],_=>rfl
 | x::a,b=>by simp[aH,bF a b]
theorem sW:∀(l:List lU) (k:Nat),aH (l.take k)=(aH l).take (k*3)
 | [],k=>by simp[aH]
 | x::l,0=>by simp[aH]
 | x::l,k+1=>by rw[show(k+1)*3=k*3+1+1+1 by omega];simp[aH,sW l k]
theorem sZ:∀(l:List lU) (k:Nat),aH (l.drop k)=(aH l).drop (k*3)
 | [],k=>by simp[aH]
 | x::l,0=>by simp[aH]
 | x::l,k+1=>by rw[show(k+1)*3=k*3+1+1+1 by omega];simp[aH,sZ l k]
theorem ru:∀(l:List lU),(∀x∈l,KE x)->∀v∈aH l,v.oneCell'=true
 | [],_,v,h=>by simp[aH] at h
 | x::l,o,v,h=>by
  have ox:=o x (by simp);simp only[aH,List.mem_cons] at h;rcases h with h|h|h|h
  ·subst h;exact ox.1
  ·subst h;exact ox.2.1
  ·subst h;exact ox.2.2
  ·exact ru l (λy hy=>o y (by simp[hy])) v h
theorem Bo:∀(l:List lU) (k:Nat),k<l.length->(aH l)[k*3]?=some (tr l k).a/\(aH l)[k*3+1]?=some (tr l k).b/\(aH l)[k*3+2]?=some (tr l k).c
 | [],k,h=>absurd h (Nat.not_lt_zero k)
 | x::l,0,_=>⟨rfl,rfl,rfl⟩
 | x::l,k+1,h=>by
  rw[show(k+1)*3=k*3+1+1+1 by omega];have:=Bo l k (by simpa using h);have e:tr (x::l) (k+1)=tr l k:=rfl;rw[e];exact this
theorem Ov (l:List lU)(k:Nat)(x:lU)(h:k<l.length):(aH l).take (k*3)++[x.a,x.b,x.c]++(aH l).drop (k*3+3)=aH (l.set k x):=by
 have e:l.set k x=l.take k++x::l.drop (k+1):=by rw[List.set_eq_take_append_cons_drop,if_pos h]
 rw[e,bF,sW,show aH (x::l.drop (k+1))=[x.a,x.b,x.c]++aH (l.drop (k+1)) from rfl,sZ,show(k+1)*3=k*3+3 by omega,List.append_assoc]
def bH (t:TypeId)(w:World)(B:Nat)(v:Value)(l:List lU):Prop:=w.ownsRow B t 3 v l.length (aH l)
theorem bH.empty (t:TypeId)(w:World)(B:Nat):bH t w B (.slice none 0 0) []:=World.ownsRow_nil w B _ 3
theorem bH.bW {t:TypeId}{A:Nat->Prop}{w w':World}{B:Nat}{v:Value}{l:List lU}(h:bH t w B v l)(hb:aF A w w')(hn:∀g,v.ownBlock=some g->¬A g):bH t w' B v l:=by
 refine⟨h.1,?_⟩;rcases h.2 with q|⟨g,cap,cur,h1,h2,h3,r⟩
 ·exact .inl q
 ·refine .inr ⟨g,cap,cur,h1,h2,?_,r⟩;rw[hb.block g (h.lt g (by rw[h1];rfl)).2 (hn g (by rw[h1];rfl))];exact h3
theorem bH.below {t:TypeId}{w w':World}{B:Nat}{v:Value}{l:List lU}(h:bH t w B v l)(hb:Below w.heap.size w w'):bH t w' B v l:=h.bW (A:=λ_=>False) (aF.of_below hb) (λ_ _ z=>z)
theorem bH.low {t:TypeId}{w:World}{B B':Nat}{v:Value}{l:List lU}(h:bH t w B v l)(hB:B'<=B):bH t w B' v l:=by
 refine⟨h.1,?_⟩;rcases h.2 with q|⟨g,cap,cur,h1,h2,r⟩
 ·exact .inl q
 ·exact .inr ⟨g,cap,cur,h1,Nat.le_trans hB h2,r⟩
theorem bH.there {t:TypeId}{w:World}{B:Nat}{v:Value}{l:List lU}(h:bH t w B v l)(hn:0<l.length):∃g cap,v=.slice (some ⟨g,0,none⟩) l.length cap/\l.length<=cap/\cap<=maxLen/\B<=g/\g<w.heap.size:=by
 rcases h.2 with ⟨h1,h2⟩|⟨g,cap,cur,h1,h2,h3,h4,h5,h6,h7⟩
 ·omega
 ·exact⟨g,cap,h1,h4,h5,h.lt g (by rw[h1];rfl)⟩
theorem bH.cell {t:TypeId}{w:World}{B g cap n:Nat}{l:List lU}(h:bH t w B (.slice (some ⟨g,0,none⟩) n cap) l)(j:Nat)(u:Value)(hj:(aH l)[j]?=some u):w.cell? ⟨g,j,none⟩=some u:=by
 have hl:j<l.length*3:=by
  rw[<-aS];rcases Nat.lt_or_ge j (aH l).length with q|q
  ·exact q
  ·rw[List.getElem?_eq_none q] at hj;cases hj
 have hn:n=l.length:=by
  rcases h.2 with ⟨h1,h2⟩|⟨g',cap',cur,h1,_⟩
  ·cases h1
  ·injection h1
 subst hn;rw[World.ownsRow.cellAt h _ hl];exact hj
structure XH (w:World)(b o:Nat)(x:lU):Prop where
 lt:b<w.heap.size
 c0:w.cell? ⟨b,o,none⟩=some x.a
 c1:w.cell? ⟨b,o+1,none⟩=some x.b
 c2:w.cell? ⟨b,o+2,none⟩=some x.c
theorem XH.bW {A:Nat->Prop}{w w':World}{b o:Nat}{x:lU}(h:XH w b o x)(hc:aF A w w')(hn:¬A b):XH w' b o x :=
 ⟨Nat.lt_of_lt_of_le h.lt hc.size,by rw[hc.cell (p:=⟨b,o,none⟩) h.lt hn];exact h.c0,by rw[hc.cell (p:=⟨b,o+1,none⟩) h.lt hn];exact h.c1,by rw[hc.cell (p:=⟨b,o+2,none⟩) h.lt hn];exact h.c2⟩
def VH (w:World)(a:Option Addr)(l:List lU):Prop:=∀k,k<l.length->∃b o,a=some ⟨b,o,none⟩/\XH w b (o+k*3) (tr l k)
theorem VH.bW {A:Nat->Prop}{w w':World}{a:Option Addr}{l:List lU}(h:VH w a l)(hc:aF A w w')(hn:∀p,a=some p->¬A p.block):VH w' a l:=λk hk=>by
 obtain⟨b,o,h1,h2⟩:=h k hk;exact⟨b,o,h1,h2.bW hc (hn _ h1)⟩
theorem VH.below {w w':World}{a:Option Addr}{l:List lU}(h:VH w a l)(hb:Below w.heap.size w w'):VH w' a l:=h.bW (A:=λ_=>False) (aF.of_below hb) (λ_ _ z=>z)
theorem bH.at {t:TypeId}{w:World}{B g cap n:Nat}{l:List lU}(h:bH t w B (.slice (some ⟨g,0,none⟩) n cap) l){k:Nat}(hk:k<l.length):XH w g (k*3) (tr l k):=by
 have hat:=Bo l k hk;exact⟨(h.lt g rfl).2,h.cell _ _ hat.1,h.cell _ _ hat.2.1,h.cell _ _ hat.2.2⟩
theorem bH.shape {t:TypeId}{w:World}{B:Nat}{v:Value}{l:List lU}(h:bH t w B v l):∃a cap,v=.slice a l.length cap/\l.length<=cap/\cap<=maxLen/\VH w a l/\∀p,a=some p->v.ownBlock=some p.block:=by
 rcases h.2 with ⟨h1,h2⟩|⟨g,cap,cur,h1,h2,h3,h4,h5,h6,h7⟩
 ·exact⟨none,0,by rw[h1,h2],by omega,by simp[maxLen],λk hk=>by omega,λp hp=>by cases hp⟩
 ·refine⟨_,cap,h1,h4,h5,λk hk=>⟨g,0,rfl,?_⟩,λp hp=>by cases hp;rw[h1];rfl⟩;rw[h1] at h;rw[Nat.zero_add];exact bH.at h hk
theorem bH.free {t:TypeId}{w:World}{B g cap n:Nat}{l:List lU}(h:bH t w B (.slice (some ⟨g,0,none⟩) n cap) l):(∀j,w.frozen? ⟨g,j,none⟩=false)/\∀j,j<cap*3->(w.cell? ⟨g,j,none⟩).isSome=true:=by
 rcases h.2 with ⟨q,_⟩|⟨g',cap',cur,q,h2,h3,h4,h5,h6,h7⟩
 ·cases q
 ·simp only[Value.slice.injEq,Option.some.injEq,Addr.mk.injEq,and_true] at q;obtain⟨rfl,_,rfl⟩:=q;refine⟨λj=>frozen_of_row w g j _ _ h3,λj hj=>?_⟩;rw[cell_of_row w g j _ _ _ h3,Array.getElem?_eq_getElem (by omega)];rfl
theorem jL {B g cap n:Nat}{e:TypeId}{size:Nat}:∀(vs:List Value) (o:Nat) (w:World) (xs:List Value),w.ownsRow B e size (.slice (some ⟨g,0,none⟩) n cap) n xs->o+vs.length<=xs.length->(w.setCells g o vs).ownsRow B e size (.slice (some ⟨g,0,none⟩) n cap) n (xs.take o++vs++xs.drop (o+vs.length))
 | [],o,w,xs,h,_=>by simpa[World.setCells] using h
 | v::r,o,w,xs,h,hl=>by
  have h1:=(World.ownsRow.stored h o v).1;have h2:=jL r (o+1) _ _ h1 (by simp at hl ⊢;omega);rw[World.setCells];have e:=list_seg_step xs o v r (by simpa using hl);rw[e] at h2;exact h2
theorem lI {g:Nat}:∀(vs:List Value) (o:Nat) (w:World),aF (λk=>k=g) w (w.setCells g o vs)
 | [],o,w=>aF.refl _ _
 | v::r,o,w=>by
  rw[World.setCells];exact(aF.setCell (A:=λk=>k=g) (p:=⟨g,o,none⟩) (aF.refl _ _) (.inl rfl) v).trans (lI r (o+1) _)
theorem rC {B g cap n k:Nat}{e:TypeId}{size:Nat}{w:World}{xs:List Value}(h:w.ownsRow B e size (.slice (some ⟨g,0,none⟩) n cap) n xs)(hk:k<=n):w.ownsRow B e size (.slice (some ⟨g,0,none⟩) k cap) k (xs.take (k*size)):=by
 have hks:k*size<=n*size:=Nat.mul_le_mul_right _ hk;refine⟨by rw[List.length_take,h.1];omega,?_⟩;rcases h.2 with ⟨q,_⟩|⟨g',cap',cur,q,h2,h3,h4,h5,h6,h7⟩
 ·cases q
 ·simp only[Value.slice.injEq,Option.some.injEq,Addr.mk.injEq,and_true] at q;obtain⟨rfl,_,rfl⟩:=q;exact .inr ⟨g,cap,cur,rfl,h2,h3,by omega,h5,h6,by rw[<-h7,List.take_take,Nat.min_eq_left hks]⟩
theorem bH.set {t:TypeId}{w:World}{B g cap:Nat}{l:List lU}(h:bH t w B (.slice (some ⟨g,0,none⟩) l.length cap) l){k:Nat}(hk:k<l.length)(x:lU):bH t (w.setCells g (k*3) [x.a,x.b,x.c]) B (.slice (some ⟨g,0,none⟩) l.length cap) (l.set k x):=by
 have o:=jL [x.a,x.b,x.c] (k*3) w _ h (by rw[aS];simp;omega);rw[show k*3+[x.a,x.b,x.c].length=k*3+3 from rfl,Ov l k x hk] at o;unfold bH;rw[List.length_set];exact o
theorem bH.cut {t:TypeId}{w:World}{B g cap:Nat}{a r:List lU}(h:bH t w B (.slice (some ⟨g,0,none⟩) (a++r).length cap) (a++r))(z:List Value)(hz:z.length=r.length*3):bH t (w.setCells g (a.length*3) z) B (.slice (some ⟨g,0,none⟩) a.length cap) a:=by
 have o:=jL z (a.length*3) w _ h (by rw[aS,List.length_append,hz];omega);have o2:=rC (k:=a.length) o (by rw[List.length_append];omega);have e:((aH (a++r)).take (a.length*3)++z++(aH (a++r)).drop (a.length*3+z.length)).take (a.length*3)=aH a:=by
  have ha:=aS a;have e1:(aH (a++r)).take (a.length*3)=aH a:=by rw[bF,List.take_append_of_le_length (by omega),List.take_of_length_le (by omega)]
  rw[e1,List.append_assoc,List.take_append_of_le_length (by omega),List.take_of_length_le (by omega)]
 rw[e] at o2;exact o2
theorem SN (w:World)(x:lU)(t:TypeId):∀j u,(aH [x])[j]?=some u->(w.alloc (.cells #[x.a,x.b,x.c] t)).cell? ((⟨w.heap.size,0,none⟩:Addr).add j)=some u:=by
 intro j u hj;rw[Addr.add_lit,Nat.zero_add,cell_of_row _ w.heap.size j _ _ _ (heap_alloc_new w _)];simpa[aH] using hj
theorem Gm {P:Program}(st t:TypeId)(z:Value)(by':Nat)(hu:P.underlying st=some (.slice t))(hinfo:(P.info? t).map (λi=>(i.zero,i.size,i.bytes))=some (some z,3,by'))(hzc:z.cells.size=3)(hby:0<by'/\by'<=24)
 (w:World) (B:Nat) (ty:TypeId) (v:Value) (l fs:List lU) (ha:bH t w B v l) (a:Addr) (c:Nat) (hnews:∀j u,(aH fs)[j]?=some u->w.cell? (a.add j)=some u) (ho:∀x∈fs,KE x) (hl:l.length+fs.length<=1000000) (hB:B<=w.heap.size) :
 ∃v' w',(Builtin.append_ #[st,st] ty #[v,.slice (some a) fs.length c]).run P w=.ok v' w'/\bH t w' B v' (l++fs)/\aF (λk=>v.ownBlock=some k) w w'/\∀g,v'.ownBlock=some g->v.ownBlock=some g\/w.heap.size<=g:=by
 obtain⟨i0,hi,hz0,hz1,hz2⟩:=info_parts hinfo;have hlen:(aH fs).length=fs.length*3:=aS fs;have hmul:(l.length+fs.length)*by'<=1000000*24:=Nat.mul_le_mul hl hby.2;have aaf:fs.length*by'<=1000000*24:=Nat.mul_le_mul (by omega) hby.2;obtain⟨v',w',hr,h2,h3,h4⟩:=run_append_own (P:=P) w B st ty t i0 _ 3 by' hu hi hz0 hz1 hz2 hzc (by omega) v l.length (aH l) ha a fs.length c (aH fs) hlen hnews (ru fs ho) (by unfold maxLen;omega) (by omega) hB;refine⟨v',w',hr,?_,aF.cu h3,λk hk=>?_⟩
 ·unfold bH;rw[List.length_append,bF];exact h2
 ·rcases ha.2 with ⟨rfl,hn⟩|⟨g,cap,cur,rfl,hbg,hg,hnc,hcm,hcs,htake⟩
  ·by_cases hm:fs.length=0
   ·rw[h4.2 ⟨rfl,hm⟩] at hk;cases hk
   ·right;have hr2:=run_append_nil (P:=P) w st ty t i0 _ hu hi hz0 a fs.length c (aH fs) (by rw[hz1];exact hlen) hnews (by omega) (by omega) (by rw[hz2];omega);rw[hr] at hr2
    cases hr2
    simp only[Value.ownBlock,Option.some.injEq] at hk;omega
  ·by_cases hroom:l.length+fs.length<=cap
   ·left;obtain⟨w2,hr2,_,_⟩:=run_append_fits (P:=P) w B st ty t i0 3 hu hi hz1 g l.length cap (aH l) ha a fs.length c (aH fs) hlen hnews (ru fs ho) hroom;rw[hr] at hr2
    cases hr2
    exact hk
   ·right;have hr2:=run_append_grow (P:=P) w st ty t i0 _ hu hi hz0 ⟨g,0,none⟩ l.length cap (aH l) (by rw[hz1];exact ha.1) (World.ownsRow.cells ha (g:=g) rfl) a fs.length c (aH fs) (by rw[hz1];exact hlen) hnews (by omega) (by omega) (by rw[hz2];exact growslice_fits (by omega) (by omega));rw[hr] at hr2
    cases hr2
    simp only[Value.ownBlock,Option.some.injEq] at hk;omega
def FY (z:Value)(n:Nat):List Value:=(Builtin.zeroCells z.cells n).toList
theorem l7 (z:Value)(n:Nat)(h:z.cells.size=3):(FY z n).length=n*3:=by
 unfold FY;rw[Array.length_toList,size_zeroCells,h]
theorem pz {P:Program}(st t ty:TypeId)(z:Value)(hu:P.underlying st=some (.slice t))(hv:∀w,(zeroValue t).run P w=.ok z w)(hz:z.cells.size=3)(h1:∀j,j<3->(z.cells[j]!).oneCell'=true)(w:World)(b o n c:Nat)(hn:0<n)
 (hc:∀j,j<n*3->(w.cell? ⟨b,o+j,none⟩).isSome=true) (hf:∀j,j<n*3->w.frozen? ⟨b,o+j,none⟩=false) :
 (Builtin.clear_ #[st] ty #[.slice (some ⟨b,o,none⟩) n c]).run P w=.ok (.tuple #[]) (w.setCells b o (FY z n)):=by
 have hl:=l7 z n hz;have hst:=run_storeCells_cells (P:=P) b o (FY z n) 0 w (by rw[hl];simpa using hc) (by rw[hl];simpa using hf) (by
  intro v hv';unfold FY Builtin.zeroCells at hv';rw[Array.mem_toList_iff,Array.mem_map] at hv';obtain⟨i,hi,rfl⟩:=hv';rw[hz];exact h1 _ (Nat.mod_lt _ (by omega)))
 simp only[Nat.add_zero] at hst;obtain⟨m,rfl⟩:∃m,n=m+1:=⟨n-1,by omega⟩;unfold FY at hst ⊢;simp[Builtin.clear_,run_underlying hu,hv,hst]
section
variable {α:Type}
def dK (p:α->Bool)(l:List α)(j:Nat):List α:=(l.take j).filter (λx=>!p x)
def jE (p:α->Bool)(l:List α)(j:Nat):List α:=dK p l j++l.drop (dK p l j).length
theorem Eb (p:α->Bool)(l:List α)(j:Nat):(dK p l j).length<=j:=by
 unfold dK;exact Nat.le_trans (List.length_filter_le _ _) (by rw[List.length_take];omega)
theorem KF (p:α->Bool)(l:List α)(j:Nat):(dK p l j).length<=l.length:=by
 unfold dK;exact Nat.le_trans (List.length_filter_le _ _) (by rw[List.length_take];omega)
theorem ql {p:α->Bool}{l:List α}{j:Nat}(h:j<l.length)(hp:p l[j]=true):dK p l (j+1)=dK p l j:=by
 unfold dK;rw[List.take_succ_eq_append_getElem h,List.filter_append];simp[hp]
theorem wR {p:α->Bool}{l:List α}{j:Nat}(h:j<l.length)(hp:p l[j]=false):dK p l (j+1)=dK p l j++[l[j]]:=by
 unfold dK;rw[List.take_succ_eq_append_getElem h,List.filter_append];simp[hp]
theorem KG (p:α->Bool)(l:List α):dK p l l.length=l.filter (λx=>!p x):=by
 unfold dK;rw[List.take_length]
theorem kH (p:α->Bool)(l:List α)(j:Nat):(jE p l j).length=l.length:=by
 have:=KF p l j;unfold jE;rw[List.length_append,List.length_drop];omega
theorem SQ {p:α->Bool}{l:List α}{j:Nat}(h:j<l.length)(h':j<(jE p l j).length):(jE p l j)[j]=l[j]:=by
 have:=Eb p l j;have e:(jE p l j)[j]?=some l[j]:=by
  unfold jE;rw[List.getElem?_append_right (by omega),List.getElem?_drop,show(dK p l j).length+(j-(dK p l j).length)=j by omega,List.getElem?_eq_getElem h]
 rw[List.getElem?_eq_getElem h'] at e;exact Option.some.inj e
theorem KH {p:α->Bool}{l:List α}{j:Nat}(h:j<l.length)(hp:p l[j]=true):jE p l (j+1)=jE p l j:=by
 unfold jE;rw[ql h hp]
theorem KI {p:α->Bool}{l:List α}{j:Nat}(h:j<l.length)(hp:p l[j]=false):jE p l (j+1)=(jE p l j).set (dK p l j).length l[j]:=by
 have:=Eb p l j;unfold jE;rw[wR h hp,List.length_append,List.length_singleton,List.set_append_right _ _ (Nat.le_refl _),Nat.sub_self,List.append_assoc];congr 1
 rw[List.drop_eq_getElem_cons (show(dK p l j).length<l.length by omega)];rfl
theorem Ec {p:α->Bool}{l:List α}{i:Nat}(h:i<l.length)(hlo:∀k (hk:k<l.length),k<i->p l[k]=false)(hp:p l[i]=true):dK p l (i+1)=l.take i:=by
 rw[ql h hp];unfold dK;rw[List.filter_eq_self];intro x hx;obtain⟨k,hk,rfl⟩:=List.mem_iff_getElem.1 hx;rw[List.length_take] at hk;rw[List.getElem_take,hlo k (by omega) (by omega)];rfl
theorem Gn {p:α->Bool}{l:List α}{i:Nat}(h:i<l.length)(hlo:∀k (hk:k<l.length),k<i->p l[k]=false)(hp:p l[i]=true):(dK p l (i+1)).length=i/\jE p l (i+1)=l:=by
 have e:=Ec h hlo hp;have e2:(dK p l (i+1)).length=i:=by rw[e,List.length_take];omega
 refine⟨e2,?_⟩;unfold jE;rw[e2,e,List.take_append_drop]
theorem Bq {p:α->Bool}{l:List α}(h:∀k (hk:k<l.length),p l[k]=false):l.filter (λx=>!p x)=l:=by
 rw[List.filter_eq_self];intro x hx;obtain⟨k,hk,rfl⟩:=List.mem_iff_getElem.1 hx;rw[h k hk];rfl
end
def yN {α:Type}(p:α->Bool)(l:List α):Int:=if l.findIdx p<l.length then (l.findIdx p:Int) else -1
theorem Ox {α:Type}{p:α->Bool}{l:List α}{i:Nat}(h:i<l.length)(hi:p l[i]=true)(hlo:∀k (hk:k<l.length),k<i->p l[k]=false):yN p l=(i:Int):=by
 have e:l.findIdx p=i:=by
  rw[List.findIdx_eq h];exact⟨hi,λj hj=>by simpa using hlo j (by omega) hj⟩
 unfold yN;rw[e,if_pos h]
theorem KJ {α:Type}{p:α->Bool}{l:List α}(h:∀k (hk:k<l.length),p l[k]=false):yN p l=-1:=by
 have e:l.findIdx p=l.length:=by
  rw[List.findIdx_eq_length];intro x hx;obtain⟨k,hk,rfl⟩:=List.mem_iff_getElem.1 hx;exact h k hk
 unfold yN;rw[e,if_neg (Nat.lt_irrefl _)]
theorem KL {α:Type}(p:α->Bool)(l:List α):(yN p l=-1/\∀k (hk:k<l.length),p l[k]=false)\/∃i,∃h:i<l.length,yN p l=(i:Int)/\p l[i]=true/\∀k (hk:k<l.length),k<i->p l[k]=false:=by
 by_cases h:l.findIdx p<l.length
 ·refine .inr ⟨l.findIdx p,h,by unfold yN;rw[if_pos h],List.findIdx_getElem,λk hk hlt=>by simpa using List.not_of_lt_findIdx hlt⟩
 ·refine .inl ⟨by unfold yN;rw[if_neg h],λk hk=>?_⟩;have:=List.findIdx_eq_length.1 (Nat.le_antisymm List.findIdx_le_length (Nat.le_of_not_lt h));exact this _ (List.getElem_mem _)
end Go.Proofs.YtophdoapcdjnjaaGreatDoor.Dk
namespace Go.Proofs.YtophdoapcdjnjaaGreatDoor
open Go.Joins Go.Deep Go.WideShapes Go.ChangeShapes Go.ChangeAt Go.RowKit Go.Proofs.Tryz
section
variable {H:Type}{enc:TypeId×Value->H}{P:Program}{w:World}{base:Nat}{spare:Nat->Bool}{held:Bool}
theorem SS {α:Type}{cs:Array α}(h:cs.size=10):∃c0 c1 c2 c3 c4 c5 c6 c7 c8 c9,cs=#[c0,c1,c2,c3,c4,c5,c6,c7,c8,c9]:=by
 obtain⟨l⟩:=cs;match l,h with
 | [c0,c1,c2,c3,c4,c5,c6,c7,c8,c9],_=>exact⟨c0,c1,c2,c3,c4,c5,c6,c7,c8,c9,rfl⟩
theorem yO {t:TypeId}{f0 f1 f2 f3 f4 f5 f6 f7 f8 f9:Field}{fuel:Nat}{cs:List Value}{x:DataW H×List MemPlace}(ht:P.underlying t=some (.struct #[f0,f1,f2,f3,f4,f5,f6,f7,f8,f9]))(h:DataW.trod enc P w base spare held fuel t cs=some x) :
 ∃y0 y1 y2 y3 y4 y5 y6 y7 y8 y9 n,x=(.agg [y0.1,y1.1,y2.1,y3.1,y4.1,y5.1,y6.1,y7.1,y8.1,y9.1],y0.2++(y1.2++(y2.2++(y3.2++(y4.2++(y5.2++(y6.2++(y7.2++(y8.2++(y9.2))))))))))/\DataW.trod enc P w base spare held n f0.type ((cs.drop f0.offset).take (P.cellsOf f0.type))=some y0/\DataW.trod enc P w base spare held n f1.type ((cs.drop f1.offset).take (P.cellsOf f1.type))=some y1/\DataW.trod enc P w base spare held n f2.type ((cs.drop f2.offset).take (P.cellsOf f2.type))=some y2/\DataW.trod enc P w base spare held n f3.type ((cs.drop f3.offset).take (P.cellsOf f3.type))=some y3/\DataW.trod enc P w base spare held n f4.type ((cs.drop f4.offset).take (P.cellsOf f4.type))=some y4/\DataW.trod enc P w base spare held n f5.type ((cs.drop f5.offset).take (P.cellsOf f5.type))=some y5/\DataW.trod enc P w base spare held n f6.type ((cs.drop f6.offset).take (P.cellsOf f6.type))=some y6/\DataW.trod enc P w base spare held n f7.type ((cs.drop f7.offset).take (P.cellsOf f7.type))=some y7/\DataW.trod enc P w base spare held n f8.type ((cs.drop f8.offset).take (P.cellsOf f8.type))=some y8/\DataW.trod enc P w base spare held n f9.type ((cs.drop f9.offset).take (P.cellsOf f9.type))=some y9:=by
 obtain⟨xs,n,_,rfl,hl,hlen,hf⟩:=DataW.trod_struct ht h;match xs,hlen with
 | [y0,y1,y2,y3,y4,y5,y6,y7,y8,y9],_=>exact⟨y0,y1,y2,y3,y4,y5,y6,y7,y8,y9,n,by simp,by simpa using hf 0 f0 rfl,by simpa using hf 1 f1 rfl,by simpa using hf 2 f2 rfl,by simpa using hf 3 f3 rfl,by simpa using hf 4 f4 rfl,by simpa using hf 5 f5 rfl,by simpa using hf 6 f6 rfl,by simpa using hf 7 f7 rfl,by simpa using hf 8 f8 rfl,by simpa using hf 9 f9 rfl⟩
theorem wU {r:Reach}{b0:Nat}{t:TypeId}{f0 f1 f2 f3 f4 f5 f6 f7 f8 f9:Field}{v:Value}{d:DataW H}{p:List MemPlace}(hs:P.underlying t=some (.struct #[f0,f1,f2,f3,f4,f5,f6,f7,f8,f9]))(hone:oneCellFields P #[f0,f1,f2,f3,f4,f5,f6,f7,f8,f9]=true)(hC:P.cellsOf t=10)
 (hv:Value.okWide P w r b0 t v) (h:DataW.Trod enc P w base spare held t v d p) :
 ∃(v0 v1 v2 v3 v4 v5 v6 v7 v8 v9:Value) (y0 y1 y2 y3 y4 y5 y6 y7 y8 y9:DataW H×List MemPlace) (n:Nat),v=.agg #[v0,v1,v2,v3,v4,v5,v6,v7,v8,v9]/\d=.agg [y0.1,y1.1,y2.1,y3.1,y4.1,y5.1,y6.1,y7.1,y8.1,y9.1]/\DataW.trod enc P w base spare held n f0.type [v0]=some y0/\DataW.trod enc P w base spare held n f1.type [v1]=some y1/\DataW.trod enc P w base spare held n f2.type [v2]=some y2/\DataW.trod enc P w base spare held n f3.type [v3]=some y3/\DataW.trod enc P w base spare held n f4.type [v4]=some y4/\DataW.trod enc P w base spare held n f5.type [v5]=some y5/\DataW.trod enc P w base spare held n f6.type [v6]=some y6/\DataW.trod enc P w base spare held n f7.type [v7]=some y7/\DataW.trod enc P w base spare held n f8.type [v8]=some y8/\DataW.trod enc P w base spare held n f9.type [v9]=some y9:=by
 obtain⟨cs,rfl,hsz⟩:=okWide_struct hs hv;obtain⟨c0,c1,c2,c3,c4,c5,c6,c7,c8,c9,rfl⟩:=SS (hsz.trans hC);obtain⟨fuel,hf⟩:=h;obtain⟨y0,y1,y2,y3,y4,y5,y6,y7,y8,y9,n,hx,h0,h1,h2,h3,h4,h5,h6,h7,h8,h9⟩:=yO hs hf;obtain⟨o0,k0⟩:=hone_of hone 0 f0 rfl;obtain⟨o1,k1⟩:=hone_of hone 1 f1 rfl;obtain⟨o2,k2⟩:=hone_of hone 2 f2 rfl;obtain⟨o3,k3⟩:=hone_of hone 3 f3 rfl;obtain⟨o4,k4⟩:=hone_of hone 4 f4 rfl;obtain⟨o5,k5⟩:=hone_of hone 5 f5 rfl;obtain⟨o6,k6⟩:=hone_of hone 6 f6 rfl;obtain⟨o7,k7⟩:=hone_of hone 7 f7 rfl;obtain⟨o8,k8⟩:=hone_of hone 8 f8 rfl;obtain⟨o9,k9⟩:=hone_of hone 9 f9 rfl;simp only[Prod.mk.injEq] at hx
 exact⟨c0,c1,c2,c3,c4,c5,c6,c7,c8,c9,y0,y1,y2,y3,y4,y5,y6,y7,y8,y9,n,rfl,hx.1,by simpa[Value.cells,o0,k0] using h0,by simpa[Value.cells,o1,k1] using h1,by simpa[Value.cells,o2,k2] using h2,by simpa[Value.cells,o3,k3] using h3,by simpa[Value.cells,o4,k4] using h4,by simpa[Value.cells,o5,k5] using h5,by simpa[Value.cells,o6,k6] using h6,by simpa[Value.cells,o7,k7] using h7,by simpa[Value.cells,o8,k8] using h8,by simpa[Value.cells,o9,k9] using h9⟩
theorem wV {P:Program}{e:TypeId}{d:DataW H}{x:Nat}(hx:x∈d.weights P e):∀{l:List (DataW H)},d∈l->x∈DataW.weightsAll P e l
 | a::r,h=>by
  simp only[DataW.weightsAll,List.mem_append];rcases List.mem_cons.1 h with q|q
  ·subst q;exact .inl hx
  ·exact .inr (wV hx q)
end
theorem SV:prog.cellsOf 3=1:=by kernel_rfl
theorem VI:prog.bytesOf 3=8:=by kernel_rfl
theorem VJ:prog.cellsOf 24=10:=by kernel_rfl
theorem Gp {H:Type}{enc:TypeId×Value->H}{W:World}{base:Nat}{v:Value}{d:DataW H}{p:List MemPlace}(hv:Value.okWide prog W .any base 24 v)(h:DataW.Trod enc prog W 0 (λ_=>true) true 24 v d p)(hw:∀x∈DataW.weights prog 24 d,x<=reachBytes) :
 ∃(t:Tk.bM) (a:Option Addr) (c:Nat),v=qZ t a c/\jq t/\Dk.jm W a t.bo/\t.bo.length<=c/\t.bo.length<=17592186043904:=by
 obtain⟨u0,u1,u2,u3,u4,u5,u6,u7,u8,u9,y0,y1,y2,y3,y4,y5,y6,y7,y8,y9,m,rfl,hd,g0,g1,g2,g3,g4,g5,g6,g7,g8,g9⟩:=wU underlying24 (by kernel_rfl) VJ hv h;obtain⟨n,e0,q0,_⟩:=DataW.trod_string underlying9 g0;obtain⟨f,e1,q1,_⟩:=DataW.trod_string underlying9 g1;obtain⟨x0,e2,q2,_⟩:=DataW.trod_int underlying3 g2;obtain⟨x1,e3,q3,_⟩:=DataW.trod_int underlying3 g3;obtain⟨x2,e4,q4,_⟩:=DataW.trod_int underlying3 g4;obtain⟨x3,e5,q5,_⟩:=DataW.trod_int underlying3 g5;obtain⟨x5,e7,q7,_⟩:=DataW.trod_int underlying3 g7;obtain⟨x6,e8,q8,_⟩:=DataW.trod_int underlying3 g8
 obtain⟨x7,e9,q9⟩:=DataW.trod_bool underlying4 g9;simp only[List.cons.injEq,and_true] at e0 e1 e2 e3 e4 e5 e7 e8 e9;subst e0 e1 e2 e3 e4 e5 e7 e8 e9;have hz:n.size<=140737488355328:=by
  have h:=hw n.data.toList.length (by rw[hd,q0];simp[DataW.weights,DataW.weightsEach,underlying24]);have e:n.data.toList.length=n.size:=by simp
  unfold reachBytes at h;omega
 have hz1:f.size<=140737488355328:=by
  have h:=hw f.data.toList.length (by rw[hd,q1];simp[DataW.weights,DataW.weightsEach,underlying24]);have e:f.data.toList.length=f.size:=by simp
  unfold reachBytes at h;omega
 rcases Go.ChangeShapes.open_ints underlying22 underlying3 SV g6 with ⟨hcs,hx⟩|⟨a,len,cap,zs,hcs,hb,hl,hm,hlen,hx,hel,_⟩
 ·simp only[List.cons.injEq,and_true] at hcs;subst hcs;exact⟨⟨n,f,x0,x1,x2,x3,[],x5,x6,x7⟩,none,0,rfl,⟨hz,hz1,by simp⟩,λk hk=>by simp at hk,by simp⟩
 ·simp only[List.cons.injEq,and_true] at hcs;subst hcs;simp only[if_true] at hlen;have hsub:∀y∈DataW.weights (H:=H) prog 22 y6.1,y<=reachBytes:=λy hy=>hw y (by
   rw[hd];simp only[DataW.weights,underlying24];simp only[List.map_cons,List.map_nil];exact DataW.weights_mem_each (j:=6) rfl rfl _ hy)
  obtain⟨bm,om,spot⟩:=a;have hspot:len=0\/spot=none:=by
   by_cases h0:len=0
   ·exact .inl h0
   ·right;simpa[Addr.add] using World.cell?_spot (hel 0 (by omega))
  have htl:(zs.take len).length=len:=by rw[List.length_take];omega
  rcases hspot with h0|rfl
  ·subst h0;exact⟨⟨n,f,x0,x1,x2,x3,[],x5,x6,x7⟩,some ⟨bm,om,spot⟩,cap,rfl,⟨hz,hz1,by simp⟩,λk hk=>by simp at hk,by simp⟩
  ·have XI:len<=17592186043904:=by
    have hh:=hsub (((lits (H:=H) .i64 (zs.take len)).length+(lits (H:=H) .i64 (zs.drop len)).length)*prog.bytesOf 3) (by
     have e:y6.1=DataW.slice (lits .i64 (zs.take len)) (lits .i64 (zs.drop len)):=by rw[hx]
     rw[e];simp[DataW.weights,underlying22])
    have hl1:(lits (H:=H) .i64 (zs.take len)).length=len:=by unfold lits;rw[List.length_map];exact htl
    rw[hl1] at hh;rw[VI] at hh;unfold reachBytes at hh;omega
   refine⟨⟨n,f,x0,x1,x2,x3,zs.take len,x5,x6,x7⟩,some ⟨bm,om,none⟩,cap,by simp[qZ,htl];try omega,⟨hz,hz1,by simp only[htl];omega⟩,λk hk=>?_,by simp only[htl];exact⟨hl,XI⟩⟩;have hk':k<len:=by simpa[htl] using hk
   have f0:=hel k (by omega);simp only[add_plain] at f0;refine⟨bm,om,rfl,World.block_lt_of_cell? _ _ f0,?_⟩;rw[f0];simp only[Dk.nth];rw[List.getElem?_take_of_lt hk',List.getD_eq_getElem?_getD]
end Go.Proofs.YtophdoapcdjnjaaGreatDoor
namespace Go.Proofs.YtophdoapcdjnjaaGreatDoor.Dk
open Go.RowKit Go.Proofs.Tryz
def cZ:List Rc->List UInt8
 | []=>[]
 | r::l=>Pk.ni r.pk++cZ l
theorem ig:∀l:List Rc,(gu l).data.toList=cZ l
 | []=>rfl
 | r::l=>by rw[gu,cZ,ByteArray.data_append,Array.toList_append,ig l,gB,Ja]
theorem wW (l:List Rc):(gu l).size=(cZ l).length:=by
 rw[<-ig];simp
theorem kJ:∀a b:List Rc,cZ (a++b)=cZ a++cZ b
 | [],_=>rfl
 | r::a,b=>by rw[List.cons_append,cZ,cZ,kJ a b,List.append_assoc]
def Good (l:List Rc):Prop:=∀r∈l,dJ r=0
theorem qm:∀(l:List Rc) (c f:Nat),Good l->c<=(cZ l).length->c<=f->∃k,k<=l.length/\(cZ (l.take k)).length<=c/\(scan f ((cZ l).take c)).1=l.take k/\((c=(cZ (l.take k)).length/\(scan f ((cZ l).take c)).2=none)\/(scan f ((cZ l).take c)).2=some (cZ (l.take k)).length)/\∀j,j<=l.length->(cZ (l.take j)).length<=c->j<=k
 | [],c,f,_,hc,_=>by
  have:c=0:=by simpa[cZ] using hc
  subst this;refine⟨0,Nat.le_refl _,Nat.le_refl _,?_,.inl ⟨rfl,?_⟩,λj hj _=>hj⟩
  ·simp[cZ,nK]
  ·simp[cZ,nK]
 | r::l,c,f,hg,hc,hf=>by
  have hr:dJ r=0:=hg r (by simp);have hp:=Jb r.pk;by_cases hlt:c<(Pk.ni r.pk).length
  ·have ht:(cZ (r::l)).take c=(Pk.ni r.pk).take c:=by rw[cZ,List.take_append_of_le_length (by omega)]
   rw[ht];have hj:∀j,j<=(r::l).length->(cZ ((r::l).take j)).length<=c->j<=0:=λj _ h=>by
    cases j with
    | zero=>exact Nat.le_refl _
    | succ j=>rw[List.take_succ_cons,cZ,List.length_append] at h;omega
   by_cases h0:c=0
   ·subst h0;refine⟨0,Nat.zero_le _,Nat.le_refl _,?_,.inl ⟨rfl,?_⟩,hj⟩
    ·simp[nK]
    ·simp[nK]
   ·have hd:=Pk.Kw (r:=r.pk) (i:=c) hr hlt;have hl:((Pk.ni r.pk).take c).length≠0:=by rw[List.length_take];omega
    cases f with
    | zero=>omega
    | succ f =>
     rw[scan_bad hl (by rw[hd];simp)];exact⟨0,Nat.zero_le _,Nat.zero_le _,rfl,.inr rfl,hj⟩
  ·have ht:(cZ (r::l)).take c=Pk.ni r.pk++(cZ l).take (c-(Pk.ni r.pk).length):=by
    rw[cZ,List.take_append];rw[List.take_of_length_le (by omega)]
   have hd:=Pk.Sr (r:=r.pk) hr ((cZ l).take (c-(Pk.ni r.pk).length));have hl:(Pk.ni r.pk++(cZ l).take (c-(Pk.ni r.pk).length)).length≠0:=by rw[List.length_append];omega
   have hc':c-(Pk.ni r.pk).length<=(cZ l).length:=by rw[cZ,List.length_append] at hc;omega
   cases f with
   | zero=>omega
   | succ f =>
    obtain⟨k,h1,h2,h3,h4,h5⟩:=qm l (c-(Pk.ni r.pk).length) f (λx hx=>hg x (by simp[hx])) hc' (by omega);rw[ht,scan_ok hl (by rw[hd]),hd];simp only[List.drop_left'];rw[SG];refine⟨k+1,by simp;omega,?_,?_,?_,?_⟩
    ·rw[List.take_succ_cons,cZ,List.length_append];omega
    ·rw[List.take_succ_cons,h3]
    ·rw[List.take_succ_cons,cZ,List.length_append];rcases h4 with ⟨h4,h6⟩|h4
     ·exact .inl ⟨by omega,by rw[h6];rfl⟩
     ·right;rw[h4];simp[Nat.add_comm]
    ·intro j hj h
     cases j with
     | zero=>omega
     | succ j =>
      rw[List.take_succ_cons,cZ,List.length_append] at h;have:=h5 j (by simpa using hj) (by omega);omega
theorem qo {l:List Rc}(h:Good l):iO (gu l)=(l,none):=by
 unfold iO;rw[ig];obtain⟨k,h1,h2,h3,h4,h5⟩:=qm l (cZ l).length (cZ l).length h (Nat.le_refl _) (Nat.le_refl _);have hk:k=l.length:=by
  have:=h5 l.length (Nat.le_refl _) (by rw[List.take_length];exact Nat.le_refl _);omega
 rw[List.take_length] at h3 h4;rw[hk,List.take_length] at h3 h4;rcases h4 with ⟨_,h4⟩|h4
 ·exact Prod.ext h3 h4
 ·have hs:=Bg _ _ _ h4;exfalso;have:∀(f:Nat) (x:List UInt8) (j:Nat),(scan f x).2=some j->j<x.length:=by
   intro f;induction f with
   | zero=>intro x j hj;cases hj
   | succ f ih =>
    intro x j hj;by_cases h0:x.length=0
    ·rw[scan,if_pos h0] at hj;cases hj
    ·by_cases hd:(Pk.dec x).2.2=0
     ·rw[scan_ok h0 hd] at hj
      cases hq:(scan f (x.drop (Pk.dec x).2.1)).2 with
      | none=>rw[hq] at hj;cases hj
      | some i =>
       rw[hq] at hj;have:=ih _ i hq;rw[List.length_drop] at this;simp at hj;omega
     ·rw[scan_bad h0 hd] at hj
      cases hj
      omega
  have:=this _ _ _ h4;omega
def Whole:List aC->List Rc->Prop
 | [],A=>A=[]
 | e::r,A=>∃rs A',iO e.text=(rs,none)/\A=rs++A'/\Whole r A'
theorem iR:∀{pre:List aC} {A:List Rc} (es:List aC),Whole pre A->bG (pre++es)=(A++(bG es).1,pre++(bG es).2)
 | [],A,es,h=>by
  have:A=[]:=h;subst this;simp
 | e::r,A,es,h=>by
  obtain⟨rs,A',h1,rfl,h3⟩:=h;rw[List.cons_append,dI h1,iR es h3];simp
theorem wX:∀{pre:List aC} {A rs:List Rc} {e:aC},Whole pre A->iO e.text=(rs,none)->Whole (pre++[e]) (A++rs)
 | [],A,rs,e,h,hs=>by
  have:A=[]:=h;subst this;exact⟨rs,[],hs,by simp,rfl⟩
 | x::r,A,rs,e,h,hs=>by
  obtain⟨r1,A',h1,rfl,h3⟩:=h;exact⟨r1,A'++rs,h1,by simp,wX h3 hs⟩
def mW (es:List aC)(all:List Rc)(n:Nat):Prop:=∃pre e A L j,es=pre++[e]/\all=A++L/\Whole pre A/\(∀x∈pre,x.sure=(x.text.size:Int))/\e.text=gu L/\Good L/\j<=L.length/\e.sure=((gu (L.take j)).size:Int)/\n<=A.length+j
theorem rD {pre:List aC}{e:aC}(h:lF (pre++[e])):ix (pre++[e]) e.n=pre.length/\pa (pre++[e]) pre.length=e/\gG (pre++[e])=e:=by
 have hp:pa (pre++[e]) pre.length=e:=by unfold pa;simp
 refine⟨?_,hp,?_⟩
 ·refine NU (by simp) (by rw[hp]) (λj hj=>?_);rw[beq_eq_false_iff_ne];have:=AZ h hj (by simp);rw[hp] at this;omega
 ·unfold gG;rw[List.length_append,List.length_singleton,Nat.add_sub_cancel];exact hp
theorem Ed {pre:List aC}{e x:aC}:(pre++[e]).set pre.length x=pre++[x]:=by simp
theorem zA {pre:List aC}{e:aC}(h:lF (pre++[e])):jA (pre++[e]) e.n=pre++[iM e]:=by
 obtain⟨h1,h2,_⟩:=rD h;unfold jA;rw[h1,if_pos (by simp),h2,Ed];rfl
theorem Oy {pre:List aC}{e:aC}{m:Int}{s:ByteArray}(h:lF (pre++[e]))(h0:iH (pre++[e]) m e.n s=0):kU (pre++[e]) m e.n s=pre++[yM e s]:=by
 obtain⟨h1,h2,_⟩:=rD h;obtain⟨hI,hf⟩:=qh.1 h0;rw[(vH hI hf (by rw[h1];simp)).2,h1,h2,Ed]
theorem Oz {pre:List aC}{e:aC}{m:Int}{s:ByteArray}(h:lF (pre++[e]))(h0:iH (pre++[e]) m (e.n+1) s=0):kU (pre++[e]) m (e.n+1) s=(pre++[e])++[⟨e.n+1,0,s⟩]:=by
 obtain⟨h1,h2,_⟩:=rD h;obtain⟨hI,hf⟩:=qh.1 h0;have hle:∀k,k<(pre++[e]).length->(pa (pre++[e]) k).n<e.n+1:=λk hk=>by
  by_cases hk2:k<pre.length
  ·have:=AZ h hk2 (by simp);rw[h2] at this;omega
  ·have:k=pre.length:=by simp at hk;omega
   rw[this,h2];omega
 have hno:¬ix (pre++[e]) (e.n+1)<(pre++[e]).length:=λz=>by
  have h3:=DJ z;have:=hle _ z;omega
 have hlow:low (pre++[e]) (e.n+1)=(pre++[e]).length:=by
  have:=F9 (pre++[e]) (e.n+1);rcases Nat.lt_or_ge (low (pre++[e]) (e.n+1)) (pre++[e]).length with z|z
  ·exact absurd (hle _ z) (NV z)
  ·omega
 rw[(vI hI hf hno).2,hlow];unfold insL;rw[List.take_length,List.drop_length]
theorem KN (L:List Rc)(r:Rc):gu L++gB r=gu (L++[r]):=by
 have:∀a b:List Rc,gu (a++b)=gu a++gu b:=by
  intro a b;apply ByteArray.ext;apply Array.ext';have h1:=ig (a++b);have h2:=ig a;have h3:=ig b;rw[kJ] at h1;rw[ByteArray.data_append,Array.toList_append,h1,h2,h3]
 rw[this];simp[gu]
theorem mW.append {m size:Int}{es:List aC}{all:List Rc}{n:Nat}(h:mW es all n)(ht:Tidy m es)(r:Rc):((jd es m size r).1=0->mW (jd es m size r).2 (all++[r]) n)/\((jd es m size r).1≠0->mW (jd es m size r).2 all n):=by
 obtain⟨pre,e,A,L,j,rfl,rfl,hw,hs,he,hg,hj,hsu,hn⟩:=h;have hr:=ht.rise;obtain⟨h1,h2,h3⟩:=rD hr;unfold jd;by_cases hc:dJ r≠0
 ·rw[if_pos hc];exact⟨λz=>absurd z hc,λ_=>⟨pre,e,A,L,j,rfl,rfl,hw,hs,he,hg,hj,hsu,hn⟩⟩
 ·have hc0:dJ r=0:=Classical.byContradiction hc;rw[if_neg hc,if_neg (by simp),h3];have hes:iM e=⟨e.n,(e.text.size:Int),e.text⟩:=rfl;have hfull:∀n',n'<=A.length+j->mW (pre++[iM e]) (A++L) n':=λn' hn'=>⟨pre,iM e,A,L,L.length,rfl,rfl,hw,hs,he,hg,Nat.le_refl _,by rw[List.take_length,<-he];rfl,by omega⟩
  split
  ·rw[zA hr];have hr2:lF (pre++[iM e]):=by
    rw[jP];have:iG (pre++[iM e])=iG (pre++[e]):=by simp[iG,iM]
    rw[this,<-jP];exact hr
   refine⟨λz=>?_,λz=>?_⟩
   ·have hz:iH (pre++[iM e]) m ((iM e).n+1) (gB r)=0:=z;have:=Oz hr2 hz;rw[show(e.n+1)=(iM e).n+1 from rfl,this];refine⟨pre++[iM e],⟨e.n+1,0,gB r⟩,A++L,[r],0,rfl,by simp,wX hw (by rw[show(iM e).text=e.text from rfl,he];exact qo hg),?_,?_,?_,Nat.zero_le _,?_,by simp;omega⟩
    ·intro x hx;rcases List.mem_append.1 hx with hx|hx
     ·exact hs x hx
     ·have:x=iM e:=by simpa using hx
      rw[this];rfl
    ·show gB r=gu [r];simp[gu]
    ·intro x hx;have:x=r:=by simpa using hx
     rw[this];exact hc0
    ·simp[gu]
   ·rw[lX z];exact hfull n hn
  ·refine⟨λz=>?_,λz=>?_⟩
   ·rw[Oy hr z];refine⟨pre,yM e (gB r),A,L++[r],j,rfl,by simp,hw,hs,?_,?_,by simp;omega,?_,hn⟩
    ·show e.text++gB r=_;rw[he,KN]
    ·intro x hx;rcases List.mem_append.1 hx with hx|hx
     ·exact hg x hx
     ·have:x=r:=by simpa using hx
      rw[this];exact hc0
    ·rw[List.take_append_of_le_length hj];exact hsu
   ·rw[lX z];exact⟨pre,e,A,L,j,rfl,rfl,hw,hs,he,hg,hj,hsu,hn⟩
theorem mW.SX {m size:Int}{es:List aC}{all:List Rc}{n:Nat}(h:mW es all n)(ht:Tidy m es)(r:Rc):((jZ es m size r).1=0->mW (jZ es m size r).2 (all++[r]) n)/\((jZ es m size r).1≠0->mW (jZ es m size r).2 all n):=by
 by_cases h0:(jd es m size r).1=0
 ·rw[Bh h0];exact h.append ht r
 ·rw[wO h0];exact⟨λz=>absurd z h0,λ_=>h⟩
theorem mW.sync {m:Int}{es:List aC}{all:List Rc}{n:Nat}(h:mW es all n)(ht:Tidy m es):mW (kX es) all all.length:=by
 obtain⟨pre,e,A,L,j,rfl,rfl,hw,hs,he,hg,hj,hsu,hn⟩:=h;have hr:=ht.rise;unfold kX;rw[if_neg (by simp),(rD hr).2.2,zA hr];exact⟨pre,iM e,A,L,L.length,rfl,rfl,hw,hs,he,hg,Nat.le_refl _,by rw[List.take_length,<-he];rfl,by simp⟩
theorem mW.len {es:List aC}{all:List Rc}{n:Nat}(h:mW es all n):n<=all.length:=by
 obtain⟨pre,e,A,L,j,rfl,rfl,_,_,_,_,hj,_,hn⟩:=h;simp;omega
theorem mW.front {es:List aC}{all:List Rc}{n:Nat}(h:mW es all n)(keep:Int):∃k,n<=k/\k<=all.length/\(bG (es.map (iL keep))).1=all.take k/\(bG (bG (es.map (iL keep))).2).1=all.take k:=by
 obtain⟨pre,e,A,L,j,rfl,rfl,hw,hs,he,hg,hj,hsu,hn⟩:=h;have hpre:pre.map (iL keep)=pre:=by
  conv=>rhs;rw[<-List.map_id pre]
  refine List.map_congr_left (λx hx=>?_);have hx2:=hs x hx;have hat:eU x keep=x.text.size:=by unfold eU;rw[hx2];omega
  unfold iL;rw[hat];have:x.text.extract 0 x.text.size=x.text:=by
   apply ByteArray.ext;simp
  rw[this]
  cases x
  simp only at hx2;rw[hx2];rfl
 have hcl:eU e keep<=(cZ L).length:=by rw[<-wW,<-he];exact AV e keep
 have hlow:(cZ (L.take j)).length<=eU e keep:=by
  have h1:(cZ (L.take j)).length<=(cZ L).length:=by
   conv=>rhs;rw[<-List.take_append_drop j L]
   rw[kJ,List.length_append];omega
  have h2:e.text.size=(cZ L).length:=by rw[he,wW]
  unfold eU;rw[hsu,wW,h2];omega
 have htx:∀c,c<=(cZ L).length->((gu L).extract 0 c).data.toList=(cZ L).take c:=λc _=>by
  rw[ByteArray.data_extract,Array.toList_extract,ig];simp
 obtain⟨k,h1,h2,h3,h4,h5⟩:=qm L (eU e keep) (eU e keep) hg hcl (Nat.le_refl _);have hjk:=h5 j hj hlow;have hsc:iO (iL keep e).text=((scan (eU e keep) ((cZ L).take (eU e keep))).1,(scan (eU e keep) ((cZ L).take (eU e keep))).2):=by
  unfold iO iL;simp only;rw[he,htx _ hcl,List.length_take,Nat.min_eq_left hcl]
 rw[List.map_append,hpre];have hgk:Good (L.take k):=λx hx=>hg x (List.mem_of_mem_take hx)
 have hres:(A++L).take (A.length+k)=A++L.take k:=by
  rw[List.take_append,List.take_of_length_le (by omega),Nat.add_sub_cancel_left]
 refine⟨A.length+k,by omega,by simp;omega,?_,?_⟩
 ·rw[iR _ hw,hres];simp only[List.map_cons,List.map_nil];rcases h4 with ⟨_,h4⟩|h4
  ·rw[dI (by rw[hsc,h3,h4])];simp[bG]
  ·rw[lG (by rw[hsc,h3,h4])]
 ·rw[iR _ hw];simp only[List.map_cons,List.map_nil];rcases h4 with ⟨h6,h4⟩|h4
  ·rw[dI (by rw[hsc,h3,h4])];simp only[bG];rw[iR _ hw,dI (by rw[hsc,h3,h4]),hres];simp[bG]
  ·rw[lG (by rw[hsc,h3,h4])];have hcut:(qQ (iL keep e) (cZ (L.take k)).length).text=gu (L.take k):=by
    apply ByteArray.ext;apply Array.ext';unfold qQ iL;simp only;rw[ByteArray.data_extract,Array.toList_extract,he,htx _ hcl,ig];simp only[List.extract_eq_take_drop,List.drop_zero,Nat.sub_zero];rw[List.take_take,Nat.min_eq_left h2];have hsplit:cZ L=cZ (L.take k)++cZ (L.drop k):=by rw[<-kJ,List.take_append_drop]
    rw[hsplit,List.take_left]
   rw[iR _ hw,dI (by rw[hcut];exact qo hgk),hres];simp[bG]
theorem OA (b o i:Nat):(⟨b,o,none⟩:Addr).add i=⟨b,o+i,none⟩:=by unfold Addr.add;split<;>simp_all
theorem KO (w:World)(n:Nat)(hn:n<=17592186043904):∃w1,(Instr.makeSlice 22 (.int .i64 0) (.int .i64 ((n:Int)+3))).run prog w=.ok (.slice (some ⟨w.heap.size,0,none⟩) 0 (n+3)) w1/\Nums w1 w.heap.size (.slice (some ⟨w.heap.size,0,none⟩) 0 (n+3)) []/\Below w.heap.size w w1:=by
 obtain⟨i0,hi,hz0,hz1,hz2⟩:=info_parts Ea;obtain⟨w1,h1,h2,h3⟩:=run_make_own (P:=prog) w w.heap.size 22 3 i0 _ 1 underlying22 hi hz0 hz1 .i64 .i64 (n+3) (by rw[hz2];omega) (by unfold maxLen;omega) (Nat.le_refl _);exact⟨w1,by rw[show((n:Int)+3)=((n+3:Nat):Int) by omega];exact h1,h2,(Below.refl _ _).grown h3 (Nat.le_refl _) (λj hj=>by cases hj)⟩
theorem Ee (w:World)(B g cap:Nat)(k:List Int)(ha:Nums w B (.slice (some ⟨g,0,none⟩) 0 cap) [])(a:Option Addr)(c:Nat)(hk:jm w a k)(hl:k.length<=17592186043904)(hB:B<=w.heap.size) :
 ∃v' w',(Builtin.append_ #[22,22] 22 #[.slice (some ⟨g,0,none⟩) 0 cap,.slice a k.length c]).run prog w=.ok v' w'/\Nums w' B v' k/\aF (λj=>j=g) w w':=by
 obtain⟨i0,hi,hz0,hz1,hz2⟩:=info_parts Ea;match a with
 | none =>
  have h0:k=[]:=by
   cases k with
   | nil=>rfl
   | cons x xs=>obtain⟨_,_,e,_⟩:=hk 0 (by simp);cases e
  subst h0;have hr:=run_append_room_src (P:=prog) w 22 22 22 3 i0 underlying22 hi g 0 0 cap (.slice none 0 c) 0 [] (Src.ofNil w underlying22 c) (by omega) (λj hj=>by cases hj) (λj hj=>by cases hj);exact⟨_,_,hr,ha,aF.refl _ _⟩
 | some a =>
  obtain⟨v',w',hr,h2,h3,h4⟩:=run_append_own (P:=prog) w B 22 22 3 i0 _ 1 8 underlying22 hi hz0 hz1 hz2 rfl (by omega) _ 0 [] ha a k.length c (k.map (Value.int .i64)) (by simp) (λj u hj=>by
   rw[List.getElem?_map] at hj;obtain⟨y,hy,rfl⟩:=Option.map_eq_some_iff.1 hj;have hjl:j<k.length:=(List.getElem?_eq_some_iff.1 hy).1;obtain⟨b,o,e,_,hc⟩:=hk j hjl
   cases e
   rw[OA,hc];unfold nth;rw[hy];rfl) (λu hu=>by obtain⟨y,_,rfl⟩:=List.mem_map.1 hu;exact one_num y _ (by simp)) (by unfold maxLen;omega) (by omega) hB
  refine⟨v',w',hr,?_,(aF.cu h3).mono (λj _ e=>(Option.some.inj (show some g=some j from e)).symm)⟩;unfold Nums;rw[Nat.zero_add] at h2;exact h2
theorem Gq (w:World)(B:Nat)(v:Value)(l:List Int)(x y:Int)(ha:Nums w B v l)(b:Nat)(h0:w.cell? ⟨b,0,none⟩=some (.int .i64 x))(h1:w.cell? ⟨b,1,none⟩=some (.int .i64 y))(hl:l.length<=17592186043904)(hB:B<=w.heap.size) :
 ∃g cap w',(Builtin.append_ #[22,22] 22 #[v,.slice (some ⟨b,0,none⟩) 2 2]).run prog w=.ok (.slice (some ⟨g,0,none⟩) (l.length+2) cap) w'/\l.length+2<=cap/\cap<=maxLen/\Nums w' B (.slice (some ⟨g,0,none⟩) (l.length+2) cap) (l++[x,y])/\aF (λk=>v.ownBlock=some k) w w':=by
 obtain⟨i0,hi,hz0,hz1,hz2⟩:=info_parts Ea;obtain⟨v',w',hr,h2,h3,h4⟩:=run_append_own (P:=prog) w B 22 22 3 i0 _ 1 8 underlying22 hi hz0 hz1 hz2 rfl (by omega) v l.length (l.map (Value.int .i64)) ha ⟨b,0,none⟩ 2 2 [.int .i64 x,.int .i64 y] rfl (λj u hj=>by
  match j,hj with
  | 0,hj=>rw[OA,h0];simpa using hj
  | 1,hj=>rw[OA,h1];simpa using hj) (λu hu=>by simp at hu;rcases hu with rfl|rfl;exact one_num x _ (by simp);exact one_num y _ (by simp)) (by unfold maxLen;omega) (by omega) hB
 have hN:Nums w' B v' (l++[x,y]):=by
  unfold Nums;rw[List.length_append,List.map_append];exact h2
 rcases hN.2 with ⟨_,e⟩|⟨g,cap,cur,e1,e2,e3,e4,e5,e6,e7⟩
 ·simp at e
 ·have hn:(l++[x,y]).length=l.length+2:=by simp
  rw[hn] at e1 e4;subst e1;exact⟨g,cap,w',hr,e4,e5,hN,aF.cu h3⟩
def Dn (w:World)(g cap:Nat):Prop:=g<w.heap.size/\(∀j,w.frozen? ⟨g,j,none⟩=false)/\∀j,j<cap->∃u,w.cell? ⟨g,j,none⟩=some u
theorem nM {w:World}{B g n cap:Nat}{e:TypeId}{l:List Value}(h:w.ownsRow B e 1 (.slice (some ⟨g,0,none⟩) n cap) n l):Dn w g cap/\n<=cap/\cap<=9223372036854775807/\B<=g:=by
 have hl:=(World.ownsRow.lt h g rfl).2;rcases h.2 with ⟨e1,_⟩|⟨g',cap',cur,e1,e2,e3,e4,e5,e6,e7⟩
 ·cases e1
 ·cases e1
  unfold maxLen at e5;refine⟨⟨hl,λj=>frozen_of_row w g j _ _ e3,λj hj=>?_⟩,e4,e5,e2⟩;rw[cell_of_row w g j _ _ _ e3];exact⟨_,Array.getElem?_eq_getElem (by omega)⟩
theorem Dn.set {w:World}{g cap j:Nat}{v:Value}(h:Dn w g cap)(hj:j<cap):Dn (w.setCell ⟨g,j,none⟩ v) g cap:=by
 refine⟨by simpa[World.setCell] using h.1,λi=>by rw[World.frozen?_setCell];exact h.2.1 i,λi hi=>?_⟩;by_cases e:i=j
 ·subst e;obtain⟨u,hu⟩:=h.2.2 i hi;exact⟨v,World.cell?_setCell_same _ _ _ hu⟩
 ·rw[World.cell?_setCell_other _ _ _ _ (by intro z;injection z;omega)];exact h.2.2 i hi
end Go.Proofs.YtophdoapcdjnjaaGreatDoor.Dk
