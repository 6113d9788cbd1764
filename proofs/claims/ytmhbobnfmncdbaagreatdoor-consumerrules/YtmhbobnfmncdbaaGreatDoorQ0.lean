/- A part. -/
import Derived.BigQuiet
import Derived.Deep.RegionHeld3
import Derived.Lib.AppendZerosOnto
import Derived.Lib.ItoaNum
import Derived.Lib.SmallJoins
import Derived.Lib.SplitLaws
import Derived.Shelf.Spec.SlicesInsert
import Derived.Test.YtmhbobnfmncdbaaGreatDoorRows
import Derived.WalkLawsBesides
import Derived.WalkSpells
set_option maxRecDepth 100000
set_option maxHeartbeats 8000000
namespace Go.Proofs.YtmhbobnfmncdbaaGreatDoor.Pl
open Go Go.Proofs.Tryz
def KI (c:UInt8):Bool:=decide (33<=c.toNat)&&(decide (c.toNat<=126)&&(decide (c.toNat≠46)&&(decide (c.toNat≠42)&&decide (c.toNat≠62))))
def oM (t:List UInt8):Bool:=decide (1<=t.length)&&(decide (t.length<=16)&&t.all KI)
def fM:List UInt8->List (List UInt8)
 | []=>[[]]
 | c::r=>if c=46 then []::fM r else (fM r).modifyHead (λp=>c::p)
def iE (dD last:Bool)(t:List UInt8):Bool:=oM t||(dD&&(t==[42]||(t==[62]&&last)))
def eP (dD:Bool)(ps:List (List UInt8))(k:Nat):Bool:=(List.range k).all λi=>iE dD (decide (i+1=ps.length)) (ps[i]?.getD [])
def errOf (dD:Bool)(ps:List (List UInt8)):Int:=if 8<ps.length then 2 else if eP dD ps ps.length then 0 else 3
theorem AP (dD:Bool)(ps:List (List UInt8))(k:Nat):eP dD ps (k+1)=(eP dD ps k&&iE dD (decide (k+1=ps.length)) (ps[k]?.getD [])):=by
 simp[eP,List.range_succ,List.all_append]
theorem RD (dD:Bool)(ps:List (List UInt8)):eP dD ps 0=true:=rfl
theorem Iq {dD:Bool}{ps:List (List UInt8)}{k n:Nat}(h:k<=n)(g:eP dD ps n=true):eP dD ps k=true:=by
 simp only[eP,List.all_eq_true,List.mem_range] at *;exact λi hi=>g i (by omega)
theorem Eb {dD:Bool}{ps:List (List UInt8)}{k n:Nat}(h:k<n)(g:iE dD (decide (k+1=ps.length)) (ps[k]?.getD [])=false):eP dD ps n=false:=by
 cases e:eP dD ps n with
 | false=>rfl
 | true =>
  have:=Iq (Nat.succ_le_of_lt h) e;rw[Nat.succ_eq_add_one,AP,g] at this;simp at this
theorem AQ {dD:Bool}{ps:List (List UInt8)}(h:8<ps.length):errOf dD ps=2:=by simp[errOf,h]
theorem oN {dD:Bool}{ps:List (List UInt8)}(h:¬8<ps.length)(g:eP dD ps ps.length=true):errOf dD ps=0:=by simp[errOf,h,g]
theorem xw {dD:Bool}{ps:List (List UInt8)}{k:Nat}(h:¬8<ps.length)(hk:k<ps.length)(g:iE dD (decide (k+1=ps.length)) (ps[k]?.getD [])=false):errOf dD ps=3:=by
 simp[errOf,h,Eb hk g]
theorem oO:∀l:List UInt8,fM l≠[]
 | []=>by simp[fM]
 | c::r=>by
  unfold fM;split
  ·simp
  ·have:=oO r
   cases e:fM r with
   | nil=>exact absurd e this
   | cons a b=>simp
theorem fA:∀l:List UInt8,(fM l).length=l.count 46+1
 | []=>rfl
 | c::r=>by
  unfold fM;by_cases h:c=46
  ·subst h;simp[fA r]
  ·rw[if_neg h,List.length_modifyHead,fA r,List.count_cons_of_ne h]
theorem uD:∀{l:List UInt8},l.count 46=0->fM l=[l]
 | [],_=>rfl
 | c::r,h=>by
  by_cases e:c=46
  ·subst e;simp at h
  ·rw[List.count_cons_of_ne e] at h;unfold fM;rw[if_neg e,uD h];rfl
theorem zf:∀(a:List UInt8) (b:List UInt8),a.count 46=0->fM (a++46::b)=a::fM b
 | [],b,_=>by simp[fM]
 | c::r,b,h=>by
  by_cases e:c=46
  ·subst e;simp at h
  ·rw[List.count_cons_of_ne e] at h;rw[List.cons_append,fM,if_neg e,zf r b h];rfl
theorem AU:∀(l:List UInt8) (p:List UInt8),p∈fM l->p.count 46=0
 | [],p,h=>by simp[fM] at h;subst h;rfl
 | c::r,p,h=>by
  unfold fM at h;by_cases e:c=46
  ·rw[if_pos e] at h;rcases List.mem_cons.1 h with h|h
   ·subst h;rfl
   ·exact AU r p h
  ·rw[if_neg e] at h;have ih:=AU r
   cases q:fM r with
   | nil=>rw[q] at h;simp at h
   | cons x y =>
    rw[q] at h ih;simp only[List.modifyHead_cons,List.mem_cons] at h;rcases h with h|h
    ·subst h;rw[List.count_cons_of_ne e];exact ih x (by simp)
    ·exact ih p (by simp[h])
theorem xA:∀(l:List UInt8) (p:List UInt8),p∈fM l->p.length<=l.length
 | [],p,h=>by simp[fM] at h;subst h;simp
 | c::r,p,h=>by
  have ih:=xA r;unfold fM at h;by_cases e:c=46
  ·rw[if_pos e] at h;rcases List.mem_cons.1 h with h|h
   ·subst h;simp
   ·have:=ih p h;simp;omega
  ·rw[if_neg e] at h
   cases q:fM r with
   | nil=>rw[q] at h;simp at h
   | cons x y =>
    rw[q] at h ih;simp only[List.modifyHead_cons,List.mem_cons] at h;rcases h with h|h
    ·subst h;have:=ih x (by simp);simp;omega
    ·have:=ih p (by simp[h]);simp;omega
theorem pK:∀l:List UInt8,fM (l++[46])=fM l++[[]]
 | []=>rfl
 | c::r=>by
  rw[List.cons_append];unfold fM;by_cases e:c=46
  ·rw[if_pos e,if_pos e,pK r];rfl
  ·rw[if_neg e,if_neg e,pK r];have:=oO r
   cases q:fM r with
   | nil=>exact absurd q this
   | cons x y=>rfl
theorem uF:∀(l:List UInt8) (c:UInt8),c≠46->∀(i:List (List UInt8)) (t:List UInt8),fM l=i++[t]->fM (l++[c])=i++[t++[c]]
 | [],c,h,i,t,e=>by
  simp only[fM] at e
  cases i with
  | nil=>simp at e;subst e;simp[fM,h]
  | cons a b=>simp at e
 | d::r,c,h,i,t,e=>by
  rw[List.cons_append];unfold fM at e ⊢;by_cases q:d=46
  ·rw[if_pos q] at e ⊢
   cases i with
   | nil =>
    simp at e;exact absurd e.2 (oO r)
   | cons a b =>
    simp only[List.cons_append,List.cons.injEq] at e ⊢;exact⟨e.1,uF r c h b t e.2⟩
  ·rw[if_neg q] at e ⊢;have hr:=oO r
   cases g:fM r with
   | nil=>exact absurd g hr
   | cons x y =>
    rw[g] at e;simp only[List.modifyHead_cons] at e
    cases i with
    | nil =>
     simp only[List.nil_append,List.cons.injEq] at e;obtain⟨e1,e2⟩:=e;subst e2;rw[uF r c h [] x (by rw[g];rfl)];subst e1;rfl
    | cons a b =>
     simp only[List.cons_append,List.cons.injEq] at e;obtain⟨e1,e2⟩:=e;rw[uF r c h (x::b) t (by rw[g,e2];rfl)];subst e1;rfl
theorem lV {l:List UInt8}(h:Lib.index l [46]=-1):l.count 46=0:=by
 have:=Lib.count_miss h;rwa [Lib.count_one] at this
theorem oq {l:List UInt8}{i:Nat}(h:Lib.index l [46]=i):(l.take i).count 46=0/\l=l.take i++46::l.drop (i+1):=by
 rcases Lib.index_spec l [46] with ⟨e,_⟩|⟨j,e,hj,ho,hn⟩
 ·omega
 ·obtain rfl:i=j:=by omega
  have hd:l[i]?=some 46:=Lib.occAt_head rfl ho;have hl:i<l.length:=by
   rcases Nat.lt_or_ge i l.length with h|h
   ·exact h
   ·rw[List.getElem?_eq_none h] at hd;cases hd
  refine⟨?_,?_⟩
  ·rw[List.count_eq_zero];intro hm;obtain⟨k,hk,hk2⟩:=List.mem_iff_getElem.1 hm;rw[List.length_take] at hk;rw[List.getElem_take] at hk2;have hf:=hn k (by omega);have ht:Lib.occAt l [46] k=true:=by
    unfold Lib.occAt;rw[List.drop_eq_getElem_cons (by omega),hk2];simp[List.isPrefixOf]
   rw[ht] at hf
   cases hf
  ·have:l[i]=46:=by rw[List.getElem?_eq_getElem hl] at hd;exact Option.some.inj hd
   rw[<-this,<-List.drop_eq_getElem_cons hl,List.take_append_drop]
theorem uG:∀(k:Nat) (l:List UInt8),l.count 46=k->Lib.splitK [46] 0 k l=fM l
 | 0,l,h=>by rw[uD h];rfl
 | k+1,l,h=>by
  unfold Lib.splitK;split
  ·rename_i e;have:=lV (beq_iff_eq.1 e);omega
  ·rename_i e;have hge:=Lib.index_ge l [46];have hne:Lib.index l [46]≠-1:=λx=>e (beq_iff_eq.2 x)
   obtain⟨i,hi⟩:∃i:Nat,Lib.index l [46]=i:=⟨(Lib.index l [46]).toNat,by omega⟩;obtain⟨h1,h2⟩:=oq hi;have e1:(Lib.index l [46]).toNat=i:=by omega
   rw[e1];have hc:(l.drop (i+1)).count 46=k:=by
    have:=congrArg (List.count 46) h2;rw[List.count_append,h1,List.count_cons_self] at this;omega
   rw[show i+0=i from rfl,show([46]:List UInt8).length=1 from rfl,uG k _ hc,<-zf _ _ h1,<-h2]
def toks (s:ByteArray):List ByteArray:=Lib.splitB ⟨#[46]⟩ 0 (Lib.countB s ⟨#[46]⟩) s
theorem iV (s:ByteArray):(toks s).map (·.data.toList)=fM s.data.toList:=by
 unfold toks;rw[Lib.splitB_data];show Lib.splitK [46] 0 (Lib.count s.data.toList [46]) s.data.toList=_;rw[Lib.count_one];exact uG _ _ rfl
theorem aU (s:ByteArray):(toks s).length=(fM s.data.toList).length:=by rw[<-iV,List.length_map]
theorem RG (s:ByteArray):Lib.countB s ⟨#[46]⟩+1=(fM s.data.toList).length:=by
 rw[fA];show Lib.count s.data.toList [46]+1=_;rw[Lib.count_one]
theorem pO (s:ByteArray)(i:Nat):((fM s.data.toList)[i]?).getD []=((toks s)[i]?.getD ByteArray.empty).data.toList:=by
 rw[<-iV,List.getElem?_map]
 cases (toks s)[i]?<;>rfl
end Go.Proofs.YtmhbobnfmncdbaaGreatDoor.Pl
namespace Go.Proofs.YtmhbobnfmncdbaaGreatDoor
open Go.RowKit Go.Proofs.Tryz
theorem aj {p:Prop}(h:p):Hid p:=h
theorem ah {p:Prop}(h:Hid p):p:=h
theorem jf {a b:Bool}(h:(a=true)↔(b=true)):Ending.returned (.bool a)=.returned (.bool b):=by
 rw[Bool.eq_iff_iff.2 h]
theorem iK {b c:Bool}(h:c=b):Ending.returned (.bool b)=.returned (.bool c):=by rw[h]
theorem iQ {k:IntKind}{a b:Int}(h:a=b):Ending.returned (.int k a)=.returned (.int k b):=by rw[h]
theorem VT {W:World}{base:Nat}{e:TypeId}{size:Nat}{v:Value}{k:Nat}{xs:List Value}(h:W.ownsRow base e size v (k+1) xs):∃g cap,v=.slice (some ⟨g,0,none⟩) (k+1) cap:=by
 rcases h.2 with ⟨_,h⟩|⟨g,cap,cur,h,_⟩
 ·omega
 ·exact⟨g,cap,h⟩
theorem XI (w:World)(v:Value)(t:TypeId):∀(j:Nat) u,[v][j]?=some u->(w.alloc (.cells #[v] t)).cell? ((⟨w.heap.size,0,none⟩:Addr).add j)=some u:=by
 intro j u hj;match j,hj with
 | 0,hj=>simp at hj;subst hj;simp[Addr.add]
theorem ay {w a b:World}(h:Below w.heap.size w a)(h2:Below a.heap.size a b):Below w.heap.size w b:=h.trans (h2.mono h.size)
end Go.Proofs.YtmhbobnfmncdbaaGreatDoor
namespace Go.Proofs.YtmhbobnfmncdbaaGreatDoor.Dk
open Go.RowKit Go.Proofs.Tryz
structure aG where
 n:Int
 sure:Int
 text:ByteArray
def pa (l:List aG)(k:Nat):aG:=l[k]?.getD ⟨0,0,ByteArray.empty⟩
theorem fO {l:List aG}{k:Nat}(h:k<l.length):pa l k=l[k]:=by unfold pa;rw[List.getElem?_eq_getElem h];rfl
theorem Ec {l:List aG}{k:Nat}(h:k<l.length):pa l k∈l:=by rw[fO h];exact List.getElem_mem h
theorem XJ (e:aG)(r:List aG):pa (e::r) 0=e:=rfl
theorem OV (e:aG)(r:List aG)(k:Nat):pa (e::r) (k+1)=pa r k:=rfl
structure aA (A:Nat->Prop)(w w':World):Prop where
 os:w'.os=w.os
 tape:w'.tape=w.tape
 output:w'.output=w.output
 size:w.heap.size<=w'.heap.size
 block:∀k,k<w.heap.size->¬A k->w'.heap[k]?=w.heap[k]?
theorem aA.refl (A:Nat->Prop)(w:World):aA A w w:=⟨rfl,rfl,rfl,Nat.le_refl _,λ_ _ _=>rfl⟩
theorem aA.trans {A:Nat->Prop}{a b c:World}(h:aA A a b)(k:aA A b c):aA A a c :=
 ⟨k.os.trans h.os,k.tape.trans h.tape,k.output.trans h.output,Nat.le_trans h.size k.size,λi hi hn=>(k.block i (by have:=h.size;omega) hn).trans (h.block i hi hn)⟩
theorem aA.mono {A A':Nat->Prop}{a b:World}(h:aA A a b)(hA:∀k,k<a.heap.size->A k->A' k):aA A' a b :=
 ⟨h.os,h.tape,h.output,h.size,λk hk hn=>h.block k hk (λq=>hn (hA k hk q))⟩
theorem aA.of_below {A:Nat->Prop}{w w':World}(h:Below w.heap.size w w'):aA A w w':=⟨h.os,h.tape,h.output,h.size,λk hk _=>h.block k hk⟩
theorem aA.bU {w w':World}{row:Option Nat}(h:w.grownBy w' row):aA (λk=>row=some k) w w':=⟨h.os,h.tape,h.output,h.size,λk hk hn=>h.block k hk (λe=>hn e.symm)⟩
theorem aA.setCell {A:Nat->Prop}{a w:World}(h:aA A a w){p:Addr}(hp:A p.block\/a.heap.size<=p.block)(u:Value):aA A a (w.setCell p u):=by
 refine⟨h.os,h.tape,h.output,by simpa[World.setCell] using h.size,λk hk hn=>?_⟩;rw[Below.heap_setCell _ _ _ _ (λe=>by subst e;rcases hp with q|q;exact hn q;omega)];exact h.block k hk hn
theorem aA.below {A:Nat->Prop}{B:Nat}{w w':World}(h:aA A w w')(hB:B<=w.heap.size)(hA:∀k,k<B->¬A k):Below B w w':=⟨h.os,h.tape,h.output,h.size,λk hk=>h.block k (by omega) (hA k hk)⟩
theorem aA.cell {A:Nat->Prop}{w w':World}(h:aA A w w'){p:Addr}(hp:p.block<w.heap.size)(hn:¬A p.block):w'.cell? p=w.cell? p:=World.cell?_of_block (w:=w) (h.block p.block hp hn)
theorem aA.frozen {A:Nat->Prop}{w w':World}(h:aA A w w'){p:Addr}(hp:p.block<w.heap.size)(hn:¬A p.block):w'.frozen? p=w.frozen? p:=World.frozen?_of_block (w:=w) (h.block p.block hp hn)
def insL (es:List aG)(i:Nat)(x:aG):List aG:=es.take i++x::es.drop i
theorem AV {es:List aG}{i:Nat}{x:aG}(h:i<=es.length):(insL es i x).length=es.length+1:=by
 unfold insL;rw[List.length_append,List.length_cons,List.length_take,List.length_drop];omega
def ix (es:List aG)(n:Int):Nat:=es.findIdx (λp=>p.n==n)
theorem aae (es:List aG)(n:Int):ix es n<=es.length:=List.findIdx_le_length
theorem SY {es:List aG}{n:Int}{i:Nat}(h:i<es.length)(hi:(pa es i).n=n)(hlo:∀k,k<i->((pa es k).n==n)=false):ix es n=i:=by
 unfold ix;rw[List.findIdx_eq h];refine⟨by rw[<-fO h];simp[hi],λj hj=>?_⟩;have:=hlo j hj;rw[fO (by omega)] at this;exact this
theorem XK {es:List aG}{n:Int}(h:∀k,k<es.length->((pa es k).n==n)=false):ix es n=es.length:=by
 unfold ix;rw[List.findIdx_eq_length];intro x hx;obtain⟨k,hk,rfl⟩:=List.mem_iff_getElem.1 hx;have:=h k hk;rw[fO hk] at this;exact this
theorem FT {es:List aG}{n:Int}(h:ix es n<es.length):(pa es (ix es n)).n=n:=by
 rw[fO h];have:=List.findIdx_getElem (w:=h);exact eq_of_beq this
def XL (es:List aG)(n:Int):Int:=if ix es n<es.length then (ix es n:Int) else -1
theorem fB {k:IntKind}{a b:Int}(h:b=a):Ending.returned (.int k a)=.returned (.int k b):=by rw[h]
def used:List aG->Nat
 | []=>0
 | e::r=>e.text.size+used r
theorem dO (a b:List aG):used (a++b)=used a+used b:=by
 induction a with
 | nil=>simp[used]
 | cons e r ih=>rw[List.cons_append,used,used,ih];omega
theorem Vb {es:List aG}{k:Nat}(h:k<es.length):used (es.take (k+1))=used (es.take k)+(pa es k).text.size:=by
 rw[List.take_succ_eq_append_getElem h,dO,<-fO h];simp[used]
theorem XM (es:List aG)(k:Nat):used (es.take k)<=used es:=by
 have:=dO (es.take k) (es.drop k);rw[List.take_append_drop] at this;omega
theorem Vd {es:List aG}{n:Int}(h:ix es n<es.length):XL es n=(ix es n:Int):=by unfold XL;rw[if_pos h]
theorem VU {es:List aG}{n:Int}(h:¬ix es n<es.length):XL es n=-1:=by unfold XL;rw[if_neg h]
def aaf (es:List aG)(n:Int):Value:=if ix es n<es.length then .tuple #[.string (pa es (ix es n)).text,.int .i64 0] else .tuple #[.string ⟨#[]⟩,.int .i64 4]
def uH (es:List aG)(n:Int):List aG:=if ix es n<es.length then es.set (ix es n) {pa es (ix es n) with sure:=((pa es (ix es n)).text.size:Int)} else es
def VW (es:List aG)(n:Int):Int:=if ix es n<es.length then 0 else 4
def KA (n lo hi:Int):Bool:=decide (lo<=n)&&decide (n<=hi)
def tJ (e:aG)(k:Nat):aG:=⟨e.n,(k:Int),e.text.extract 0 k⟩
def xB (es:List aG)(n size:Int):Bool:=KA size 0 ((pa es (ix es n)).text.size:Int)
def Ir (es:List aG)(n size:Int):List aG:=if ix es n<es.length then (if xB es n size then es.set (ix es n) (tJ (pa es (ix es n)) size.toNat) else es) else es
def Ed (es:List aG)(n size:Int):Int:=if ix es n<es.length then (if xB es n size then 0 else 1) else 4
def iF (es:List aG):List Int:=es.map (·.n)
theorem Ve {es:List aG}{k:Nat}(h:k<es.length):iF (es.take (k+1))=iF (es.take k)++[(pa es k).n]:=by
 unfold iF;rw[List.take_succ_eq_append_getElem h,List.map_append,<-fO h];rfl
theorem VX {es:List aG}{k:Nat}(h:k<=es.length):(iF (es.take k)).length=k:=by
 unfold iF;rw[List.length_map,List.length_take];omega
def low (es:List aG)(n:Int):Nat:=es.findIdx (λp=>!decide (p.n<n))
theorem KJ (es:List aG)(n:Int):low es n<=es.length:=List.findIdx_le_length
theorem Tc {es:List aG}{n:Int}{k:Nat}(h:k<low es n):(pa es k).n<n:=by
 have hk:k<es.length:=Nat.lt_of_lt_of_le h (KJ es n);have:=List.not_of_lt_findIdx h;rw[fO hk];simpa using this
theorem Td {es:List aG}{n:Int}(h:low es n<es.length):¬(pa es (low es n)).n<n:=by
 rw[fO h];have:=List.findIdx_getElem (w:=h);simp only[Bool.not_eq_true',decide_eq_false_iff_not] at this;exact this
def AX (e:aG)(s:ByteArray):aG:={e with text:=e.text++s}
def full (es:List aG)(m n:Int)(s:ByteArray):Bool:=decide (m<(s.size:Int)+(used es:Int))||(!decide (ix es n<es.length)&&decide (es.length=20))
def lM (es:List aG)(m n:Int)(s:ByteArray):Int:=if KA n 0 1099511627776=false then 1 else if full es m n s then 8 else 0
def pR (es:List aG)(m n:Int)(s:ByteArray):List aG :=
 if KA n 0 1099511627776=false then es else if full es m n s then es
 else if ix es n<es.length then es.set (ix es n) (AX (pa es (ix es n)) s) else insL es (low es n) ⟨n,0,s⟩
theorem FU {es:List aG}{m n:Int}{s:ByteArray}(h:KA n 0 1099511627776=false):lM es m n s=1/\pR es m n s=es:=by
 unfold lM pR;rw[if_pos h,if_pos h];exact⟨rfl,rfl⟩
theorem AY {es:List aG}{m n:Int}{s:ByteArray}(h:KA n 0 1099511627776=true)(hf:full es m n s=true):lM es m n s=8/\pR es m n s=es:=by
 unfold lM pR;constructor<;>simp[h,hf]
theorem zh {es:List aG}{m n:Int}{s:ByteArray}(h:KA n 0 1099511627776=true)(hf:full es m n s=false)(hi:ix es n<es.length):lM es m n s=0/\pR es m n s=es.set (ix es n) (AX (pa es (ix es n)) s):=by
 unfold lM pR;constructor<;>simp[h,hf,hi]
theorem zi {es:List aG}{m n:Int}{s:ByteArray}(h:KA n 0 1099511627776=true)(hf:full es m n s=false)(hi:¬ix es n<es.length):lM es m n s=0/\pR es m n s=insL es (low es n) ⟨n,0,s⟩:=by
 unfold lM pR;constructor<;>simp[h,hf,hi]
theorem KL {es:List aG}{m n:Int}{s:ByteArray}(h:full es m n s=false)(hh:¬ix es n<es.length):¬m<(s.size:Int)+(used es:Int)/\es.length≠20:=by
 unfold full at h;rw[decide_eq_false hh] at h;simpa using h
theorem aA.more {A A':Nat->Prop}{a b c:World}(h:aA A a b)(k:aA A' b c)(hA:∀i,i<a.heap.size->A' i->A i):aA A a c :=
 ⟨k.os.trans h.os,k.tape.trans h.tape,k.output.trans h.output,Nat.le_trans h.size k.size,λi hi hn=>(k.block i (by have:=h.size;omega) (λq=>hn (hA i hi q))).trans (h.block i hi hn)⟩
theorem XO {es:List aG}{k:Nat}(h:k<=es.length)(x:aG):pa (insL es k x) k=x:=by
 unfold pa insL;have hl:(es.take k).length=k:=by rw[List.length_take];omega
 rw[List.getElem?_append_right (by omega),hl,Nat.sub_self];simp
theorem VY {es:List aG}{k:Nat}(h:k<=es.length)(x y:aG):(insL es k x).set k y=insL es k y:=by
 unfold insL;have hl:(es.take k).length=k:=by rw[List.length_take];omega
 rw[List.set_append_right _ _ (by omega),hl,Nat.sub_self];simp
theorem VZ {L:List aG}{k:Nat}{n:Int}{s:ByteArray}(h:pa L k=⟨n,0,ByteArray.empty⟩):({pa L k with text:=(pa L k).text++s}:aG)=⟨n,0,s⟩:=by rw[h];simp
def Iu (es:List aG)(n:Int):List aG:=if ix es n<es.length then es.take (ix es n)++es.drop (ix es n+1) else es
def qV (e:aG)(keep:Int):Nat:=min e.text.size (e.sure.toNat+keep.toNat)
def xC (keep:Int)(e:aG):aG:=⟨e.n,(qV e keep:Int),e.text.extract 0 (qV e keep)⟩
def Sound (e:aG):Prop:=0<=e.sure/\e.sure<=(e.text.size:Int)/\e.text.size<=1000000
theorem FV (e:aG)(keep:Int):qV e keep<=e.text.size:=Nat.min_le_left _ _
theorem ext_size (t:ByteArray)(c:Nat)(h:c<=t.size):(t.extract 0 c).size=c:=by simp;omega
def nth (l:List Int)(k:Nat):Int:=l[k]?.getD 0
def lF (w:World)(a:Option Addr)(l:List Int):Prop:=∀k,k<l.length->∃b o,a=some ⟨b,o,none⟩/\b<w.heap.size/\w.cell? ⟨b,o+k,none⟩=some (.int .i64 (nth l k))
theorem lF.below {w w':World}{a:Option Addr}{l:List Int}(h:lF w a l)(hb:Below w.heap.size w w'):lF w' a l:=by
 intro k hk;obtain⟨b,o,h1,h2,h3⟩:=h k hk;exact⟨b,o,h1,by have:=hb.size;omega,by rw[hb.cell (p:=⟨b,o+k,none⟩) h2];exact h3⟩
def jI (es:List aG)(n:Int):Option aG:=es.find? (λp=>p.n==n)
theorem XP (n:Int):jI [] n=none:=rfl
theorem jQ (e:aG)(r:List aG)(n:Int):jI (e::r) n=if e.n=n then some e else jI r n:=by
 unfold jI;rw[List.find?_cons];by_cases h:e.n=n
 ·rw[if_pos h,beq_iff_eq.2 h]
 ·rw[if_neg h,beq_eq_false_iff_ne.2 h]
theorem uI (a b:List aG)(n:Int):jI (a++b) n=(jI a n).or (jI b n):=List.find?_append
theorem AZ {l:List aG}{n:Int}(h:∀e∈l,e.n≠n):jI l n=none:=by
 unfold jI;rw[List.find?_eq_none];intro e he;rw[beq_iff_eq];exact h e he
theorem tY {A B:List aG}{x:aG}(hA:∀e∈A,e.n≠x.n)(k:Int):jI (A++x::B) k=if k=x.n then some x else jI (A++B) k:=by
 rw[uI,uI,jQ];by_cases h:k=x.n
 ·rw[if_pos h,if_pos h.symm,h,AZ hA];rfl
 ·rw[if_neg h,if_neg (λq=>h q.symm)]
theorem OW (e:aG)(r:List aG)(n:Int):ix (e::r) n=if e.n=n then 0 else ix r n+1:=by
 unfold ix;rw[List.findIdx_cons];by_cases h:e.n=n
 ·rw[if_pos h,beq_iff_eq.2 h];rfl
 ·rw[if_neg h,beq_eq_false_iff_ne.2 h];rfl
theorem zk:∀(es:List aG) (n:Int),jI es n=if ix es n<es.length then some (pa es (ix es n)) else none
 | [],n=>rfl
 | e::r,n=>by
  rw[jQ,OW];by_cases h:e.n=n
  ·rw[if_pos h,if_pos h,if_pos (by simp)];rfl
  ·rw[if_neg h,if_neg h,zk r n,OV];simp
theorem uJ {es:List aG}{n:Int}(h:ix es n<es.length):jI es n=some (pa es (ix es n)):=by rw[zk,if_pos h]
theorem tZ {es:List aG}{n:Int}(h:¬ix es n<es.length):jI es n=none:=by rw[zk,if_neg h]
theorem Yr {es:List aG}{n:Int}:ix es n<es.length↔(jI es n).isSome=true:=by
 rw[zk];by_cases h:ix es n<es.length
 ·rw[if_pos h];simp[h]
 ·rw[if_neg h];simp[h]
theorem XQ {es:List aG}{n:Int}{e:aG}(h:jI es n=some e):e∈es/\e.n=n:=⟨List.mem_of_find?_eq_some h,by have:=List.find?_some h;simpa using this⟩
theorem xE {es:List aG}{n:Int}(h:¬ix es n<es.length):∀e∈es,e.n≠n:=by
 have q:=tZ h;unfold jI at q;rw[List.find?_eq_none] at q;intro e he;have:=q e he;simpa using this
def oP (es:List aG):Prop:=es.Pairwise (λa b=>a.n<b.n)
theorem lW (es:List aG):oP es↔(iF es).Pairwise (· < ·):=by unfold oP iF;rw[List.pairwise_map]
theorem lX {es:List aG}{i:Nat}(h:i<es.length):es=es.take i++pa es i::es.drop (i+1):=by
 rw[fO h,<-List.drop_eq_getElem_cons h,List.take_append_drop]
theorem qW {es:List aG}{i:Nat}(h:i<es.length)(x:aG):es.set i x=es.take i++x::es.drop (i+1):=by
 rw[List.set_eq_take_append_cons_drop,if_pos h]
theorem kG {A B:List aG}{y:aG}(h:oP (A++y::B)):∀e∈A,e.n≠y.n:=by
 intro e he;have:=(List.pairwise_append.1 h).2.2 e he y (by simp);omega
theorem Ba {A B:List aG}{y:aG}(h:oP (A++y::B)):∀e∈B,e.n≠y.n:=by
 intro e he;have:=List.rel_of_pairwise_cons (List.pairwise_append.1 h).2.1 he;omega
theorem KN {es:List aG}{i:Nat}(h:i<es.length){x:aG}(hx:x.n=(pa es i).n):iF (es.set i x)=iF es:=by
 rw[qW h];conv=>rhs;rw[lX h]
 simp[iF,hx]
theorem cZ (e:aG)(r:List aG):used (e::r)=used r+e.text.size:=by simp[used];omega
theorem KO {es:List aG}{i:Nat}(h:i<es.length)(x:aG):used (es.set i x)+(pa es i).text.size=used es+x.text.size:=by
 rw[qW h];conv=>rhs;rw[lX h]
 rw[dO,dO,cZ,cZ];omega
theorem zn {es:List aG}{i:Nat}(hr:oP es)(h:i<es.length){x:aG}(hx:x.n=(pa es i).n)(k:Int):jI (es.set i x) k=if k=x.n then some x else jI es k:=by
 have e:=lX h;have hA:∀e∈es.take i,e.n≠(pa es i).n:=kG (by rw[<-e];exact hr);rw[qW h,tY (λe he=>by rw[hx];exact hA e he)];by_cases hk:k=x.n
 ·rw[if_pos hk,if_pos hk]
 ·rw[if_neg hk,if_neg hk];conv=>rhs;rw[e]
  rw[tY hA,if_neg (by rw[<-hx];exact hk)]
theorem Bc {es:List aG}{q:Nat}{e:aG}(h:e∈es.take q):∃j,j<q/\j<es.length/\e=pa es j:=by
 obtain⟨j,hj,rfl⟩:=List.getElem_of_mem h;rw[List.length_take] at hj;refine⟨j,by omega,by omega,?_⟩;rw[List.getElem_take,fO (by omega)]
theorem Bf {es:List aG}{q:Nat}{e:aG}(h:e∈es.drop q):∃j,q<=j/\j<es.length/\e=pa es j:=by
 obtain⟨j,hj,rfl⟩:=List.getElem_of_mem h;rw[List.length_drop] at hj;refine⟨q+j,by omega,by omega,?_⟩;rw[List.getElem_drop,fO (by omega)]
theorem OX {es:List aG}(h:oP es){i j:Nat}(hij:i<j)(hj:j<es.length):(pa es i).n<(pa es j).n:=by
 rw[fO (by omega),fO hj];exact List.pairwise_iff_getElem.1 h i j (by omega) hj hij
theorem KP {es:List aG}(h:oP es){x:aG}(hn:∀e∈es,e.n≠x.n):oP (insL es (low es x.n) x):=by
 unfold insL oP;have hA:∀e∈es.take (low es x.n),e.n<x.n:=λe he=>by
  obtain⟨j,h1,h2,rfl⟩:=Bc he;exact Tc h1
 have hB:∀e∈es.drop (low es x.n),x.n<e.n:=λe he=>by
  obtain⟨j,h1,h2,rfl⟩:=Bf he;have q1:=Td (es:=es) (n:=x.n) (by omega);have q2:=hn _ (Ec (l:=es) (k:=low es x.n) (by omega));rcases Nat.eq_or_lt_of_le h1 with z|z
  ·rw[<-z];omega
  ·have:=OX h z h2;omega
 have hp:(es.take (low es x.n)++es.drop (low es x.n)).Pairwise (λa b=>a.n<b.n):=by rw[List.take_append_drop];exact h
 rw[List.pairwise_append] at hp ⊢;refine⟨hp.1,List.pairwise_cons.2 ⟨hB,hp.2.1⟩,λa ha b hb=>?_⟩;rcases List.mem_cons.1 hb with rfl|hb
 ·exact hA a ha
 ·exact hp.2.2 a ha b hb
theorem OY {es:List aG}(q:Nat){x:aG}(hn:∀e∈es,e.n≠x.n)(k:Int):jI (insL es q x) k=if k=x.n then some x else jI es k:=by
 unfold insL;rw[tY (λe he=>hn e (List.mem_of_mem_take he)),List.take_append_drop]
theorem KQ {es:List aG}(q:Nat)(x:aG):used (insL es q x)=used es+x.text.size:=by
 unfold insL;conv=>rhs;rw[<-List.take_append_drop q es]
 rw[dO,dO,cZ];omega
theorem OZ {es:List aG}{q:Nat}{x e:aG}(h:e∈insL es q x):e=x\/e∈es:=by
 unfold insL at h;rw[List.mem_append,List.mem_cons] at h;rcases h with h|h|h
 ·exact .inr (List.mem_of_mem_take h)
 ·exact .inl h
 ·exact .inr (List.mem_of_mem_drop h)
theorem O0 {es:List aG}{i:Nat}(hr:oP es)(h:i<es.length)(k:Int):jI (es.take i++es.drop (i+1)) k=if k=(pa es i).n then none else jI es k:=by
 have e:=lX h;have hr':oP (es.take i++pa es i::es.drop (i+1)):=by rw[<-e];exact hr
 by_cases hk:k=(pa es i).n
 ·rw[if_pos hk];refine AZ (λe he=>?_);rw[hk];rcases List.mem_append.1 he with q|q
  ·exact kG hr' e q
  ·exact Ba hr' e q
 ·rw[if_neg hk];conv=>rhs;rw[e]
  rw[tY (kG hr'),if_neg hk]
theorem KR {es:List aG}{i:Nat}(h:i<es.length):used (es.take i++es.drop (i+1))+(pa es i).text.size=used es:=by
 conv=>rhs;rw[lX h]
 rw[dO,dO,cZ];omega
theorem O1 (es:List aG)(i:Nat):(es.take i++es.drop (i+1)).Sublist es:=by
 conv=>rhs;rw[<-List.take_append_drop i es]
 refine List.Sublist.append (List.Sublist.refl _) ?_;rw[<-List.drop_drop];exact List.drop_sublist 1 _
theorem O3 (es:List aG)(f:aG->aG)(hf:∀e,(f e).n=e.n)(k:Int):jI (es.map f) k=(jI es k).map f:=by
 induction es with
 | nil=>rfl
 | cons e r ih =>
  rw[List.map_cons,jQ,jQ,hf,ih];by_cases h:e.n=k
  ·rw[if_pos h,if_pos h];rfl
  ·rw[if_neg h,if_neg h]
structure Tidy (m:Int)(es:List aG):Prop where
 rise:oP es
 few:es.length<=20
 fits:(used es:Int)<=m
 each:∀e∈es,KA e.n 0 1099511627776=true/\0<=e.sure/\e.sure<=(e.text.size:Int)
theorem Tidy.nil {m:Int}(h:0<=m):Tidy m []:=⟨List.Pairwise.nil,by simp,by simpa[used] using h,λe he=>by simp at he⟩
theorem KT {es:List aG}{e:aG}(h:e∈es):e.text.size<=used es:=by
 induction es with
 | nil=>simp at h
 | cons x r ih =>
  rw[cZ];rcases List.mem_cons.1 h with rfl|h
  ·omega
  ·have:=ih h;omega
theorem Tidy.sound {m:Int}{es:List aG}(h:Tidy m es)(hm:m<=1000000):∀e∈es,Sound e:=λe he=>⟨(h.each e he).2.1,(h.each e he).2.2,by have:=KT he;have:=h.fits;omega⟩
theorem Tidy.set {m:Int}{es:List aG}(h:Tidy m es){i:Nat}(hi:i<es.length){x:aG}(hx:x.n=(pa es i).n)(hu:(used es:Int)+(x.text.size:Int)<=m+((pa es i).text.size:Int))(h0:0<=x.sure)(h1:x.sure<=(x.text.size:Int)):Tidy m (es.set i x):=by
 refine⟨?_,by rw[List.length_set];exact h.few,?_,?_⟩
 ·rw[lW,KN hi hx,<-lW];exact h.rise
 ·have:=KO hi x;omega
 ·intro e he;rcases List.mem_or_eq_of_mem_set he with q|q
  ·exact h.each e q
  ·subst q;refine⟨?_,h0,h1⟩;rw[hx];exact(h.each _ (Ec hi)).1
def Tf (o:Option aG)(n:Int)(s:ByteArray):aG:=match o with
 | some e=>AX e s
 | none=>⟨n,0,s⟩
theorem xG {es:List aG}{m n:Int}{s:ByteArray}(h:full es m n s=false):(s.size:Int)+(used es:Int)<=m:=by
 unfold full at h;simp only[Bool.or_eq_false_iff,decide_eq_false_iff_not] at h;omega
theorem zo {es:List aG}{m n:Int}{s:ByteArray}:lM es m n s=0↔KA n 0 1099511627776=true/\full es m n s=false:=by
 cases hI:KA n 0 1099511627776 with
 | false=>rw[(FU hI).1];simp
 | true =>
  cases hf:full es m n s with
  | true=>rw[(AY hI hf).1];simp
  | false =>
   by_cases hh:ix es n<es.length
   ·rw[(zh hI hf hh).1];simp
   ·rw[(zi hI hf hh).1];simp
theorem FW {es:List aG}{m n:Int}{s:ByteArray}(h:lM es m n s≠0):pR es m n s=es:=by
 cases hI:KA n 0 1099511627776 with
 | false=>exact(FU hI).2
 | true =>
  cases hf:full es m n s with
  | true=>exact(AY hI hf).2
  | false=>exact absurd (zo.2 ⟨hI,hf⟩) h
theorem Iw (e:aG)(s:ByteArray):(AX e s).text.size=e.text.size+s.size:=by simp[AX]
theorem Tidy.app {m:Int}{es:List aG}(h:Tidy m es)(n:Int)(s:ByteArray):Tidy m (pR es m n s):=by
 by_cases he:lM es m n s=0
 ·obtain⟨hI,hf⟩:=zo.1 he;have hu:=xG hf;by_cases hh:ix es n<es.length
  ·rw[(zh hI hf hh).2];have hs:=(h.each _ (Ec hh)).2;have hz:=Iw (pa es (ix es n)) s;exact h.set hh rfl (by omega) hs.1 (by have:(AX (pa es (ix es n)) s).sure=(pa es (ix es n)).sure:=rfl;omega)
  ·rw[(zi hI hf hh).2];refine⟨KP (x:=⟨n,0,s⟩) h.rise (xE hh),?_,?_,?_⟩
   ·rw[AV (KJ _ _)];have:=(KL hf hh).2;have:=h.few;omega
   ·rw[KQ];show((used es+s.size:Nat):Int)<=m;omega
   ·intro e q;rcases OZ q with rfl|q
    ·exact⟨hI,by show(0:Int)<=0;omega,by show(0:Int)<=(s.size:Int);omega⟩
    ·exact h.each e q
 ·rw[FW he];exact h
theorem XR {m:Int}{es:List aG}(h:Tidy m es)(n:Int)(s:ByteArray)(k:Int):jI (pR es m n s) k=if lM es m n s=0/\k=n then some (Tf (jI es n) n s) else jI es k:=by
 by_cases he:lM es m n s=0
 ·obtain⟨hI,hf⟩:=zo.1 he;by_cases hh:ix es n<es.length
  ·rw[(zh hI hf hh).2,zn (x:=AX (pa es (ix es n)) s) h.rise hh rfl,uJ hh];have:(AX (pa es (ix es n)) s).n=n:=FT hh;rw[this];simp[he,Tf]
  ·rw[(zi hI hf hh).2,OY _ (x:=⟨n,0,s⟩) (xE hh),tZ hh];simp[he,Tf]
 ·rw[FW he,if_neg (λq=>he q.1)]
theorem zq {es:List aG}{n size:Int}:Ed es n size=0↔ix es n<es.length/\xB es n size=true:=by
 unfold Ed;by_cases h:ix es n<es.length
 ·rw[if_pos h]
  cases xB es n size<;>simp[h]
 ·rw[if_neg h];simp[h]
theorem KU {es:List aG}{n size:Int}(h:Ed es n size=0):Ir es n size=es.set (ix es n) (tJ (pa es (ix es n)) size.toNat):=by
 obtain⟨h1,h2⟩:=zq.1 h;unfold Ir;rw[if_pos h1,if_pos h2]
theorem FX {es:List aG}{n size:Int}(h:Ed es n size≠0):Ir es n size=es:=by
 unfold Ir;by_cases h1:ix es n<es.length
 ·rw[if_pos h1];by_cases h2:xB es n size=true
  ·exact absurd (zq.2 ⟨h1,h2⟩) h
  ·rw[if_neg h2]
 ·rw[if_neg h1]
theorem qX {e:aG}{k:Nat}(h:k<=e.text.size):(tJ e k).text.size=k:=ext_size _ _ h
theorem Tidy.cut {m:Int}{es:List aG}(h:Tidy m es)(n size:Int):Tidy m (Ir es n size):=by
 by_cases he:Ed es n size=0
 ·obtain⟨h1,h2⟩:=zq.1 he;have hz:0<=size/\size<=((pa es (ix es n)).text.size:Int):=by simpa[xB,KA] using h2
  have hq:=qX (e:=pa es (ix es n)) (k:=size.toNat) (by omega);have hf:=h.fits;rw[KU he];have hs:(tJ (pa es (ix es n)) size.toNat).sure=(size.toNat:Int):=rfl;exact h.set h1 rfl (by omega) (by omega) (by omega)
 ·rw[FX he];exact h
theorem XT {m:Int}{es:List aG}(h:Tidy m es)(n size:Int)(k:Int):jI (Ir es n size) k=if Ed es n size=0/\k=n then (jI es n).map (tJ · size.toNat) else jI es k:=by
 by_cases he:Ed es n size=0
 ·obtain⟨h1,h2⟩:=zq.1 he;rw[KU he,zn (x:=tJ (pa es (ix es n)) size.toNat) h.rise h1 rfl,uJ h1];have:(tJ (pa es (ix es n)) size.toNat).n=n:=FT h1;rw[this];simp[he]
 ·rw[FX he,if_neg (λq=>he q.1)]
theorem Yt {es:List aG}{n:Int}:VW es n=0↔ix es n<es.length:=by
 unfold VW;by_cases h:ix es n<es.length
 ·rw[if_pos h];simp[h]
 ·rw[if_neg h];simp[h]
def FY (e:aG):aG:={e with sure:=(e.text.size:Int)}
theorem Tidy.sync {m:Int}{es:List aG}(h:Tidy m es)(n:Int):Tidy m (uH es n):=by
 unfold uH;by_cases hh:ix es n<es.length
 ·rw[if_pos hh];have hf:=h.fits;exact h.set hh rfl (by show(used es:Int)+((pa es (ix es n)).text.size:Int)<=_;omega) (by show(0:Int)<=((pa es (ix es n)).text.size:Int);omega) (by show((pa es (ix es n)).text.size:Int)<=((pa es (ix es n)).text.size:Int);omega)
 ·rw[if_neg hh];exact h
theorem V3 {m:Int}{es:List aG}(h:Tidy m es)(n:Int)(k:Int):jI (uH es n) k=if k=n then (jI es n).map FY else jI es k:=by
 unfold uH;by_cases hh:ix es n<es.length
 ·rw[if_pos hh];show jI (es.set (ix es n) (FY (pa es (ix es n)))) k=_;rw[zn (x:=FY (pa es (ix es n))) h.rise hh rfl,uJ hh];have:(FY (pa es (ix es n))).n=n:=FT hh;rw[this];rfl
 ·rw[if_neg hh];by_cases hk:k=n
  ·rw[if_pos hk,hk,tZ hh];rfl
  ·rw[if_neg hk]
theorem Tidy.rem {m:Int}{es:List aG}(h:Tidy m es)(n:Int):Tidy m (Iu es n):=by
 unfold Iu;by_cases hh:ix es n<es.length
 ·rw[if_pos hh];have hs:=O1 es (ix es n);refine⟨List.Pairwise.sublist hs h.rise,?_,?_,λe he=>h.each e (hs.subset he)⟩
  ·have:=hs.length_le;have:=h.few;omega
  ·have:=KR hh;have:=h.fits;omega
 ·rw[if_neg hh];exact h
theorem XU {m:Int}{es:List aG}(h:Tidy m es)(n:Int)(k:Int):jI (Iu es n) k=if k=n then none else jI es k:=by
 unfold Iu;by_cases hh:ix es n<es.length
 ·rw[if_pos hh,O0 h.rise hh,FT hh]
 ·rw[if_neg hh];by_cases hk:k=n
  ·rw[if_pos hk,hk,tZ hh]
  ·rw[if_neg hk]
theorem xH (keep:Int)(e:aG):(xC keep e).text.size=qV e keep:=ext_size _ _ (FV e keep)
theorem xI (keep:Int):∀es:List aG,used (es.map (xC keep))<=used es
 | []=>by simp
 | e::r=>by
  rw[List.map_cons,cZ,cZ,xH];have:=FV e keep;have:=xI keep r;omega
theorem Tidy.stop {m:Int}{es:List aG}(h:Tidy m es)(keep:Int):Tidy m (es.map (xC keep)):=by
 refine⟨?_,by rw[List.length_map];exact h.few,?_,?_⟩
 ·unfold oP;rw[List.pairwise_map];exact h.rise
 ·have:=xI keep es;have:=h.fits;omega
 ·intro e he;obtain⟨x,hx,rfl⟩:=List.mem_map.1 he;refine⟨(h.each x hx).1,?_,?_⟩
  ·show(0:Int)<=(qV x keep:Int);omega
  ·rw[xH];show(qV x keep:Int)<=_;omega
theorem V4 (es:List aG)(keep:Int)(k:Int):jI (es.map (xC keep)) k=(jI es k).map (xC keep):=O3 es (xC keep) (λ_=>rfl) k
theorem O4 {es:List aG}{k:Int}:k∈iF es↔(jI es k).isSome=true:=by
 unfold iF jI;rw[List.mem_map,List.find?_isSome];constructor
 ·rintro ⟨e,he,rfl⟩;exact⟨e,he,by simp⟩
 ·rintro ⟨e,he,h⟩;exact⟨e,he,by simpa using h⟩
theorem xJ:∀(a b:List Int),a.Pairwise (· < ·)->b.Pairwise (· < ·)->(∀k,k∈a↔k∈b)->a=b
 | [],[],_,_,_=>rfl
 | [],y::b,_,_,h=>absurd ((h y).2 (by simp)) (by simp)
 | x::a,[],_,_,h=>absurd ((h x).1 (by simp)) (by simp)
 | x::a,y::b,ha,hb,h=>by
  have ha':=List.pairwise_cons.1 ha;have hb':=List.pairwise_cons.1 hb;have hxy:x=y:=by
   rcases List.mem_cons.1 ((h x).1 (by simp)) with q|q
   ·exact q
   ·rcases List.mem_cons.1 ((h y).2 (by simp)) with p|p
    ·exact p.symm
    ·have:=hb'.1 x q;have:=ha'.1 y p;omega
  subst hxy;have:a=b:=xJ a b ha'.2 hb'.2 (λk=>⟨λq=>by
   rcases List.mem_cons.1 ((h k).1 (by simp[q])) with p|p
   ·have:=ha'.1 k q;omega
   ·exact p,λq=>by
   rcases List.mem_cons.1 ((h k).2 (by simp[q])) with p|p
   ·have:=hb'.1 k q;omega
   ·exact p⟩)
  rw[this]
theorem Tidy.list {m:Int}{es:List aG}(h:Tidy m es){l:List Int}(hl:l.Pairwise (· < ·))(hm:∀k,k∈l↔(jI es k).isSome=true):l=iF es :=
 xJ l _ hl ((lW es).1 h.rise) (λk=>by rw[hm,O4])
def lY (es:List aG)(k:Int):Nat:=match jI es k with
 | some e=>e.text.size
 | none=>0
theorem Bg:∀{es:List aG},oP es->used es=((iF es).map (lY es)).sum
 | [],_=>by simp[used,iF]
 | e::r,h=>by
  have h':=List.pairwise_cons.1 h;have ih:=Bg (es:=r) h'.2;have e1:lY (e::r) e.n=e.text.size:=by unfold lY;rw[jQ,if_pos rfl]
  have e2:(iF r).map (lY (e::r))=(iF r).map (lY r):=by
   refine List.map_congr_left (λk hk=>?_);have:e.n≠k:=by
    obtain⟨x,hx,rfl⟩:=List.mem_map.1 hk;have:=h'.1 x hx;omega
   unfold lY;rw[jQ,if_neg this]
  show used (e::r)=((e.n::iF r).map (lY (e::r))).sum;rw[List.map_cons,List.sum_cons,e1,e2,cZ,ih];omega
theorem Tidy.used {m:Int}{es:List aG}(h:Tidy m es){l:List Int}(hl:l.Perm (iF es)):(l.map (lY es)).sum=used es:=by
 rw[Bg h.rise];exact(hl.map _).sum_nat
end Go.Proofs.YtmhbobnfmncdbaaGreatDoor.Dk
namespace Go.Proofs.YtmhbobnfmncdbaaGreatDoor.Pk
open Go.Proofs.Tryz
def at' (l:List UInt8)(k:Nat):Nat:=(l[k]?.getD 0).toNat
theorem V5 (l:List UInt8)(k:Nat):at' l k<256:=UInt8.toNat_lt _
theorem fV (c:UInt8)(l:List UInt8):at' (c::l) 0=c.toNat:=rfl
theorem iD (c:UInt8)(l:List UInt8)(k:Nat):at' (c::l) (k+1)=at' l k:=rfl
theorem uK {l m:List UInt8}{k:Nat}(h:k<l.length):at' (l++m) k=at' l k:=by
 unfold at';rw[List.getElem?_append_left h]
theorem Yu {l:List UInt8}{k:Nat}(h:k<l.length):at' l k=(l[k]).toNat:=by
 unfold at';rw[List.getElem?_eq_getElem h];rfl
theorem O5 {l:List UInt8}{k i:Nat}(h:k<i):at' (l.take i) k=at' l k:=by
 unfold at';rw[List.getElem?_take_of_lt h]
def enc (n:Nat):List UInt8:=if n<128 then [UInt8.ofNat n] else UInt8.ofNat (128+n % 128)::enc (n / 128)
theorem gB {n:Nat}(h:n<128):enc n=[UInt8.ofNat n]:=by rw[enc,if_pos h]
theorem iW {n:Nat}(h:¬n<128):enc n=UInt8.ofNat (128+n % 128)::enc (n / 128):=by rw[enc,if_neg h]
theorem sD {n:Nat}(h:n<256):(UInt8.ofNat n).toNat=n:=by simp;omega
theorem jB (n:Nat):1<=(enc n).length:=by
 by_cases h:n<128
 ·rw[gB h];simp
 ·rw[iW h];simp
theorem xK:∀(m:Nat) {n:Nat},n<128 ^ (m+1)->(enc n).length<=m+1
 | 0,n,h=>by rw[gB (by simpa using h)];simp
 | m+1,n,h=>by
  by_cases hs:n<128
  ·rw[gB hs];simp
  ·rw[iW hs,List.length_cons];have:n / 128<128 ^ (m+1):=by rw[Nat.div_lt_iff_lt_mul (by decide)];rw[Nat.pow_succ] at h;exact h
   have:=xK m this;omega
theorem uM {n:Nat}(h:n<9223372036854775808):(enc n).length<=9:=xK 8 (by simpa using h)
def lead:List UInt8->Nat->Nat
 | [],_=>0
 | _::_,0=>0
 | c::r,m+1=>if c.toNat<128 then 0 else lead r m+1
theorem FZ:∀{l:List UInt8} {m k:Nat},k<=m->k<=l.length->(∀j,j<k->128<=at' l j)->(k=m\/k=l.length\/at' l k<128)->lead l m=k
 | [],m,k,_,h2,_,_=>by simp at h2;subst h2;simp[lead]
 | c::r,0,k,h1,_,_,_=>by simp at h1;subst h1;simp[lead]
 | c::r,m+1,0,_,_,_,h=>by
  rcases h with h|h|h
  ·cases h
  ·simp at h
  ·rw[fV] at h;simp[lead,h]
 | c::r,m+1,k+1,h1,h2,h3,h4=>by
  have h0:=h3 0 (by omega);rw[fV] at h0;have e:=FZ (l:=r) (m:=m) (k:=k) (by omega) (by simpa using h2) (λj hj=>by have:=h3 (j+1) (by omega);rwa [iD] at this) (by
   rcases h4 with h|h|h
   ·exact .inl (by omega)
   ·exact .inr (.inl (by simpa using h))
   ·exact .inr (.inr (by rwa [iD] at h)))
  simp[lead,e];omega
theorem F5:∀(l:List UInt8) (m:Nat),lead l m<=m/\lead l m<=l.length
 | [],m=>by simp[lead]
 | _::_,0=>by simp[lead]
 | c::r,m+1=>by
  have:=F5 r m;unfold lead;split<;>simp<;>omega
theorem uN:∀{l:List UInt8} {m j:Nat},j<lead l m->128<=at' l j
 | [],m,j,h=>by simp[lead] at h
 | _::_,0,j,h=>by simp[lead] at h
 | c::r,m+1,j,h=>by
  unfold lead at h;split at h
  ·omega
  ·cases j with
   | zero=>rw[fV];omega
   | succ j=>rw[iD];exact uN (m:=m) (by omega)
theorem xM:∀{l:List UInt8} {m:Nat},lead l m<m->lead l m<l.length->at' l (lead l m)<128
 | [],m,_,h=>by simp[lead] at h
 | _::_,0,h,_=>by simp[lead] at h
 | c::r,m+1,h1,h2=>by
  unfold lead at h1 h2 ⊢;split
  ·rw[fV];assumption
  ·rw[iD];rename_i hc;rw[if_neg hc] at h1 h2;exact xM (by omega) (by simpa using h2)
def val (l:List UInt8)(i:Nat):Nat->Nat
 | 0=>0
 | m+1=>at' l i % 128+128*val l (i+1) m
theorem val_succ (l:List UInt8)(i m:Nat):val l i (m+1)=at' l i % 128+128*val l (i+1) m:=rfl
theorem qY (c:UInt8)(l:List UInt8):∀(m i:Nat),val (c::l) (i+1) m=val l i m
 | 0,_=>rfl
 | m+1,i=>by rw[val_succ,val_succ,iD,qY c l m (i+1)]
theorem val_last (l:List UInt8):∀(m i:Nat),val l i (m+1)=val l i m+128 ^ m*(at' l (i+m) % 128)
 | 0,i=>by simp[val]
 | m+1,i=>by
  rw[val_succ,val_last l m (i+1),val_succ,Nat.pow_succ,Nat.mul_add,<-Nat.add_assoc];rw[show i+1+m=i+(m+1) from by omega,Nat.mul_comm (128 ^ m) 128,Nat.mul_assoc]
theorem KW (l:List UInt8):∀(m i:Nat),val l i m<128 ^ m
 | 0,_=>by simp[val]
 | m+1,i=>by
  have:=KW l m (i+1);rw[val_succ,Nat.pow_succ];have:=Nat.mod_lt (at' l i) (show 0<128 by decide);omega
def rd (l:List UInt8):Nat×Nat×Nat :=
 if lead l 9=9 then (0,0,7) else if lead l 9=l.length then (0,0,6) else if 0<lead l 9/\at' l (lead l 9)=0 then (0,0,7)
 else (val l 0 (lead l 9+1),lead l 9+1,0)
theorem Bh (more:List UInt8)(n:Nat):∀m,(enc n).length<=m->lead (enc n++more) m=(enc n).length-1:=by
 induction n using Nat.strongRecOn with
 | _ n ih =>
  intro m hm;by_cases hs:n<128
  ·rw[gB hs] at hm ⊢;obtain⟨m,rfl⟩:∃k,m=k+1:=⟨m-1,by simp at hm;omega⟩;simp[lead];omega
  ·rw[iW hs] at hm ⊢;obtain⟨m,rfl⟩:∃k,m=k+1:=⟨m-1,by simp at hm;omega⟩;have e:=ih (n / 128) (by omega) m (by simpa using hm);have p:=jB (n / 128);rw[List.cons_append,lead,sD (by omega),if_neg (by omega),e,List.length_cons];omega
theorem O6 (more:List UInt8)(n:Nat):val (enc n++more) 0 (enc n).length=n:=by
 induction n using Nat.strongRecOn with
 | _ n ih =>
  by_cases hs:n<128
  ·rw[gB hs];simp[val,at'];omega
  ·have e:=ih (n / 128) (by omega);rw[iW hs,List.cons_append,List.length_cons,val_succ,qY,e,fV,sD (by omega)];omega
theorem KX (more:List UInt8)(n:Nat):0<n->at' (enc n++more) ((enc n).length-1)≠0:=by
 induction n using Nat.strongRecOn with
 | _ n ih =>
  intro h0;by_cases hs:n<128
  ·rw[gB hs];simp[at'];omega
  ·have e:=ih (n / 128) (by omega) (by omega);have p:=jB (n / 128);rw[iW hs,List.cons_append,List.length_cons];rw[show(enc (n / 128)).length+1-1=((enc (n / 128)).length-1)+1 from by omega,iD];exact e
theorem jJ {n:Nat}(h:n<9223372036854775808)(more:List UInt8):rd (enc n++more)=(n,(enc n).length,0):=by
 have h9:=uM h;have p:=jB n;have e:=Bh more n 9 h9;unfold rd;rw[e,if_neg (by omega),if_neg (by simp;omega),if_neg]
 ·rw[show(enc n).length-1+1=(enc n).length from by omega,O6]
 ·rintro ⟨h1,h2⟩;by_cases hn:0<n
  ·exact KX more n hn h2
  ·rw[gB (by omega)] at h1;simp at h1
theorem Bj {n i:Nat}(h:n<9223372036854775808)(hi:i<(enc n).length)(more:List UInt8):rd ((enc n++more).take i)=(0,0,6):=by
 have h9:=uM h;have e0:=Bh more n 9 h9;have hl:((enc n++more).take i).length=i:=by simp;omega
 have e:lead ((enc n++more).take i) 9=i:=FZ (by omega) (by omega) (λj hj=>by rw[O5 hj];exact uN (m:=9) (by omega)) (.inr (.inl hl.symm));unfold rd;rw[e,hl,if_neg (by omega),if_pos rfl]
theorem F6:∀(k:Nat) {l:List UInt8},k<l.length->(∀j,j<k->128<=at' l j)->at' l k<128->(k=0\/at' l k≠0)->enc (val l 0 (k+1))=l.take (k+1)
 | k,[],h,_,_,_=>by simp at h
 | 0,c::r,_,_,h2,_=>by
  rw[fV] at h2;rw[val_succ,fV,val,gB (by omega)];simp[Nat.mod_eq_of_lt h2]
 | k+1,c::r,h0,h1,h2,h3=>by
  rw[iD] at h2 h3;have hne:at' r k≠0:=by omega
  have e:=F6 k (l:=r) (by simpa using h0) (λj hj=>by have:=h1 (j+1) (by omega);rwa [iD] at this) h2 (.inr hne);have hc:=h1 0 (by omega);rw[fV] at hc;have hcl:=UInt8.toNat_lt c;have hp:0<val r 0 (k+1):=by
   rw[val_last,Nat.zero_add,Nat.mod_eq_of_lt h2];have:=Nat.mul_pos (show 0<128 ^ k from Nat.pow_pos (by decide)) (show 0<at' r k by omega);omega
  rw[val_succ,qY,fV,iW (by omega)];rw[show(c.toNat % 128+128*val r 0 (k+1)) / 128=val r 0 (k+1) from by omega,e];rw[show 128+(c.toNat % 128+128*val r 0 (k+1)) % 128=c.toNat from by omega];simp
theorem Yv {l:List UInt8}(h:(rd l).2.2≠0):(rd l).1=0/\(rd l).2.1=0:=by
 unfold rd at h ⊢;split
 ·exact⟨rfl,rfl⟩
 split
 ·exact⟨rfl,rfl⟩
 split
 ·exact⟨rfl,rfl⟩
 ·rename_i h1 h2 h3;rw[if_neg h1,if_neg h2,if_neg h3] at h;exact absurd rfl h
theorem F7 {l:List UInt8}(h:(rd l).2.2=0):enc (rd l).1=l.take (rd l).2.1/\(rd l).2.1<=l.length/\(rd l).1<9223372036854775808/\1<=(rd l).2.1/\(rd l).2.1<=9:=by
 have hl:=F5 l 9;unfold rd at h ⊢;split
 ·rename_i h1;rw[if_pos h1] at h;cases h
 rename_i h1;rw[if_neg h1] at h;split
 ·rename_i h2;rw[if_pos h2] at h;cases h
 rename_i h2;rw[if_neg h2] at h;split
 ·rename_i h3;rw[if_pos h3] at h;cases h
 rename_i h3;refine⟨F6 _ (by omega) (λj hj=>uN hj) (xM (by omega) (by omega)) (by omega),by show lead l 9+1<=_;omega,?_,by show 1<=lead l 9+1;omega,by show lead l 9+1<=9;omega⟩;refine Nat.lt_of_lt_of_le (KW l _ 0) ?_;exact Nat.le_trans (Nat.pow_le_pow_right (by decide) (show lead l 9+1<=9 by omega)) (by decide)
def rt (l:List UInt8)(most:Int):List UInt8×Nat×Nat :=
 if (rd l).2.2≠0 then ([],0,(rd l).2.2) else if most<(rd l).1 then ([],0,7) else if l.length<(rd l).2.1+(rd l).1 then ([],0,6)
 else ((l.drop (rd l).2.1).take (rd l).1,(rd l).2.1+(rd l).1,0)
def txt (t:List UInt8):List UInt8:=enc t.length++t
theorem Yw {t:List UInt8}(h:t.length<9223372036854775808)(more:List UInt8):rt (txt t++more) t.length=(t,(txt t).length,0):=by
 unfold rt txt;rw[List.append_assoc,jJ h];simp only[];rw[if_neg (by simp),if_neg (by omega),if_neg (by simp)];simp
theorem V6 {t:List UInt8}{i:Nat}(h:t.length<9223372036854775808)(hi:i<(txt t).length):(rt ((txt t).take i) t.length).2.2=6:=by
 unfold rt;by_cases hl:i<(enc t.length).length
 ·unfold txt;rw[Bj h hl];rfl
 ·have e:(txt t).take i=enc t.length++t.take (i-(enc t.length).length):=by
   unfold txt;rw[List.take_append,List.take_of_length_le (by omega)]
  have hi':=hi;unfold txt at hi';rw[List.length_append] at hi';rw[e,jJ h];simp only[];rw[if_neg (by simp),if_neg (by omega),if_pos (by simp;omega)]
def Z (r:Nat):Nat:=(r / 2) ^^^ (if r % 2=1 then 3988292384 else 0)
theorem V7 {r:Nat}(h:r<4294967296):Z r<4294967296:=by
 unfold Z;exact Nat.xor_lt_two_pow (n:=32) (by omega) (by split<;>decide)
theorem KY (a b:Nat):(a ^^^ b) / 2=a / 2 ^^^ b / 2:=by
 apply Nat.eq_of_testBit_eq;intro i;simp[Nat.testBit_div_two]
theorem F8 (a b:Nat):(a ^^^ b) % 2=(a % 2+b % 2) % 2:=by
 have:=Nat.testBit_xor a b 0;simp only[Nat.testBit_zero] at this;have ha:a % 2=0\/a % 2=1:=by omega
 have hb:b % 2=0\/b % 2=1:=by omega
 have hc:(a ^^^ b) % 2=0\/(a ^^^ b) % 2=1:=by omega
 rcases ha with ha|ha<;>rcases hb with hb|hb<;>rcases hc with hc|hc<;>simp[ha,hb,hc] at this ⊢
theorem KZ (a b:Nat):Z (a ^^^ b)=Z a ^^^ Z b:=by
 unfold Z;rw[KY,F8];have ha:a % 2=0\/a % 2=1:=by omega
 have hb:b % 2=0\/b % 2=1:=by omega
 rcases ha with ha|ha<;>rcases hb with hb|hb<;>simp only[ha,hb]
 ·simp
 ·simp[Nat.xor_assoc]
 ·simp only[Nat.zero_ne_one,↓reduceIte,Nat.xor_zero];ac_rfl
 ·simp only[Nat.reduceAdd,Nat.reduceMod,Nat.zero_ne_one,↓reduceIte,Nat.xor_zero];rw[show a / 2 ^^^ 3988292384 ^^^ (b / 2 ^^^ 3988292384)=(a / 2 ^^^ b / 2) ^^^ (3988292384 ^^^ 3988292384) from by ac_rfl,Nat.xor_self,Nat.xor_zero]
theorem Ee {r:Nat}(hr:r<4294967296)(h:Z r=0):r=0:=by
 unfold Z at h;by_cases ho:r % 2=1
 ·rw[if_pos ho] at h;have hb:=congrArg (λn=>n.testBit 31) h;simp only[Nat.testBit_xor,Nat.zero_testBit] at hb;rw[Nat.testBit_lt_two_pow (show r / 2<2 ^ 31 by omega)] at hb;exact absurd hb (by decide)
 ·rw[if_neg ho,Nat.xor_zero] at h;omega
def reg (f:Nat->Nat):Nat->Nat
 | 0=>4294967295
 | n+1=>Z (reg f n ^^^ f n)
def pU (l:List UInt8)(j:Nat):Nat:=at' l (j / 8) / 2 ^ (j % 8) % 2
theorem dN (l:List UInt8)(j:Nat):pU l j<2:=Nat.mod_lt _ (by decide)
theorem kH {f:Nat->Nat}(hf:∀j,f j<2):∀n,reg f n<4294967296
 | 0=>by show 4294967295<4294967296;decide
 | n+1=>V7 (Nat.xor_lt_two_pow (n:=32) (kH hf n) (by have:=hf n;omega))
def crc (l:List UInt8):Nat:=4294967295-reg (pU l) (8*l.length)
theorem RH {a b:Nat}(h:a ^^^ b=0):a=b:=by
 have:=congrArg (· ^^^ b) h;simpa[Nat.xor_assoc] using this
theorem iY {f g:Nat->Nat}(n:Nat):reg f (n+1) ^^^ reg g (n+1)=Z ((reg f n ^^^ reg g n) ^^^ (f n ^^^ g n)):=by
 show Z (reg f n ^^^ f n) ^^^ Z (reg g n ^^^ g n)=_;rw[<-KZ];congr 1
 ac_rfl
def Zs:Nat->Nat->Nat
 | 0,r=>r
 | n+1,r=>Z (Zs n r)
theorem RI {r:Nat}(h:r<4294967296):∀n,Zs n r<4294967296
 | 0=>h
 | n+1=>V7 (RI h n)
theorem RJ {r:Nat}(h:r<4294967296)(h0:r≠0):∀n,Zs n r≠0
 | 0=>h0
 | n+1=>λe=>RJ h h0 n (Ee (RI h n) e)
theorem V8 {f g:Nat->Nat}(hf:∀j,f j<2)(hg:∀j,g j<2){k turn:Nat}(ht:turn<4294967296)(h0:turn≠0)
 (h:∀j,f j ^^^ g j=if k<=j/\j<k+32 then turn / 2 ^ (j-k) % 2 else 0) {N:Nat} (hN:k+32<=N):reg f N≠reg g N:=by
 have hpre:∀n,n<=k->reg f n ^^^ reg g n=0:=by
  intro n;induction n with
  | zero=>intro _;simp[reg]
  | succ n ih =>
   intro hn;rw[iY,ih (by omega),h,if_neg (by omega)];rfl
 have hmid:∀i,i<=32->(reg f (k+i) ^^^ reg g (k+i)) ^^^ (turn / 2 ^ i)=Zs i turn:=by
  intro i;induction i with
  | zero=>intro _;rw[Nat.add_zero,hpre k (Nat.le_refl _)];simp[Zs]
  | succ i ih =>
   intro hi;have e:=ih (by omega);rw[<-Nat.add_assoc,iY,h,if_pos (by omega),show k+i-k=i from by omega,Zs,<-e];have hd:turn / 2 ^ (i+1)=turn / 2 ^ i / 2:=by rw[Nat.pow_succ,Nat.div_div_eq_div_mul]
   have hz:∀x,Z x=Z (x % 2) ^^^ (x / 2):=by
    intro x;unfold Z;have:x % 2 / 2=0:=by omega
    rw[this,Nat.zero_xor,Nat.mod_mod,Nat.xor_comm]
   rw[KZ,KZ (reg f (k+i) ^^^ reg g (k+i)),hd,hz (turn / 2 ^ i)];ac_rfl
 have hend:∀n,reg f (k+32+n) ^^^ reg g (k+32+n)≠0:=by
  intro n;induction n with
  | zero =>
   have e:=hmid 32 (Nat.le_refl _);rw[Nat.div_eq_of_lt (show turn<2 ^ 32 by omega),Nat.xor_zero] at e;rw[Nat.add_zero,e];exact RJ ht h0 32
  | succ n ih =>
   intro e;rw[<-Nat.add_assoc,iY,h,if_neg (by omega),Nat.xor_zero] at e;exact ih (Ee (Nat.xor_lt_two_pow (n:=32) (kH hf _) (kH hg _)) e)
 intro e;have:=hend (N-(k+32));rw[show k+32+(N-(k+32))=N from by omega,e,Nat.xor_self] at this;exact this rfl
theorem La {l x:List UInt8}{most:Int}{n:Nat}(h:rt l most=(x,n,0)):txt x=l.take n/\n<=l.length/\(x.length:Int)<=most:=by
 unfold rt at h;split at h
 ·rename_i he;injection h with _ h;injection h with _ h;exact absurd h he
 rename_i he;have he0:(rd l).2.2=0:=Classical.byContradiction λq=>he q
 obtain⟨g1,g2,g3,g4,g5⟩:=F7 he0;split at h
 ·injection h with _ h;injection h with _ h;exact absurd h (by decide)
 rename_i hm;split at h
 ·injection h with _ h;injection h with _ h;exact absurd h (by decide)
 rename_i hl;injection h with h1 h2
 injection h2 with h2 _
 have hx:x.length=(rd l).1:=by rw[<-h1];simp;omega
 refine⟨?_,by omega,by omega⟩;unfold txt;rw[hx,g1,<-h1,<-h2,List.take_add]
def body (k q t:Nat)(s h d:List UInt8):List UInt8:=UInt8.ofNat k::(enc q++(enc t++(txt s++(txt h++txt d))))
def le4 (n:Nat):List UInt8:=[UInt8.ofNat (n % 256),UInt8.ofNat (n / 256 % 256),UInt8.ofNat (n / 65536 % 256),UInt8.ofNat (n / 16777216 % 256)]
def O7 (l:List UInt8):Nat:=at' l 0+256*at' l 1+65536*at' l 2+16777216*at' l 3
theorem Bl {n:Nat}(h:n<4294967296)(more:List UInt8):O7 (le4 n++more)=n:=by
 unfold O7 le4;simp only[List.cons_append,fV,iD,List.nil_append];rw[sD (by omega),sD (by omega),sD (by omega),sD (by omega)];omega
theorem V9 {l:List UInt8}(h:4<=l.length):le4 (O7 l)=l.take 4:=by
 match l,h with
 | a::b::c::d::r,_ =>
  unfold O7 le4;simp only[fV,iD];have ha:=UInt8.toNat_lt a;have hb:=UInt8.toNat_lt b;have hc:=UInt8.toNat_lt c;have hd:=UInt8.toNat_lt d;rw[show(a.toNat+256*b.toNat+65536*c.toNat+16777216*d.toNat) % 256=a.toNat from by omega,
   show(a.toNat+256*b.toNat+65536*c.toNat+16777216*d.toNat) / 256 % 256=b.toNat from by omega,
   show(a.toNat+256*b.toNat+65536*c.toNat+16777216*d.toNat) / 65536 % 256=c.toNat from by omega,
   show(a.toNat+256*b.toNat+65536*c.toNat+16777216*d.toNat) / 16777216 % 256=d.toNat from by omega]
  simp
def gW (l:List UInt8):List UInt8:=l.drop (rd l).2.1
def kJ (l:List UInt8):List UInt8:=l.drop (rt l 1024).2.1
theorem F9 {l:List UInt8}(h:(rd l).2.2=0):enc (rd l).1++gW l=l:=by
 rw[(F7 h).1];exact List.take_append_drop _ _
theorem zu {l:List UInt8}(h:(rt l 1024).2.2=0):txt (rt l 1024).1++kJ l=l/\(rt l 1024).1.length<=1024:=by
 have:=La (l:=l) (most:=1024) (x:=(rt l 1024).1) (n:=(rt l 1024).2.1) (by rw[<-h]);refine⟨?_,by omega⟩;rw[this.1];exact List.take_append_drop _ _
def pV (r0:List UInt8):Prop:=(rd r0).2.2=0/\(rd (gW r0)).2.2=0/\(rt (gW (gW r0)) 1024).2.2=0/\(rt (kJ (gW (gW r0))) 1024).2.2=0/\(rt (kJ (kJ (gW (gW r0)))) 1024).2.2=0/\kJ (kJ (kJ (gW (gW r0))))=[]
theorem pW {n:Nat}(h:n<9223372036854775808)(more:List UInt8):gW (enc n++more)=more:=by
 unfold gW;rw[jJ h];simp
theorem ou {t:List UInt8}(h:t.length<=1024)(more:List UInt8):rt (txt t++more) 1024=(t,(txt t).length,0):=by
 have h0:t.length<9223372036854775808:=by omega
 unfold rt txt;rw[List.append_assoc,jJ h0];simp only[];rw[if_neg (by simp),if_neg (by omega),if_neg (by simp)];simp
theorem lZ {x:List UInt8}(h:x.length<=1024)(more:List UInt8):kJ (txt x++more)=more:=by
 unfold kJ;rw[ou h];simp
theorem Ef {q t:Nat}{s h d:List UInt8}(hq:q<9223372036854775808)(ht:t<9223372036854775808)(hs:s.length<=1024)(hh:h.length<=1024)(hd:d.length<=1024) :
 pV (enc q++(enc t++(txt s++(txt h++txt d)))):=by
 have e5:rt (txt d) 1024=(d,(txt d).length,0):=by have:=ou hd [];rwa [List.append_nil] at this
 have e6:kJ (txt d)=[]:=by have:=lZ hd [];rwa [List.append_nil] at this
 unfold pV;rw[pW hq,pW ht,lZ hs,lZ hh,jJ hq,jJ ht,ou hs,ou hh,e5,e6];exact⟨rfl,rfl,rfl,rfl,rfl,rfl⟩
theorem Iy {r0:List UInt8}(h:pV r0) :
 enc (rd r0).1++(enc (rd (gW r0)).1++(txt (rt (gW (gW r0)) 1024).1++(txt (rt (kJ (gW (gW r0))) 1024).1++txt (rt (kJ (kJ (gW (gW r0)))) 1024).1)))=r0:=by
 obtain⟨h1,h2,h3,h4,h5,h6⟩:=h;have s5:=(zu h5).1;rw[h6,List.append_nil] at s5;rw[s5,(zu h4).1,(zu h3).1,F9 h2,F9 h1]
theorem Eh {a b:Nat}(ha:a<2)(hb:b<2):a ^^^ b=(a+b) % 2:=by
 have h1:a=0\/a=1:=by omega
 have h2:b=0\/b=1:=by omega
 rcases h1 with rfl|rfl<;>rcases h2 with rfl|rfl<;>rfl
theorem O8 (a b q:Nat):(a ^^^ b) / 2 ^ q % 2=(a / 2 ^ q % 2+b / 2 ^ q % 2) % 2:=by
 rw[<-Nat.shiftRight_eq_div_pow,Nat.shiftRight_xor_distrib,F8,Nat.shiftRight_eq_div_pow,Nat.shiftRight_eq_div_pow]
theorem O9 {p q:Nat}(hp:p<8)(hq:q<8):2 ^ p / 2 ^ q % 2=if p=q then 1 else 0:=by
 have:∀p:Fin 8,∀q:Fin 8,2 ^ p.val / 2 ^ q.val % 2=if p.val=q.val then 1 else 0:=by decide
 exact this ⟨p,hp⟩ ⟨q,hq⟩
def flip (l:List UInt8)(j:Nat):List UInt8:=l.set (j / 8) (UInt8.ofNat (at' l (j / 8) ^^^ 2 ^ (j % 8)))
theorem Iz (l:List UInt8)(j:Nat):at' l (j / 8) ^^^ 2 ^ (j % 8)<256 :=
 Nat.xor_lt_two_pow (n:=8) (V5 l _) (Nat.lt_of_le_of_lt (Nat.pow_le_pow_right (by decide) (show j % 8<=7 by omega)) (by decide))
theorem l7 (l:List UInt8)(j:Nat):(flip l j).length=l.length:=by simp[flip]
theorem Pe {l:List UInt8}{j:Nat}(h:j / 8<l.length)(k:Nat):at' (flip l j) k=if k=j / 8 then at' l (j / 8) ^^^ 2 ^ (j % 8) else at' l k:=by
 unfold flip;by_cases hk:k=j / 8
 ·subst hk;rw[if_pos rfl];show((l.set (j / 8) _)[j / 8]?.getD 0).toNat=_;rw[List.getElem?_set_self h];exact sD (Iz l j)
 ·rw[if_neg hk];unfold at';rw[List.getElem?_set_ne (by omega)]
theorem Bo {l:List UInt8}{j:Nat}(h:j / 8<l.length)(i:Nat):pU (flip l j) i=(pU l i+if i=j then 1 else 0) % 2:=by
 unfold pU;rw[Pe h];by_cases hk:i / 8=j / 8
 ·rw[if_pos hk,O8,O9 (by omega) (by omega),hk];by_cases hp:j % 8=i % 8
  ·rw[if_pos hp,if_pos (by omega)]
  ·rw[if_neg hp,if_neg (by omega)]
 ·rw[if_neg hk,if_neg (by intro e;subst e;exact hk rfl)];omega
def Turned (l0:List UInt8)(k turn i:Nat)(l:List UInt8):Prop :=
 l.length=l0.length/\∀j,pU l0 j ^^^ pU l j=if k<=j/\j<k+i then turn / 2 ^ (j-k) % 2 else 0
theorem RN (l:List UInt8)(k turn:Nat):Turned l k turn 0 l:=⟨rfl,λj=>by rw[Nat.xor_self,if_neg (by omega)]⟩
theorem RP {l0 l:List UInt8}{k turn i:Nat}(h:Turned l0 k turn i l)(hb:turn / 2 ^ i % 2=0):Turned l0 k turn (i+1) l:=by
 refine⟨h.1,λj=>?_⟩;rw[h.2];by_cases h1:k<=j/\j<k+i
 ·rw[if_pos h1,if_pos (by omega)]
 ·rw[if_neg h1];by_cases h2:k<=j/\j<k+(i+1)
  ·rw[if_pos h2,show j-k=i from by omega,hb]
  ·rw[if_neg h2]
theorem RQ {l0 l:List UInt8}{k turn i:Nat}(h:Turned l0 k turn i l)(hb:turn / 2 ^ i % 2=1)(hj:(k+i) / 8<l.length):Turned l0 k turn (i+1) (flip l (k+i)):=by
 refine⟨by rw[l7];exact h.1,λj=>?_⟩;have e:=h.2 j;have b0:=dN l0 j;have b1:=dN l j;have b2:=dN (flip l (k+i)) j;rw[Eh b0 b1] at e;rw[Eh b0 b2,Bo hj];by_cases h1:j=k+i
 ·subst h1;rw[if_neg (by omega)] at e;rw[if_pos rfl,if_pos (by omega),show k+i-k=i from by omega,hb];omega
 ·rw[if_neg h1];by_cases h2:k<=j/\j<k+i
  ·rw[if_pos h2] at e;rw[if_pos (by omega)];omega
  ·rw[if_neg h2] at e;rw[if_neg (by omega)];omega
theorem RS {l0 l:List UInt8}{k turn:Nat}(h:Turned l0 k turn 32 l)(ht:turn<4294967296)(h0:turn≠0)(hk:k+32<=8*l0.length):crc l≠crc l0:=by
 have:=V8 (dN l0) (dN l) ht h0 h.2 hk;have r0:=kH (dN l0) (8*l0.length);have r1:=kH (dN l) (8*l0.length);unfold crc;rw[h.1];omega
theorem Vf:crc [49,50,51,52,53,54,55,56,57]=3421780262:=by decide +kernel
theorem Gf:∀l:List UInt8,((Pl.fM l).map λp=>p.length+1).sum=l.length+1
 | []=>rfl
 | c::r=>by
  have ih:=Gf r;unfold Pl.fM;split
  ·simp only[List.map_cons,List.sum_cons,ih,List.length_nil,List.length_cons];omega
  ·cases q:Pl.fM r with
   | nil=>exact absurd q (Pl.oO r)
   | cons a b =>
    rw[q] at ih;simp only[List.map_cons,List.sum_cons] at ih;simp only[List.modifyHead_cons,List.map_cons,List.sum_cons,List.length_cons];omega
theorem Lc:∀ps:List (List UInt8),(∀p∈ps,p.length<=16)->(ps.map λp=>p.length+1).sum<=17*ps.length
 | [],_=>by simp
 | a::b,h=>by
  have ih:=Lc b (λp hp=>h p (List.mem_cons_of_mem _ hp));have:=h a (List.mem_cons_self ..);simp only[List.map_cons,List.sum_cons,List.length_cons];omega
theorem Pg {dD last:Bool}{t:List UInt8}(h:Pl.iE dD last t=true):t.length<=16:=by
 unfold Pl.iE Pl.oM at h;simp only[Bool.or_eq_true,Bool.and_eq_true,decide_eq_true_eq,beq_iff_eq] at h;rcases h with ⟨_,h,_⟩|⟨_,h|⟨h,_⟩⟩
 ·exact h
 ·rw[h];decide
 ·rw[h];decide
theorem Bq {dD:Bool}{l:List UInt8}(h:Pl.errOf dD (Pl.fM l)=0):l.length<=135:=by
 unfold Pl.errOf at h;split at h
 ·exact absurd h (by decide)
 rename_i h8;split at h
 ·rename_i hg;have hs:=Gf l;have:=Lc (Pl.fM l) (λp hp=>by
   obtain⟨i,hi,rfl⟩:=List.mem_iff_getElem.1 hp;simp only[Pl.eP,List.all_eq_true,List.mem_range] at hg;have:=hg i hi;rw[List.getElem?_eq_getElem hi] at this;exact Pg this)
  omega
 ·exact absurd h (by decide)
structure Rec where
 k:Int
 q:Int
 t:Int
 s:List UInt8
 h:List UInt8
 d:List UInt8
def none':Rec:=⟨0,0,0,[],[],[]⟩
def inB (k q t:Int):Bool:=decide (1<=k)&&(decide (k<=4)&&(decide (1<=q)&&(decide (q<=1099511627776)&&(decide (0<=t)&&decide (t<=1099511627776)))))
def chk (r:Rec):Int :=
 if inB r.k r.q r.t=false then 1
 else if r.k=1 then (if Pl.errOf false (Pl.fM r.s)≠0 then Pl.errOf false (Pl.fM r.s) else if 256<r.h.length+r.d.length then 2 else 0)
 else if r.k=3 then (if Pl.errOf true (Pl.fM r.s)≠0 then Pl.errOf true (Pl.fM r.s) else if r.h.length+r.d.length=0 then 0 else 1)
 else if r.s.length+(r.h.length+r.d.length)=0 then 0 else 1
theorem nM {k q t:Int}:inB k q t=true↔1<=k/\k<=4/\1<=q/\q<=1099511627776/\0<=t/\t<=1099511627776:=by
 unfold inB;simp only[Bool.and_eq_true,decide_eq_true_eq]
theorem nN {r:Rec}(h:chk r=0):1<=r.k/\r.k<=4/\1<=r.q/\r.q<=1099511627776/\0<=r.t/\r.t<=1099511627776/\r.s.length<=135/\r.h.length+r.d.length<=256:=by
 unfold chk at h;split at h
 ·exact absurd h (by decide)
 rename_i hb;have hb2:=nM.1 (by simpa using hb);refine⟨hb2.1,hb2.2.1,hb2.2.2.1,hb2.2.2.2.1,hb2.2.2.2.2.1,hb2.2.2.2.2.2,?_⟩;split at h
 ·split at h
  ·rename_i hn;exact absurd h hn
  rename_i hn;split at h
  ·exact absurd h (by decide)
  exact⟨Bq (Classical.byContradiction hn),by omega⟩
 split at h
 ·split at h
  ·rename_i hn;exact absurd h hn
  rename_i hn;split at h
  ·exact⟨Bq (Classical.byContradiction hn),by omega⟩
  ·exact absurd h (by decide)
 split at h
 ·omega
 ·exact absurd h (by decide)
def jq (r:Rec):List UInt8:=body r.k.toNat r.q.toNat r.t.toNat r.s r.h r.d
def tK (r:Rec):List UInt8:=txt (jq r)++le4 (crc (jq r))
theorem Gg (n:Nat):(le4 n).length=4:=rfl
theorem nO {n:Nat}(h:n<=1099511627776):(enc n).length<=9:=uM (by omega)
theorem pX {r:Rec}(h:chk r=0):6<=(jq r).length/\(jq r).length<=1024:=by
 obtain⟨_,_,_,h1,_,h2,h3,h4⟩:=nN h;unfold jq body txt;simp only[List.length_cons,List.length_append];have a1:=jB r.q.toNat;have a2:=jB r.t.toNat;have a3:=jB r.s.length;have a4:=jB r.h.length;have a5:=jB r.d.length;have b1:=nO (n:=r.q.toNat) (by omega);have b2:=nO (n:=r.t.toNat) (by omega);have b3:=nO (n:=r.s.length) (by omega);have b4:=nO (n:=r.h.length) (by omega);have b5:=nO (n:=r.d.length) (by omega);omega
theorem Ld (l:List UInt8):crc l<4294967296:=by unfold crc;omega
def p1 (r0:List UInt8):List UInt8:=gW r0
def p2 (r0:List UInt8):List UInt8:=gW (gW r0)
def p3 (r0:List UInt8):List UInt8:=kJ (gW (gW r0))
def p4 (r0:List UInt8):List UInt8:=kJ (kJ (gW (gW r0)))
def p5 (r0:List UInt8):List UInt8:=kJ (kJ (kJ (gW (gW r0))))
def okB (r0:List UInt8):Bool:=decide ((rd r0).2.2=0)&&(decide ((rd (p1 r0)).2.2=0)&&(decide ((rt (p2 r0) 1024).2.2=0)&&(decide ((rt (p3 r0) 1024).2.2=0)&&(decide ((rt (p4 r0) 1024).2.2=0)&&decide ((p5 r0).length=0)))))
theorem Gh {r0:List UInt8}:okB r0=true↔pV r0:=by
 unfold okB pV p1 p2 p3 p4 p5;simp only[Bool.and_eq_true,decide_eq_true_eq,List.length_eq_zero_iff]
def xO (c:Nat)(r0:List UInt8):Rec:=⟨c,(rd r0).1,(rd (p1 r0)).1,(rt (p2 r0) 1024).1,(rt (p3 r0) 1024).1,(rt (p4 r0) 1024).1⟩
def dec (l:List UInt8):Rec×Nat×Int :=
 if (rt l 1024).2.2≠0 then (none',0,(rt l 1024).2.2)
 else if l.length<(rt l 1024).2.1+4 then (none',0,6)
 else if (l.drop (rt l 1024).2.1).take 4≠le4 (crc (rt l 1024).1) then (none',0,7)
 else if (rt l 1024).1.length=0 then (none',0,7)
 else if okB ((rt l 1024).1.drop 1)=false then (none',0,7)
 else if chk (xO (at' (rt l 1024).1 0) ((rt l 1024).1.drop 1))≠0 then (none',0,7)
 else (xO (at' (rt l 1024).1 0) ((rt l 1024).1.drop 1),(rt l 1024).2.1+4,0)
theorem IB {r:Rec}(h:chk r=0):xO (at' (jq r) 0) ((jq r).drop 1)=r/\okB ((jq r).drop 1)=true:=by
 obtain⟨h1,h2,h3,h4,h5,h6,h7,h8⟩:=nN h;have hq:r.q.toNat<9223372036854775808:=by omega
 have ht:r.t.toNat<9223372036854775808:=by omega
 have hs:r.s.length<=1024:=by omega
 have hh:r.h.length<=1024:=by omega
 have hd:r.d.length<=1024:=by omega
 have e5:rt (txt r.d) 1024=(r.d,(txt r.d).length,0):=by have:=ou hd [];rwa [List.append_nil] at this
 have e:(jq r).drop 1=enc r.q.toNat++(enc r.t.toNat++(txt r.s++(txt r.h++txt r.d))):=rfl;have e0:at' (jq r) 0=r.k.toNat:=by show(UInt8.ofNat r.k.toNat).toNat=_;exact sD (by omega)
 refine⟨?_,by rw[Gh,e];exact Ef hq ht hs hh hd⟩;rw[e,e0];unfold xO p1 p2 p3 p4;rw[pW hq,pW ht,lZ hs,lZ hh,jJ hq,jJ ht,ou hs,ou hh,e5];show Rec.mk ((r.k.toNat:Nat):Int) ((r.q.toNat:Nat):Int) ((r.t.toNat:Nat):Int) r.s r.h r.d=r;rw[Int.toNat_of_nonneg (by omega),Int.toNat_of_nonneg (by omega),Int.toNat_of_nonneg (by omega)]
theorem nP (r:Rec):(tK r).length=(txt (jq r)).length+4:=by unfold tK;rw[List.length_append,Gg]
theorem XV {r:Rec}(h:chk r=0)(more:List UInt8):dec (tK r++more)=(r,(tK r).length,0):=by
 have hb:=pX h;have e:rt (tK r++more) 1024=(jq r,(txt (jq r)).length,0):=by unfold tK;rw[List.append_assoc];exact ou hb.2 _
 have e2:((tK r++more).drop (txt (jq r)).length).take 4=le4 (crc (jq r)):=by
  unfold tK;rw[List.append_assoc,List.drop_left];rfl
 obtain⟨g1,g2⟩:=IB h;unfold dec;rw[e];simp only[];rw[if_neg (by simp),if_neg (by rw[List.length_append,nP];omega),if_neg (by rw[e2];simp),if_neg (by omega),g1,g2,if_neg (by simp),if_neg (by rw[h];simp),nP]
theorem IC {t:List UInt8}{i:Nat}(h:t.length<=1024)(hi:i<(txt t).length):(rt ((txt t).take i) 1024).2.2=6:=by
 have h0:t.length<9223372036854775808:=by omega
 unfold rt;by_cases hl:i<(enc t.length).length
 ·unfold txt;rw[Bj h0 hl];rfl
 ·have e:(txt t).take i=enc t.length++t.take (i-(enc t.length).length):=by
   unfold txt;rw[List.take_append,List.take_of_length_le (by omega)]
  have hi':=hi;unfold txt at hi';rw[List.length_append] at hi';rw[e,jJ h0];simp only[];rw[if_neg (by simp),if_neg (by omega),if_pos (by simp;omega)]
theorem Vg {r:Rec}{i:Nat}(h:chk r=0)(hi:i<(tK r).length):(dec ((tK r).take i)).2.2=6:=by
 have hb:=pX h;by_cases hl:i<(txt (jq r)).length
 ·have e:(tK r).take i=(txt (jq r)).take i:=by
   unfold tK;rw[List.take_append_of_le_length (by omega)]
  have e6:=IC hb.2 hl;unfold dec;rw[e,e6,if_pos (by decide)];rfl
 ·have e:(tK r).take i=txt (jq r)++(le4 (crc (jq r))).take (i-(txt (jq r)).length):=by
   unfold tK;rw[List.take_append,List.take_of_length_le (by omega)]
  have hi':=hi;rw[nP] at hi';unfold dec;rw[e,ou hb.2];simp only[];rw[if_neg (by simp),if_pos (by rw[<-e,List.length_take];omega)]
theorem XW {l:List UInt8}(h:(dec l).2.2≠0):(dec l).1=none'/\(dec l).2.1=0:=by
 unfold dec at h ⊢;split
 ·exact⟨rfl,rfl⟩
 rename_i h1;rw[if_neg h1] at h;split
 ·exact⟨rfl,rfl⟩
 rename_i h2;rw[if_neg h2] at h;split
 ·exact⟨rfl,rfl⟩
 rename_i h3;rw[if_neg h3] at h;split
 ·exact⟨rfl,rfl⟩
 rename_i h4;rw[if_neg h4] at h;split
 ·exact⟨rfl,rfl⟩
 rename_i h5;rw[if_neg h5] at h;split
 ·exact⟨rfl,rfl⟩
 rename_i h6;rw[if_neg h6] at h;exact absurd rfl h
theorem Gi {l:List UInt8}(h:(dec l).2.2=0):chk (dec l).1=0/\tK (dec l).1=l.take (dec l).2.1/\(dec l).2.1<=l.length:=by
 unfold dec at h ⊢;split
 ·rename_i h1;rw[if_pos h1] at h;exact absurd (by simpa using h) h1
 rename_i h1;rw[if_neg h1] at h;split
 ·rename_i h2;rw[if_pos h2] at h;exact absurd h (by decide)
 rename_i h2;rw[if_neg h2] at h;split
 ·rename_i h3;rw[if_pos h3] at h;exact absurd h (by decide)
 rename_i h3;rw[if_neg h3] at h;split
 ·rename_i h4;rw[if_pos h4] at h;exact absurd h (by decide)
 rename_i h4;rw[if_neg h4] at h;split
 ·rename_i h5;rw[if_pos h5] at h;exact absurd h (by decide)
 rename_i h5;rw[if_neg h5] at h;split
 ·rename_i h6;rw[if_pos h6] at h;exact absurd h (by decide)
 rename_i h6;have hc:=Classical.byContradiction h6;refine⟨hc,?_,by show(rt l 1024).2.1+4<=_;omega⟩;have h10:(rt l 1024).2.2=0:=Classical.byContradiction h1;have ho:=La (l:=l) (most:=1024) (x:=(rt l 1024).1) (n:=(rt l 1024).2.1) (by rw[<-h10]);have hp:=Iy (Gh.1 (Bool.not_eq_false _ |>.mp h5));have Yx:jq (xO (at' (rt l 1024).1 0) ((rt l 1024).1.drop 1))=(rt l 1024).1:=by
  obtain⟨B,hB⟩:∃B,(rt l 1024).1=B:=⟨_,rfl⟩;rw[hB] at hp h4 ⊢;match B,h4 with
  | [],h4=>exact absurd rfl h4
  | c::r,_ =>
   rw[show(c::r).drop 1=r from rfl] at hp;rw[show(c::r).drop 1=r from rfl];unfold jq body xO p1 p2 p3 p4;simp only[Int.toNat_natCast,fV,UInt8.ofNat_toNat];rw[hp]
 show tK _=l.take ((rt l 1024).2.1+4);unfold tK;rw[Yx,ho.1,<-Classical.byContradiction h3,List.take_add]
theorem Ph {f g:Nat->Nat}(hf:∀j,f j<2)(hg:∀j,g j<2){j:Nat}(h:∀i,f i ^^^ g i=if i=j then 1 else 0){N:Nat}(hN:j<N):reg f N≠reg g N:=by
 have hpre:∀n,n<=j->reg f n ^^^ reg g n=0:=by
  intro n;induction n with
  | zero=>intro _;simp[reg]
  | succ n ih =>
   intro hn;rw[iY,ih (by omega),h,if_neg (by omega)];rfl
 have hend:∀n,reg f (j+1+n) ^^^ reg g (j+1+n)≠0:=by
  intro n;induction n with
  | zero =>
   rw[Nat.add_zero,iY,hpre j (Nat.le_refl _),h,if_pos rfl];decide
  | succ n ih =>
   intro e;rw[<-Nat.add_assoc,iY,h,if_neg (by omega),Nat.xor_zero] at e;exact ih (Ee (Nat.xor_lt_two_pow (n:=32) (kH hf _) (kH hg _)) e)
 intro e;have:=hend (N-(j+1));rw[show j+1+(N-(j+1))=N from by omega,e,Nat.xor_self] at this;exact this rfl
theorem Bv {l:List UInt8}{j:Nat}(h:j<8*l.length):crc (flip l j)≠crc l:=by
 have:=Ph (f:=pU l) (g:=pU (flip l j)) (dN l) (dN _) (j:=j) (λi=>by
  have b0:=dN l i;rw[Eh b0 (dN _ _),Bo (by omega)];by_cases e:i=j
  ·rw[if_pos e];omega
  ·rw[if_neg e];omega) h
 have r0:=kH (dN l) (8*l.length);have r1:=kH (dN (flip l j)) (8*l.length);unfold crc;rw[l7];omega
theorem Pj {l:List UInt8}{j:Nat}(h:j<8*l.length):flip l j≠l:=λe=>Bv h (by rw[e])
theorem uO {a b:List UInt8}{j:Nat}:flip (a++b) (8*a.length+j)=a++flip b j:=by
 unfold flip;rw[show(8*a.length+j) / 8=a.length+j / 8 from by omega,show(8*a.length+j) % 8=j % 8 from by omega];have e:at' (a++b) (a.length+j / 8)=at' b (j / 8):=by
  unfold at';rw[List.getElem?_append_right (by omega),show a.length+j / 8-a.length=j / 8 from by omega]
 rw[e,List.set_append_right _ _ (by omega),show a.length+j / 8-a.length=j / 8 from by omega]
theorem IE {a b:List UInt8}{j:Nat}(h:j<8*a.length):flip (a++b) j=flip a j++b:=by
 unfold flip;rw[uK (by omega),List.set_append_left _ _ (by omega)]
theorem Gj {B S:List UInt8}(hb:B.length<=1024)(hs:S.length=4)(hne:S≠le4 (crc B)):(dec (txt B++S)).2.2=7:=by
 unfold dec;rw[ou hb];simp only[];rw[if_neg (by simp),if_neg (by rw[List.length_append,hs];omega),if_pos (by rw[List.drop_left,List.take_of_length_le (by omega)];exact hne)]
theorem Pm {a b:Nat}(ha:a<4294967296)(hb:b<4294967296)(h:le4 a=le4 b):a=b:=by
 have h1:=Bl ha [];have h2:=Bl hb [];rw[h] at h1;exact h1.symm.trans h2
theorem Yy {r:Rec}(h:chk r=0):rd (tK r)=((jq r).length,(enc (jq r).length).length,0):=by
 have hb:=pX h;unfold tK txt;rw[List.append_assoc];exact jJ (by omega) _
theorem Ti {r:Rec}{i:Nat}(h:chk r=0)(hi:i<8*((tK r).length-(enc (jq r).length).length)):(dec (flip (tK r) (8*(enc (jq r).length).length+i))).2.2=7:=by
 have hb:=pX h;rw[nP] at hi;have e:tK r=enc (jq r).length++(jq r++le4 (crc (jq r))):=by unfold tK txt;rw[List.append_assoc]
 have hl:(txt (jq r)).length=(enc (jq r).length).length+(jq r).length:=by unfold txt;rw[List.length_append]
 rw[e,uO];by_cases hj:i<8*(jq r).length
 ·rw[IE hj];have e2:enc (jq r).length++(flip (jq r) i++le4 (crc (jq r)))=txt (flip (jq r) i)++le4 (crc (jq r)):=by
   unfold txt;rw[l7,List.append_assoc]
  rw[e2];refine Gj (by rw[l7];exact hb.2) rfl (λq=>?_);exact Bv hj (Pm (Ld _) (Ld _) q).symm
 ·obtain⟨m,rfl⟩:∃m,i=8*(jq r).length+m:=⟨i-8*(jq r).length,by omega⟩;rw[uO];have e2:enc (jq r).length++(jq r++flip (le4 (crc (jq r))) m)=txt (jq r)++flip (le4 (crc (jq r))) m:=by
   unfold txt;rw[List.append_assoc]
  rw[e2];exact Gj hb.2 (by rw[l7];rfl) (Pj (by rw[Gg];omega))
end Go.Proofs.YtmhbobnfmncdbaaGreatDoor.Pk
namespace Go.Proofs.YtmhbobnfmncdbaaGreatDoor.Dk
open Go.RowKit Go.Proofs.Tryz
structure Rc where
 k:Int
 q:Int
 t:Int
 s:ByteArray
 h:ByteArray
 d:ByteArray
def Rc.pk (r:Rc):Pk.Rec:=⟨r.k,r.q,r.t,r.s.data.toList,r.h.data.toList,r.d.data.toList⟩
def bt (l:List UInt8):ByteArray:=⟨l.toArray⟩
theorem Po (l:List UInt8):(bt l).data.toList=l:=by simp[bt]
theorem Pq (l:List UInt8):(bt l).size=l.length:=by simp[bt,ByteArray.size]
theorem Wh (s:ByteArray):bt s.data.toList=s:=by apply ByteArray.ext;simp[bt]
def Bz (r:Pk.Rec):Rc:=⟨r.k,r.q,r.t,bt r.s,bt r.h,bt r.d⟩
theorem Pv (r:Pk.Rec):(Bz r).pk=r:=by unfold Bz Rc.pk;simp only[Po]
theorem XY (r:Rc):Bz r.pk=r:=by unfold Bz Rc.pk;simp only[Wh]
def Vh (r:Rc):Value:=.agg #[.int .i64 r.k,.int .i64 r.q,.int .i64 r.t,.string r.s,.string r.h,.string r.d]
theorem Px (r:Pk.Rec):4<=(Pk.tK r).length:=by rw[Pk.nP];omega
theorem zx {l:List UInt8}(h:(Pk.dec l).2.2=0):1<=(Pk.dec l).2.1/\(Pk.dec l).2.1<=l.length:=by
 obtain⟨_,h2,h3⟩:=Pk.Gi h;have:=Px (Pk.dec l).1;rw[h2,List.length_take] at this;omega
def scan:Nat->List UInt8->List Rc×Option Nat
 | 0,_=>([],none)
 | f+1,l=>if l.length=0 then ([],none) else if (Pk.dec l).2.2=0 then (Bz (Pk.dec l).1::(scan f (l.drop (Pk.dec l).2.1)).1,(scan f (l.drop (Pk.dec l).2.1)).2.map (·+(Pk.dec l).2.1)) else ([],some 0)
theorem Le (f:Nat):scan f []=([],none):=by cases f<;>rfl
theorem scan_ok {f:Nat}{l:List UInt8}(h0:l.length≠0)(h:(Pk.dec l).2.2=0):scan (f+1) l=(Bz (Pk.dec l).1::(scan f (l.drop (Pk.dec l).2.1)).1,(scan f (l.drop (Pk.dec l).2.1)).2.map (·+(Pk.dec l).2.1)):=by
 rw[scan,if_neg h0,if_pos h]
theorem scan_bad {f:Nat}{l:List UInt8}(h0:l.length≠0)(h:(Pk.dec l).2.2≠0):scan (f+1) l=([],some 0):=by
 rw[scan,if_neg h0,if_neg h]
theorem Gl:∀(f:Nat) (l:List UInt8) (k:Nat),(scan f l).2=some k->k<=l.length
 | 0,_,_,h=>by cases h
 | f+1,l,k,h=>by
  by_cases h0:l.length=0
  ·rw[scan,if_pos h0] at h;cases h
  ·by_cases hd:(Pk.dec l).2.2=0
   ·rw[scan_ok h0 hd] at h
    cases hs:(scan f (l.drop (Pk.dec l).2.1)).2 with
    | none=>rw[hs] at h;cases h
    | some j =>
     rw[hs] at h;have:=Gl f _ j hs;have:=(zx hd).2;rw[List.length_drop] at *;simp at h;omega
   ·rw[scan_bad h0 hd] at h
    cases h
    exact Nat.zero_le _
theorem uP:∀(f:Nat) (l:List UInt8),(scan f l).1.length<=l.length
 | 0,_=>Nat.zero_le _
 | f+1,l=>by
  by_cases h0:l.length=0
  ·rw[scan,if_pos h0];exact Nat.zero_le _
  ·by_cases hd:(Pk.dec l).2.2=0
   ·rw[scan_ok h0 hd,List.length_cons];have:=uP f (l.drop (Pk.dec l).2.1);have:=zx hd;rw[List.length_drop] at *;omega
   ·rw[scan_bad h0 hd];exact Nat.zero_le _
def Read (l:List UInt8)(at':Nat)(rs:List Rc):Prop:=∃f,l.length<=at'+f/\scan l.length l=(rs++(scan f (l.drop at')).1,(scan f (l.drop at')).2.map (·+at'))
theorem Read.start (l:List UInt8):Read l 0 []:=⟨l.length,by omega,by
 rw[List.drop_zero,List.nil_append]
 cases h:(scan l.length l).2<;>simp[<-h]⟩
theorem Read.done {l:List UInt8}{p:Nat}{rs:List Rc}(h:Read l p rs)(hp:¬p<l.length):scan l.length l=(rs,none):=by
 obtain⟨f,_,h⟩:=h;rw[List.drop_eq_nil_of_le (by omega),Le] at h;simpa using h
theorem Read.step {l:List UInt8}{p:Nat}{rs:List Rc}(h:Read l p rs)(hp:p<l.length)(hd:(Pk.dec (l.drop p)).2.2=0):Read l (p+(Pk.dec (l.drop p)).2.1) (rs++[Bz (Pk.dec (l.drop p)).1]):=by
 obtain⟨f,hf,h⟩:=h;have h0:(l.drop p).length≠0:=by rw[List.length_drop];omega
 have hpos:=zx hd
 cases f with
 | zero=>omega
 | succ f =>
  rw[scan_ok h0 hd,List.drop_drop] at h;refine⟨f,by omega,?_⟩;rw[h,List.append_assoc,List.singleton_append];congr 1
  cases (scan f (l.drop (p+(Pk.dec (l.drop p)).2.1))).2 with
  | none=>rfl
  | some j=>simp;omega
theorem Read.bad {l:List UInt8}{p:Nat}{rs:List Rc}(h:Read l p rs)(hp:p<l.length)(hd:(Pk.dec (l.drop p)).2.2≠0):scan l.length l=(rs,some p):=by
 obtain⟨f,hf,h⟩:=h;have h0:(l.drop p).length≠0:=by rw[List.length_drop];omega
 cases f with
 | zero=>omega
 | succ f =>
  rw[scan_bad h0 hd] at h;simpa using h
theorem Read.len {l:List UInt8}{p:Nat}{rs:List Rc}(h:Read l p rs):rs.length<=l.length:=by
 obtain⟨f,_,h⟩:=h;have:=uP l.length l;rw[h,List.length_append] at this;omega
def lG (t:ByteArray):List Rc×Option Nat:=scan t.data.toList.length t.data.toList
def fC:List aG->List Rc×List aG
 | []=>([],[])
 | e::r=>match (lG e.text).2 with
  | none=>((lG e.text).1++(fC r).1,e::(fC r).2)
  | some k=>((lG e.text).1,[tJ e k])
theorem l9 {e:aG}{r:List aG}{rs:List Rc}(h:lG e.text=(rs,none)):fC (e::r)=(rs++(fC r).1,e::(fC r).2):=by
 rw[fC,h]
theorem qZ {e:aG}{r:List aG}{rs:List Rc}{k:Nat}(h:lG e.text=(rs,some k)):fC (e::r)=(rs,[tJ e k]):=by
 rw[fC,h]
def Reads (es:List aG)(i:Nat)(acc:List Rc):Prop:=fC es=(acc++(fC (es.drop i)).1,es.take i++(fC (es.drop i)).2)
theorem Reads.start (es:List aG):Reads es 0 []:=by unfold Reads;simp
theorem Gm {es:List aG}{i:Nat}(h:i<es.length):es.drop i=pa es i::es.drop (i+1):=by rw[fO h,<-List.drop_eq_getElem_cons h]
theorem Py {es:List aG}{i:Nat}(h:i<es.length):es.take (i+1)=es.take i++[pa es i]:=by rw[List.take_succ_eq_append_getElem h,fO h]
theorem Reads.step {es:List aG}{i:Nat}{acc rs:List Rc}(h:Reads es i acc)(hi:i<es.length)(hs:lG (pa es i).text=(rs,none)):Reads es (i+1) (acc++rs):=by
 unfold Reads at h ⊢;rw[h,Gm hi,l9 hs,Py hi];simp
theorem Reads.done {es:List aG}{i:Nat}{acc:List Rc}(h:Reads es i acc)(hi:¬i<es.length):fC es=(acc,es):=by
 unfold Reads at h;rw[h,List.drop_eq_nil_of_le (by omega),List.take_of_length_le (by omega)];simp[fC]
theorem Reads.bad {es:List aG}{i k:Nat}{acc rs:List Rc}(h:Reads es i acc)(hi:i<es.length)(hs:lG (pa es i).text=(rs,some k)):fC es=(acc++rs,es.take i++[tJ (pa es i) k]):=by
 unfold Reads at h;rw[h,Gm hi,qZ hs]
theorem Lh {t:ByteArray}{k:Nat}(h:(lG t).2=some k):k<=t.size:=by
 have:=Gl _ _ _ h;simpa using this
theorem IG (t:ByteArray):(lG t).1.length<=t.size:=by
 have:=uP t.data.toList.length t.data.toList;unfold lG;simpa using this
theorem II:∀es:List aG,(fC es).1.length<=used es
 | []=>Nat.zero_le _
 | e::r=>by
  have h1:=IG e.text;rw[cZ]
  cases hs:lG e.text with
  | mk rs o =>
   rw[hs] at h1
   cases o with
   | none =>
    rw[l9 hs,List.length_append];have:=II r;simp only at h1;omega
   | some k=>rw[qZ hs];simp only at h1 ⊢;omega
theorem sF:∀es:List aG,(iF (fC es).2).Sublist (iF es)/\used (fC es).2<=used es/\∀x∈(fC es).2,∃e∈es,x=e\/∃k,k<=e.text.size/\x=tJ e k
 | []=>⟨by simp[fC,iF],by simp[fC],by simp[fC]⟩
 | e::r=>by
  cases hs:lG e.text with
  | mk rs o =>
   cases o with
   | none =>
    rw[l9 hs];obtain⟨h1,h2,h3⟩:=sF r;refine⟨?_,?_,?_⟩
    ·show(e.n::iF (fC r).2).Sublist (e.n::iF r);exact h1.cons_cons _
    ·rw[cZ,cZ];omega
    ·intro x hx;rcases List.mem_cons.1 hx with rfl|hx
     ·exact⟨x,by simp,.inl rfl⟩
     ·obtain⟨y,hy,hq⟩:=h3 x hx;exact⟨y,by simp[hy],hq⟩
   | some k =>
    have hk:k<=e.text.size:=Lh (by rw[hs]);rw[qZ hs];refine⟨?_,?_,?_⟩
    ·show([e.n]:List Int).Sublist (e.n::iF r);exact(List.nil_sublist _).cons_cons _
    ·rw[cZ,cZ,qX hk];simp[used];omega
    ·intro x hx;have:x=tJ e k:=by simpa using hx
     exact⟨e,by simp,.inr ⟨k,hk,this⟩⟩
theorem Tidy.opened {m:Int}{es:List aG}(h:Tidy m es):Tidy m (fC es).2:=by
 obtain⟨h1,h2,h3⟩:=sF es;refine⟨?_,?_,?_,?_⟩
 ·rw[lW];exact List.Pairwise.sublist h1 ((lW es).1 h.rise)
 ·have:=h1.length_le;simp only[iF,List.length_map] at this;have:=h.few;omega
 ·have:=h.fits;omega
 ·intro x hx;obtain⟨e,he,hq⟩:=h3 x hx;have:=h.each e he;rcases hq with rfl|⟨k,hk,rfl⟩
  ·exact this
  ·exact⟨this.1,by show(0:Int)<=(k:Int);omega,by rw[qX hk];show(k:Int)<=(k:Int);omega⟩
theorem XZ {A B:List aG}{x:aG}(h:oP (A++x::B)):Iu (A++x::B) x.n=A++B:=by
 have hi:ix (A++x::B) x.n=A.length:=by
  have e:pa (A++x::B) A.length=x:=by unfold pa;simp
  refine SY (by simp) (by rw[e]) (λj hj=>?_);rw[beq_eq_false_iff_ne];have hm:pa (A++x::B) j∈A:=by
   have:pa (A++x::B) j=A[j]:=by unfold pa;rw[List.getElem?_append_left hj,List.getElem?_eq_getElem hj];rfl
   rw[this];exact List.getElem_mem hj
  exact kG h _ hm
 unfold Iu;rw[hi,if_pos (by simp)];simp
def ru (r:Rc):ByteArray:=bt (Pk.tK r.pk)
def iG (r:Rc):Int:=Pk.chk r.pk
def jR (es:List aG):aG:=pa es (es.length-1)
def fills (es:List aG)(size:Int)(s:ByteArray):Bool:=decide (0<(jR es).text.size)&&decide (size<((jR es).text.size:Int)+(s.size:Int))
def zy (es:List aG)(m size:Int)(r:Rc):Int×List aG :=
 if iG r≠0 then (iG r,es)
 else if es.length=0 then (lM es m 0 (ru r),pR es m 0 (ru r))
 else if fills es size (ru r) then (lM (uH es (jR es).n) m ((jR es).n+1) (ru r),pR (uH es (jR es).n) m ((jR es).n+1) (ru r))
 else (lM es m (jR es).n (ru r),pR es m (jR es).n (ru r))
theorem Tidy.logged {m:Int}{es:List aG}(h:Tidy m es)(size:Int)(r:Rc):Tidy m (zy es m size r).2:=by
 unfold zy;split
 ·exact h
 ·split
  ·exact h.app 0 (ru r)
  ·split
   ·exact(h.sync (jR es).n).app ((jR es).n+1) (ru r)
   ·exact h.app (jR es).n (ru r)
def IJ (es:List aG)(m size:Int)(r:Rc):Int×List aG:=if (zy es m size r).1=0 then zy es m size r else ((zy es m size r).1,es)
theorem X4 {es:List aG}{m size:Int}{r:Rc}(h:(zy es m size r).1=0):IJ es m size r=zy es m size r:=by unfold IJ;rw[if_pos h]
theorem Wi {es:List aG}{m size:Int}{r:Rc}(h:(zy es m size r).1≠0):IJ es m size r=((zy es m size r).1,es):=by unfold IJ;rw[if_neg h]
theorem Tidy.logp {m:Int}{es:List aG}(h:Tidy m es)(size:Int)(r:Rc):Tidy m (IJ es m size r).2:=by
 unfold IJ;split
 ·exact h.logged size r
 ·exact h
def Lj (es:List aG):List aG:=if es.length=0 then es else uH es (jR es).n
theorem Tidy.aag {m:Int}{es:List aG}(h:Tidy m es):Tidy m (Lj es):=by
 unfold Lj;split
 ·exact h
 ·exact h.sync _
def Ll:List Rc->Int
 | []=>0
 | r::l=>if iG r≠0 then iG r else Ll l
def uQ:List Rc->ByteArray
 | []=>ByteArray.empty
 | r::l=>ru r++uQ l
def Gn (es:List aG):Int:=if es.length=0 then 0 else (jR es).n+1
def Wj (es:List aG)(m size:Int)(l:List Rc):Int×List aG :=
 if Ll l≠0 then (Ll l,es)
 else if 1<l.length/\size<((uQ l).size:Int) then (8,es)
 else if lM es m (Gn es) (uQ l)≠0 then (lM es m (Gn es) (uQ l),es)
 else (0,[⟨Gn es,((uQ l).size:Int),uQ l⟩])
theorem Tidy.rewritten {m:Int}{es:List aG}(h:Tidy m es)(size:Int)(l:List Rc):Tidy m (Wj es m size l).2:=by
 unfold Wj;split
 ·exact h
 ·split
  ·exact h
  ·split
   ·exact h
   ·rename_i h0;obtain⟨hI,hf⟩:=zo.1 (Classical.byContradiction h0);have hu:=xG hf;refine⟨List.pairwise_singleton _ _,by simp,?_,?_⟩
    ·simp only[Dk.used];omega
    ·intro e he;have:e=⟨Gn es,((uQ l).size:Int),uQ l⟩:=by simpa using he
     subst this;exact⟨hI,by show(0:Int)<=((uQ l).size:Int);omega,by show((uQ l).size:Int)<=((uQ l).size:Int);omega⟩
def rc (l:List Rc)(k:Nat):Rc:=l[k]?.getD ⟨0,0,0,ByteArray.empty,ByteArray.empty,ByteArray.empty⟩
theorem dF {l:List Rc}{k:Nat}(h:k<l.length):rc l k=l[k]:=by unfold rc;rw[List.getElem?_eq_getElem h];rfl
def aC:List Rc->List Value
 | []=>[]
 | r::l=>.int .i64 r.k::.int .i64 r.q::.int .i64 r.t::.string r.s::.string r.h::.string r.d::aC l
theorem bP:∀l:List Rc,(aC l).length=l.length*6
 | []=>rfl
 | r::l=>by simp[aC,bP l];omega
theorem jC:∀a b:List Rc,aC (a++b)=aC a++aC b
 | [],_=>rfl
 | r::a,b=>by simp[aC,jC a b]
theorem jS:∀(l:List Rc),∀v∈aC l,v.oneCell'=true
 | [],v,h=>by simp[aC] at h
 | r::l,v,h=>by
  simp only[aC,List.mem_cons] at h;rcases h with h|h|h|h|h|h|h
  ·subst h;rfl
  ·subst h;rfl
  ·subst h;rfl
  ·subst h;rfl
  ·subst h;rfl
  ·subst h;rfl
  ·exact jS l v h
structure Six (w:World)(b o:Nat)(r:Rc):Prop where
 lt:b<w.heap.size
 c0:w.cell? ⟨b,o,none⟩=some (.int .i64 r.k)
 c1:w.cell? ⟨b,o+1,none⟩=some (.int .i64 r.q)
 c2:w.cell? ⟨b,o+2,none⟩=some (.int .i64 r.t)
 c3:w.cell? ⟨b,o+3,none⟩=some (.string r.s)
 c4:w.cell? ⟨b,o+4,none⟩=some (.string r.h)
 c5:w.cell? ⟨b,o+5,none⟩=some (.string r.d)
theorem Six.aT {A:Nat->Prop}{w w':World}{b o:Nat}{r:Rc}(h:Six w b o r)(hc:aA A w w')(hn:¬A b):Six w' b o r :=
 ⟨Nat.lt_of_lt_of_le h.lt hc.size,by rw[hc.cell (p:=⟨b,o,none⟩) h.lt hn];exact h.c0,by rw[hc.cell (p:=⟨b,o+1,none⟩) h.lt hn];exact h.c1,by rw[hc.cell (p:=⟨b,o+2,none⟩) h.lt hn];exact h.c2,by rw[hc.cell (p:=⟨b,o+3,none⟩) h.lt hn];exact h.c3,by rw[hc.cell (p:=⟨b,o+4,none⟩) h.lt hn];exact h.c4,by rw[hc.cell (p:=⟨b,o+5,none⟩) h.lt hn];exact h.c5⟩
theorem Six.below {B:Nat}{w w':World}{b o:Nat}{r:Rc}(h:Six w b o r)(hb:Below B w w')(hB:b<B):Six w' b o r :=
 ⟨Nat.lt_of_lt_of_le h.lt hb.size,by rw[hb.cell (p:=⟨b,o,none⟩) hB];exact h.c0,by rw[hb.cell (p:=⟨b,o+1,none⟩) hB];exact h.c1,by rw[hb.cell (p:=⟨b,o+2,none⟩) hB];exact h.c2,by rw[hb.cell (p:=⟨b,o+3,none⟩) hB];exact h.c3,by rw[hb.cell (p:=⟨b,o+4,none⟩) hB];exact h.c4,by rw[hb.cell (p:=⟨b,o+5,none⟩) hB];exact h.c5⟩
theorem zA:∀(l:List Rc) (k:Nat),k<l.length->(aC l)[k*6]?=some (.int .i64 (rc l k).k)/\(aC l)[k*6+1]?=some (.int .i64 (rc l k).q)/\(aC l)[k*6+2]?=some (.int .i64 (rc l k).t)/\(aC l)[k*6+3]?=some (.string (rc l k).s)/\(aC l)[k*6+4]?=some (.string (rc l k).h)/\(aC l)[k*6+5]?=some (.string (rc l k).d)
 | [],k,h=>absurd h (Nat.not_lt_zero k)
 | r::l,0,_=>⟨rfl,rfl,rfl,rfl,rfl,rfl⟩
 | r::l,k+1,h=>by
  rw[show(k+1)*6=k*6+1+1+1+1+1+1 by omega];have:=zA l k (by simpa using h);have e:rc (r::l) (k+1)=rc l k:=rfl;rw[e];refine⟨?_,?_,?_,?_,?_,?_⟩
  ·simp only[aC,List.getElem?_cons_succ];exact this.1
  ·rw[show k*6+1+1+1+1+1+1+1=(k*6+1)+1+1+1+1+1+1 by omega];simp only[aC,List.getElem?_cons_succ];exact this.2.1
  ·rw[show k*6+1+1+1+1+1+1+2=(k*6+2)+1+1+1+1+1+1 by omega];simp only[aC,List.getElem?_cons_succ];exact this.2.2.1
  ·rw[show k*6+1+1+1+1+1+1+3=(k*6+3)+1+1+1+1+1+1 by omega];simp only[aC,List.getElem?_cons_succ];exact this.2.2.2.1
  ·rw[show k*6+1+1+1+1+1+1+4=(k*6+4)+1+1+1+1+1+1 by omega];simp only[aC,List.getElem?_cons_succ];exact this.2.2.2.2.1
  ·rw[show k*6+1+1+1+1+1+1+5=(k*6+5)+1+1+1+1+1+1 by omega];simp only[aC,List.getElem?_cons_succ];exact this.2.2.2.2.2
theorem Gp:(prog.info? 33).map (λi=>(i.zero,i.size,i.bytes))=some (some (.agg #[.int .i64 0,.int .i64 0,.int .i64 0,.string ByteArray.empty,.string ByteArray.empty,.string ByteArray.empty]),6,72):=by kernel_rfl
def bY (w:World)(B:Nat)(v:Value)(l:List Rc):Prop:=w.ownsRow B 33 6 v l.length (aC l)
theorem bY.empty (w:World)(B:Nat):bY w B (.slice none 0 0) []:=World.ownsRow_nil w B _ 6
theorem bY.aT {A:Nat->Prop}{w w':World}{B:Nat}{v:Value}{l:List Rc}(h:bY w B v l)(hb:aA A w w')(hn:∀g,v.ownBlock=some g->¬A g):bY w' B v l:=by
 refine⟨h.1,?_⟩;rcases h.2 with q|⟨g,cap,cur,h1,h2,h3,r⟩
 ·exact .inl q
 ·refine .inr ⟨g,cap,cur,h1,h2,?_,r⟩;rw[hb.block g (h.lt g (by rw[h1];rfl)).2 (hn g (by rw[h1];rfl))];exact h3
theorem bY.below {w w':World}{B:Nat}{v:Value}{l:List Rc}(h:bY w B v l)(hb:Below w.heap.size w w'):bY w' B v l:=h.aT (A:=λ_=>False) (aA.of_below hb) (λ_ _ z=>z)
def ug (w:World)(a:Option Addr)(l:List Rc):Prop:=∀k,k<l.length->∃b o,a=some ⟨b,o,none⟩/\Six w b (o+k*6) (rc l k)
theorem ug.below {w w':World}{a:Option Addr}{l:List Rc}(h:ug w a l)(hb:Below w.heap.size w w'):ug w' a l:=λk hk=>by
 obtain⟨b,o,h1,h2⟩:=h k hk;exact⟨b,o,h1,h2.below hb h2.lt⟩
theorem ug.aT {A:Nat->Prop}{w w':World}{a:Option Addr}{l:List Rc}(h:ug w a l)(hc:aA A w w')(hn:∀p,a=some p->¬A p.block):ug w' a l:=λk hk=>by
 obtain⟨b,o,h1,h2⟩:=h k hk;exact⟨b,o,h1,h2.aT hc (hn _ h1)⟩
theorem bY.shape {w:World}{B:Nat}{v:Value}{l:List Rc}(h:bY w B v l):∃a cap,v=.slice a l.length cap/\l.length<=cap/\cap<=maxLen/\ug w a l:=by
 rcases h.2 with ⟨h1,h2⟩|⟨g,cap,cur,h1,h2,h3,h4,h5,h6,h7⟩
 ·exact⟨none,0,by rw[h1,h2],by omega,by simp[maxLen],λk hk=>by omega⟩
 ·refine⟨_,cap,h1,h4,h5,λk hk=>⟨g,0,rfl,?_⟩⟩;have hl:=(h.lt g (by rw[h1];rfl)).2;have hat:=zA l k hk;rw[h1] at h;refine⟨hl,?_,?_,?_,?_,?_,?_⟩
  ·rw[World.ownsRow.cellAt h (0+k*6) (by omega),Nat.zero_add];exact hat.1
  ·rw[World.ownsRow.cellAt h (0+k*6+1) (by omega),Nat.zero_add];exact hat.2.1
  ·rw[World.ownsRow.cellAt h (0+k*6+2) (by omega),Nat.zero_add];exact hat.2.2.1
  ·rw[World.ownsRow.cellAt h (0+k*6+3) (by omega),Nat.zero_add];exact hat.2.2.2.1
  ·rw[World.ownsRow.cellAt h (0+k*6+4) (by omega),Nat.zero_add];exact hat.2.2.2.2.1
  ·rw[World.ownsRow.cellAt h (0+k*6+5) (by omega),Nat.zero_add];exact hat.2.2.2.2.2
theorem uh (w:World)(r:Rc):∀j u,(aC [r])[j]?=some u->(w.alloc (.cells #[.int .i64 r.k,.int .i64 r.q,.int .i64 r.t,.string r.s,.string r.h,.string r.d] 33)).cell? ((⟨w.heap.size,0,none⟩:Addr).add j)=some u:=by
 intro j u hj;rw[Addr.add_lit,Nat.zero_add,cell_of_row _ w.heap.size j _ _ _ (heap_alloc_new w _)];simpa[aC] using hj
theorem kK (w:World)(B:Nat)(ty:TypeId)(v:Value)(l fs:List Rc)(ha:bY w B v l)(a:Addr)(c:Nat)(hnews:∀j u,(aC fs)[j]?=some u->w.cell? (a.add j)=some u)(hl:l.length+fs.length<=1000000)(hB:B<=w.heap.size) :
 ∃v' w',(Builtin.append_ #[25,25] ty #[v,.slice (some a) fs.length c]).run prog w=.ok v' w'/\bY w' B v' (l++fs)/\aA (λk=>v.ownBlock=some k) w w'/\∀g,v'.ownBlock=some g->v.ownBlock=some g\/w.heap.size<=g:=by
 obtain⟨i0,hi,hz0,hz1,hz2⟩:=info_parts Gp;have hlen:(aC fs).length=fs.length*6:=bP fs;obtain⟨v',w',hr,h2,h3,h4⟩:=run_append_own (P:=prog) w B 25 ty 33 i0 _ 6 72 underlying25 hi hz0 hz1 hz2 rfl (by omega) v l.length (aC l) ha a fs.length c (aC fs) hlen hnews (jS fs) (by unfold maxLen;omega) (by omega) hB;refine⟨v',w',hr,?_,aA.bU h3,λk hk=>?_⟩
 ·unfold bY;rw[List.length_append,jC];exact h2
 ·rcases ha.2 with ⟨rfl,hn⟩|⟨g,cap,cur,rfl,hbg,hg,hnc,hcm,hcs,htake⟩
  ·by_cases hm:fs.length=0
   ·rw[h4.2 ⟨rfl,hm⟩] at hk;cases hk
   ·right;have hr2:=run_append_nil (P:=prog) w 25 ty 33 i0 _ underlying25 hi hz0 a fs.length c (aC fs) (by rw[hz1];exact hlen) hnews (by omega) (by omega) (by rw[hz2];omega);rw[hr] at hr2
    cases hr2
    simp only[Value.ownBlock,Option.some.injEq] at hk;omega
  ·by_cases hroom:l.length+fs.length<=cap
   ·left;obtain⟨w2,hr2,_,_⟩:=run_append_fits (P:=prog) w B 25 ty 33 i0 6 underlying25 hi hz1 g l.length cap (aC l) ha a fs.length c (aC fs) hlen hnews (jS fs) hroom;rw[hr] at hr2
    cases hr2
    exact hk
   ·right;have hr2:=run_append_grow (P:=prog) w 25 ty 33 i0 _ underlying25 hi hz0 ⟨g,0,none⟩ l.length cap (aC l) (by rw[hz1];exact ha.1) (World.ownsRow.cells ha (g:=g) rfl) a fs.length c (aC fs) (by rw[hz1];exact hlen) hnews (by omega) (by omega) (by rw[hz2];exact growslice_fits (by omega) (by omega));rw[hr] at hr2
    cases hr2
    simp only[Value.ownBlock,Option.some.injEq] at hk;omega
structure Small (r:Rc):Prop where
 s:r.s.size<=140737488355328
 h:r.h.size<=140737488355328
 d:r.d.size<=140737488355328
theorem Small.of {r:Rc}(hc:iG r=0):Small r:=by
 obtain⟨_,_,_,_,_,_,h1,h2⟩:=Pk.nN (r:=r.pk) hc;have e:∀x:ByteArray,x.data.toList.length=x.size:=λx=>by simp
 simp only[Rc.pk,e] at h1 h2;exact⟨by omega,by omega,by omega⟩
theorem Small.dec {l:List UInt8}(h:(Pk.dec l).2.2=0):Small (Bz (Pk.dec l).1):=Small.of (by unfold iG;rw[Pv];exact(Pk.Gi h).1)
theorem Vj {r:Rc}(h:iG r=0):(ru r).size<=1100:=by
 unfold ru;rw[Pq,Pk.nP];have hb:=(Pk.pX (r:=r.pk) h).2;unfold Pk.txt;rw[List.length_append];have:=Pk.nO (n:=(Pk.jq r.pk).length) (by omega);omega
end Go.Proofs.YtmhbobnfmncdbaaGreatDoor.Dk
namespace Go.Proofs.YtmhbobnfmncdbaaGreatDoor
open Go.RowKit Go.Proofs.Tryz
def Ei (l:List UInt8):ByteArray:=⟨l.toArray⟩
theorem Vk (l:List UInt8):(Ei l).data.toList=l:=by simp[Ei]
theorem X5 (l:List UInt8):(Ei l).size=l.length:=by simp[Ei,ByteArray.size]
theorem Tj (b o i:Nat):(⟨b,o,none⟩:Addr).add i=⟨b,o+i,none⟩:=by unfold Addr.add;split<;>simp_all
structure RB (w:World)(b:Nat)(k q t:Int)(s h d:ByteArray):Prop where
 lt:b<w.heap.size
 c0:w.cell? ⟨b,0,none⟩=some (.int .i64 k)
 c1:w.cell? ⟨b,1,none⟩=some (.int .i64 q)
 c2:w.cell? ⟨b,2,none⟩=some (.int .i64 t)
 c3:w.cell? ⟨b,3,none⟩=some (.string s)
 c4:w.cell? ⟨b,4,none⟩=some (.string h)
 c5:w.cell? ⟨b,5,none⟩=some (.string d)
 fr:∀j,w.frozen? ⟨b,j,none⟩=false
theorem RB.below {w w':World}{b B:Nat}{k q t:Int}{s h d:ByteArray}(r:RB w b k q t s h d)(hb:Below B w w')(hB:b<B):RB w' b k q t s h d :=
 ⟨Nat.lt_of_lt_of_le r.lt hb.size,by rw[hb.cell (p:=⟨b,0,none⟩) hB];exact r.c0,by rw[hb.cell (p:=⟨b,1,none⟩) hB];exact r.c1,by rw[hb.cell (p:=⟨b,2,none⟩) hB];exact r.c2,by rw[hb.cell (p:=⟨b,3,none⟩) hB];exact r.c3,by rw[hb.cell (p:=⟨b,4,none⟩) hB];exact r.c4,by rw[hb.cell (p:=⟨b,5,none⟩) hB];exact r.c5,λj=>by rw[hb.frozen (p:=⟨b,j,none⟩) hB];exact r.fr j⟩
theorem RB.drew {w:World}{b:Nat}{k q t:Int}{s h d:ByteArray}(r:RB w b k q t s h d):RB w.drew b k q t s h d :=
 r.below (B:=w.heap.size) (Below.refl _ _).drew r.lt
theorem RB.alloc {w:World}{b:Nat}{k q t:Int}{s h d:ByteArray}(r:RB w b k q t s h d)(o:Obj):RB (w.alloc o) b k q t s h d :=
 r.below (B:=w.heap.size) ((Below.refl _ _).alloc (Nat.le_refl _) o) r.lt
theorem RB.next {w w':World}{b:Nat}{k q t:Int}{s h d:ByteArray}(r:RB w b k q t s h d)(hb:Below w.heap.size w w'):RB w' b k q t s h d:=r.below hb r.lt
theorem RB.new (w:World)(k q t:Int)(s h d:ByteArray)(T:TypeId):RB (w.alloc (.cells #[.int .i64 k,.int .i64 q,.int .i64 t,.string s,.string h,.string d] T)) w.heap.size k q t s h d :=
 ⟨by simp,by simp,by simp,by simp,by simp,by simp,by simp,λj=>World.frozen?_alloc_new _ _ _ j⟩
theorem ak (w:World)(p q:Addr)(v:Value)(h:p≠q):(w.setCell p v).cell? q=w.cell? q:=by
 first|exact World.cell?_setCell_other _ _ _ _ h|exact World.cell?_setCell_other h
theorem RB.other {w:World}{b c i:Nat}{k q t:Int}{s h d:ByteArray}{v:Value}(r:RB w b k q t s h d)(hc:c≠b):RB (w.setCell ⟨c,i,none⟩ v) b k q t s h d :=
 ⟨by simpa using r.lt,by rw[ak _ _ _ _ (by intro e;injection e;omega)];exact r.c0,by rw[ak _ _ _ _ (by intro e;injection e;omega)];exact r.c1,by rw[ak _ _ _ _ (by intro e;injection e;omega)];exact r.c2,
  by rw[ak _ _ _ _ (by intro e;injection e;omega)];exact r.c3,by rw[ak _ _ _ _ (by intro e;injection e;omega)];exact r.c4,by rw[ak _ _ _ _ (by intro e;injection e;omega)];exact r.c5,λj=>by simpa using r.fr j⟩
theorem eF {w:World}{a:Addr}{v u:Value}(h:w.cell? a=some u):(w.setCell a v).cell? a=some v:=World.cell?_setCell_same' _ _ _ (by rw[h];rfl)
theorem RB.set0 {w:World}{b:Nat}{k q t:Int}{s h d:ByteArray}(r:RB w b k q t s h d)(x:Int):RB (w.setCell ⟨b,0,none⟩ (.int .i64 x)) b x q t s h d :=
 ⟨by simpa using r.lt,eF r.c0,by rw[ak _ _ _ _ (by intro e;injection e;omega)];exact r.c1,by rw[ak _ _ _ _ (by intro e;injection e;omega)];exact r.c2,
  by rw[ak _ _ _ _ (by intro e;injection e;omega)];exact r.c3,by rw[ak _ _ _ _ (by intro e;injection e;omega)];exact r.c4,by rw[ak _ _ _ _ (by intro e;injection e;omega)];exact r.c5,λj=>by simpa using r.fr j⟩
theorem RB.set1 {w:World}{b:Nat}{k q t:Int}{s h d:ByteArray}(r:RB w b k q t s h d)(x:Int):RB (w.setCell ⟨b,1,none⟩ (.int .i64 x)) b k x t s h d :=
 ⟨by simpa using r.lt,by rw[ak _ _ _ _ (by intro e;injection e;omega)];exact r.c0,eF r.c1,by rw[ak _ _ _ _ (by intro e;injection e;omega)];exact r.c2,
  by rw[ak _ _ _ _ (by intro e;injection e;omega)];exact r.c3,by rw[ak _ _ _ _ (by intro e;injection e;omega)];exact r.c4,by rw[ak _ _ _ _ (by intro e;injection e;omega)];exact r.c5,λj=>by simpa using r.fr j⟩
theorem RB.set2 {w:World}{b:Nat}{k q t:Int}{s h d:ByteArray}(r:RB w b k q t s h d)(x:Int):RB (w.setCell ⟨b,2,none⟩ (.int .i64 x)) b k q x s h d :=
 ⟨by simpa using r.lt,by rw[ak _ _ _ _ (by intro e;injection e;omega)];exact r.c0,by rw[ak _ _ _ _ (by intro e;injection e;omega)];exact r.c1,eF r.c2,
  by rw[ak _ _ _ _ (by intro e;injection e;omega)];exact r.c3,by rw[ak _ _ _ _ (by intro e;injection e;omega)];exact r.c4,by rw[ak _ _ _ _ (by intro e;injection e;omega)];exact r.c5,λj=>by simpa using r.fr j⟩
theorem RB.IK {w:World}{b:Nat}{k q t:Int}{s h d:ByteArray}(r:RB w b k q t s h d)(x:ByteArray):RB (w.setCell ⟨b,3,none⟩ (.string x)) b k q t x h d :=
 ⟨by simpa using r.lt,by rw[ak _ _ _ _ (by intro e;injection e;omega)];exact r.c0,by rw[ak _ _ _ _ (by intro e;injection e;omega)];exact r.c1,by rw[ak _ _ _ _ (by intro e;injection e;omega)];exact r.c2,
  eF r.c3,by rw[ak _ _ _ _ (by intro e;injection e;omega)];exact r.c4,by rw[ak _ _ _ _ (by intro e;injection e;omega)];exact r.c5,λj=>by simpa using r.fr j⟩
theorem RB.Tm {w:World}{b:Nat}{k q t:Int}{s h d:ByteArray}(r:RB w b k q t s h d)(x:ByteArray):RB (w.setCell ⟨b,4,none⟩ (.string x)) b k q t s x d :=
 ⟨by simpa using r.lt,by rw[ak _ _ _ _ (by intro e;injection e;omega)];exact r.c0,by rw[ak _ _ _ _ (by intro e;injection e;omega)];exact r.c1,by rw[ak _ _ _ _ (by intro e;injection e;omega)];exact r.c2,
  by rw[ak _ _ _ _ (by intro e;injection e;omega)];exact r.c3,eF r.c4,by rw[ak _ _ _ _ (by intro e;injection e;omega)];exact r.c5,λj=>by simpa using r.fr j⟩
theorem RB.Wl {w:World}{b:Nat}{k q t:Int}{s h d:ByteArray}(r:RB w b k q t s h d)(x:ByteArray):RB (w.setCell ⟨b,5,none⟩ (.string x)) b k q t s h x :=
 ⟨by simpa using r.lt,by rw[ak _ _ _ _ (by intro e;injection e;omega)];exact r.c0,by rw[ak _ _ _ _ (by intro e;injection e;omega)];exact r.c1,by rw[ak _ _ _ _ (by intro e;injection e;omega)];exact r.c2,
  by rw[ak _ _ _ _ (by intro e;injection e;omega)];exact r.c3,by rw[ak _ _ _ _ (by intro e;injection e;omega)];exact r.c4,eF r.c5,λj=>by simpa using r.fr j⟩
theorem RB.new' (w:World)(b:Nat)(hb:b=w.heap.size)(k q t:Int)(s h d:ByteArray)(T:TypeId):RB (w.alloc (.cells #[.int .i64 k,.int .i64 q,.int .i64 t,.string s,.string h,.string d] T)) b k q t s h d:=by
 subst hb;exact RB.new w k q t s h d T
theorem RB.iL {w:World}{b:Nat}{k q t:Int}{s h d:ByteArray}(r:RB w b k q t s h d)(k' q' t':Int)(s' h' d':ByteArray) :
 RB ((((((w.setCell ⟨b,0,none⟩ (.int .i64 k')).setCell ⟨b,1,none⟩ (.int .i64 q')).setCell ⟨b,2,none⟩ (.int .i64 t')).setCell ⟨b,3,none⟩ (.string s')).setCell ⟨b,4,none⟩ (.string h')).setCell ⟨b,5,none⟩ (.string d')) b k' q' t' s' h' d' :=
 (((((r.set0 k').set1 q').set2 t').IK s').Tm h').Wl d'
theorem jg {w0 W:World}{b:Nat}{v0 v1 v2 v3 v4 v5:Value}(x:Below w0.heap.size w0 W)(hb:w0.heap.size<=b) :
 Below w0.heap.size w0 ((((((W.setCell ⟨b,0,none⟩ v0).setCell ⟨b,1,none⟩ v1).setCell ⟨b,2,none⟩ v2).setCell ⟨b,3,none⟩ v3).setCell ⟨b,4,none⟩ v4).setCell ⟨b,5,none⟩ v5) :=
 (((((x.setCell hb _).setCell hb _).setCell hb _).setCell hb _).setCell hb _).setCell hb _
def aan (r:Pk.Rec):Value:=.agg #[.int .i64 r.k,.int .i64 r.q,.int .i64 r.t,.string (Ei r.s),.string (Ei r.h),.string (Ei r.d)]
theorem mg {w:World}{b:Nat}{k q t:Int}{s h d:ByteArray}(r:RB w b k q t s h d) :
 (loadVar 33 ⟨b,0,none⟩).run prog w=.ok (.agg #[.int .i64 k,.int .i64 q,.int .i64 t,.string s,.string h,.string d]) w:=by
 have hl:(loadCells ⟨b,0,none⟩ 6).run prog w=.ok #[.int .i64 k,.int .i64 q,.int .i64 t,.string s,.string h,.string d] w :=
  run_loadCells_list (P:=prog) w ⟨b,0,none⟩ [.int .i64 k,.int .i64 q,.int .i64 t,.string s,.string h,.string d] (λj v hv=>by
   rw[Tj,Nat.zero_add];match j,hv with
   | 0,hv=>rw[r.c0];simpa using hv
   | 1,hv=>rw[r.c1];simpa using hv
   | 2,hv=>rw[r.c2];simpa using hv
   | 3,hv=>rw[r.c3];simpa using hv
   | 4,hv=>rw[r.c4];simpa using hv
   | 5,hv=>rw[r.c5];simpa using hv)
 have hz:Tryz.t33.size=6:=by kernel_rfl
 simp[loadVar,isAgg,sizeOf];rw[hz,hl];rfl
theorem gK {fn:Func}{a u:Tmp}{tmps:Array Value}{w:World}{b:Nat}{k q t:Int}{s h d:ByteArray}(hf:fn.results=#[.cell a 33,.tmp u])(ha:tmps.getD a undef=.pointer (some ⟨b,0,none⟩))(r:RB w b k q t s h d) :
 (results fn tmps).run prog w=.ok (.tuple #[.agg #[.int .i64 k,.int .i64 q,.int .i64 t,.string s,.string h,.string d],tmps.getD u undef]) w:=by
 have ha':tmps[a]?.getD undef=.pointer (some ⟨b,0,none⟩):=by simpa using ha
 simp[results,hf,ha',asAddr,mg r]
theorem Pz {fn:Func}{a u v:Tmp}{tmps:Array Value}{w:World}{b:Nat}{k q t:Int}{s h d:ByteArray}(hf:fn.results=#[.cell a 33,.tmp u,.tmp v])(ha:tmps.getD a undef=.pointer (some ⟨b,0,none⟩))(r:RB w b k q t s h d) :
 (results fn tmps).run prog w=.ok (.tuple #[.agg #[.int .i64 k,.int .i64 q,.int .i64 t,.string s,.string h,.string d],tmps.getD u undef,tmps.getD v undef]) w:=by
 have ha':tmps[a]?.getD undef=.pointer (some ⟨b,0,none⟩):=by simpa using ha
 simp[results,hf,ha',asAddr,mg r]
theorem pY {P:Program}{ops:Array Oper}{o:Oper}{a:Act}{w:World}{K:Act->World->Prop}{Q:Exit->Act->World->Prop}{E:Prop}
 (hg:o.guard=none) (d x:Operand) (dT sT:TypeId) (hop:o.op=Op.call {callee:=Callee.builtin Builtin.append,args:=#[d,x],argTypes:=#[dT,sT]})
 (v u:Value) (hd:a.eval d=v) (hx:a.eval x=u) {v':Value} {w':World} (hr:(Builtin.append_ #[dT,sT] o.type #[v,u]).run P w=.ok v' w') (hK:K (a.put o.dst v') w') :
 if Region.wanted o (yielded ops a.tmps)=true then Oper.wp P o a w K Q else E:=by
 have hw:Region.wanted o (yielded ops a.tmps)=true:=by simp[Region.wanted,hg]
 rw[if_pos hw];unfold Oper.wp;simp[execOp,hop,resolve,invoke,builtin,hd,hx,hr,Result.andThen];exact hK
end Go.Proofs.YtmhbobnfmncdbaaGreatDoor
namespace Go.Proofs.YtmhbobnfmncdbaaGreatDoor.Dk
open Go.RowKit Go.Proofs.Tryz
structure SB (w:World)(b:Nat)(x0 x1 x2 x3:Int):Prop where
 lt:b<w.heap.size
 c0:w.cell? ⟨b,0,none⟩=some (.int .i64 x0)
 c1:w.cell? ⟨b,1,none⟩=some (.int .i64 x1)
 c2:w.cell? ⟨b,2,none⟩=some (.int .i64 x2)
 c3:w.cell? ⟨b,3,none⟩=some (.int .i64 x3)
 fr:∀j,w.frozen? ⟨b,j,none⟩=false
theorem SB.below {w w':World}{b n:Nat}{x0 x1 x2 x3:Int}(r:SB w b x0 x1 x2 x3)(hb:Below n w w')(hn:b<n):SB w' b x0 x1 x2 x3 :=
 ⟨Nat.lt_of_lt_of_le r.lt hb.size,by rw[hb.cell (p:=⟨b,0,none⟩) hn];exact r.c0,by rw[hb.cell (p:=⟨b,1,none⟩) hn];exact r.c1,by rw[hb.cell (p:=⟨b,2,none⟩) hn];exact r.c2,by rw[hb.cell (p:=⟨b,3,none⟩) hn];exact r.c3,λj=>by rw[hb.frozen (p:=⟨b,j,none⟩) hn];exact r.fr j⟩
theorem SB.next {w w':World}{b:Nat}{x0 x1 x2 x3:Int}(r:SB w b x0 x1 x2 x3)(hb:Below w.heap.size w w'):SB w' b x0 x1 x2 x3:=r.below hb r.lt
theorem SB.alloc {w:World}{b:Nat}{x0 x1 x2 x3:Int}(r:SB w b x0 x1 x2 x3)(o:Obj):SB (w.alloc o) b x0 x1 x2 x3:=r.next ((Below.refl _ _).alloc (Nat.le_refl _) o)
theorem SB.new (w:World)(x0 x1 x2 x3:Int)(T:TypeId):SB (w.alloc (.cells #[.int .i64 x0,.int .i64 x1,.int .i64 x2,.int .i64 x3] T)) w.heap.size x0 x1 x2 x3 :=
 ⟨by simp,by simp,by simp,by simp,by simp,λj=>World.frozen?_alloc_new _ _ _ j⟩
theorem SB.set0 {w:World}{b:Nat}{x0 x1 x2 x3:Int}(r:SB w b x0 x1 x2 x3)(y:Int):SB (w.setCell ⟨b,0,none⟩ (.int .i64 y)) b y x1 x2 x3 :=
 ⟨by simpa using r.lt,eF r.c0,by rw[ak _ _ _ _ (by intro e;injection e;omega)];exact r.c1,by rw[ak _ _ _ _ (by intro e;injection e;omega)];exact r.c2,by rw[ak _ _ _ _ (by intro e;injection e;omega)];exact r.c3,λj=>by simpa using r.fr j⟩
theorem SB.set1 {w:World}{b:Nat}{x0 x1 x2 x3:Int}(r:SB w b x0 x1 x2 x3)(y:Int):SB (w.setCell ⟨b,1,none⟩ (.int .i64 y)) b x0 y x2 x3 :=
 ⟨by simpa using r.lt,by rw[ak _ _ _ _ (by intro e;injection e;omega)];exact r.c0,eF r.c1,by rw[ak _ _ _ _ (by intro e;injection e;omega)];exact r.c2,by rw[ak _ _ _ _ (by intro e;injection e;omega)];exact r.c3,λj=>by simpa using r.fr j⟩
theorem SB.set2 {w:World}{b:Nat}{x0 x1 x2 x3:Int}(r:SB w b x0 x1 x2 x3)(y:Int):SB (w.setCell ⟨b,2,none⟩ (.int .i64 y)) b x0 x1 y x3 :=
 ⟨by simpa using r.lt,by rw[ak _ _ _ _ (by intro e;injection e;omega)];exact r.c0,by rw[ak _ _ _ _ (by intro e;injection e;omega)];exact r.c1,eF r.c2,by rw[ak _ _ _ _ (by intro e;injection e;omega)];exact r.c3,λj=>by simpa using r.fr j⟩
theorem SB.IK {w:World}{b:Nat}{x0 x1 x2 x3:Int}(r:SB w b x0 x1 x2 x3)(y:Int):SB (w.setCell ⟨b,3,none⟩ (.int .i64 y)) b x0 x1 x2 y :=
 ⟨by simpa using r.lt,by rw[ak _ _ _ _ (by intro e;injection e;omega)];exact r.c0,by rw[ak _ _ _ _ (by intro e;injection e;omega)];exact r.c1,by rw[ak _ _ _ _ (by intro e;injection e;omega)];exact r.c2,eF r.c3,λj=>by simpa using r.fr j⟩
theorem SB.other {w:World}{b c i:Nat}{x0 x1 x2 x3:Int}{v:Value}(r:SB w b x0 x1 x2 x3)(hc:c≠b):SB (w.setCell ⟨c,i,none⟩ v) b x0 x1 x2 x3 :=
 ⟨by simpa using r.lt,by rw[ak _ _ _ _ (by intro e;injection e;omega)];exact r.c0,by rw[ak _ _ _ _ (by intro e;injection e;omega)];exact r.c1,by rw[ak _ _ _ _ (by intro e;injection e;omega)];exact r.c2,by rw[ak _ _ _ _ (by intro e;injection e;omega)];exact r.c3,λj=>by simpa using r.fr j⟩
theorem Lm {w:World}{b:Nat}{x0 x1 x2 x3:Int}(r:SB w b x0 x1 x2 x3):(loadVar 159 ⟨b,0,none⟩).run prog w=.ok (.agg #[.int .i64 x0,.int .i64 x1,.int .i64 x2,.int .i64 x3]) w:=by
 have hl:(loadCells ⟨b,0,none⟩ 4).run prog w=.ok #[.int .i64 x0,.int .i64 x1,.int .i64 x2,.int .i64 x3] w :=
  run_loadCells_list (P:=prog) w ⟨b,0,none⟩ [.int .i64 x0,.int .i64 x1,.int .i64 x2,.int .i64 x3] (λj v hv=>by
   rw[Tj,Nat.zero_add];match j,hv with
   | 0,hv=>rw[r.c0];simpa using hv
   | 1,hv=>rw[r.c1];simpa using hv
   | 2,hv=>rw[r.c2];simpa using hv
   | 3,hv=>rw[r.c3];simpa using hv)
 have hz:Tryz.t159.size=4:=by kernel_rfl
 simp[loadVar,isAgg,sizeOf];rw[hz,hl];rfl
theorem sG {fn:Func}{a:Tmp}{tmps:Array Value}{w:World}{b:Nat}{x0 x1 x2 x3:Int}(hf:fn.results=#[.cell a 159])(ha:tmps.getD a undef=.pointer (some ⟨b,0,none⟩))(r:SB w b x0 x1 x2 x3) :
 (results fn tmps).run prog w=.ok (.agg #[.int .i64 x0,.int .i64 x1,.int .i64 x2,.int .i64 x3]) w:=by
 have ha':tmps[a]?.getD undef=.pointer (some ⟨b,0,none⟩):=by simpa using ha
 simp[results,hf,ha',asAddr,Lm r]
end Go.Proofs.YtmhbobnfmncdbaaGreatDoor.Dk
namespace Go.Proofs.YtmhbobnfmncdbaaGreatDoor.Tk
open Go Go.Proofs.Tryz
structure bH where
 n:ByteArray
 f:ByteArray
 fr:Int
 st:Int
 ack:Int
 wait:Int
 bo:List Int
 mo:Int
 pe:Int
 pu:Bool
def aZ (t:bH)(nth:Int):Int:=if t.bo=[] then t.wait else (t.bo[(min (max nth 1) (t.bo.length:Int)-1).toNat]?).getD 0
theorem xP {t:bH}(h:t.bo=[])(n:Int):aZ t n=t.wait:=by unfold aZ;rw[if_pos h]
theorem qc {t:bH}{n:Int}{k:Nat}(hk:k<t.bo.length)(h:min (max n 1) (t.bo.length:Int)-1=(k:Int)):aZ t n=Dk.nth t.bo k:=by
 unfold aZ Dk.nth;rw[if_neg (by intro z;rw[z] at hk;simp at hk),h];rfl
end Go.Proofs.YtmhbobnfmncdbaaGreatDoor.Tk
namespace Go.Proofs.YtmhbobnfmncdbaaGreatDoor.Pn
open Go Go.Proofs.Tryz
def cut (b:UInt8):List UInt8->List (List UInt8)
 | []=>[[]]
 | c::r=>if c=b then []::cut b r else (cut b r).modifyHead (λp=>c::p)
theorem Gq:∀l:List UInt8,cut 46 l=Pl.fM l
 | []=>rfl
 | c::r=>by unfold cut Pl.fM;rw[Gq r]
theorem uS (b:UInt8):∀l:List UInt8,cut b l≠[]
 | []=>by simp[cut]
 | c::r=>by
  unfold cut;split
  ·simp
  ·have:=uS b r
   cases e:cut b r with
   | nil=>exact absurd e this
   | cons x y=>simp
theorem qg (b:UInt8):∀(l:List UInt8) (p:List UInt8),p∈cut b l->b∉p
 | [],p,h=>by
  simp[cut] at h;rw[h];simp
 | c::r,p,h=>by
  unfold cut at h;by_cases e:c=b
  ·rw[if_pos e] at h;rcases List.mem_cons.1 h with y|y
   ·rw[y];simp
   ·exact qg b r p y
  ·rw[if_neg e] at h
   cases hc:cut b r with
   | nil=>exact absurd hc (uS b r)
   | cons x xs =>
    rw[hc] at h;simp only[List.modifyHead_cons] at h;rcases List.mem_cons.1 h with y|y
    ·rw[y];have hx:=qg b r x (by rw[hc];exact List.mem_cons_self ..);intro z;rcases List.mem_cons.1 z with q|q
     ·exact e q.symm
     ·exact hx q
    ·exact qg b r p (by rw[hc];exact List.mem_cons_of_mem _ y)
def glue (b:UInt8):List (List UInt8)->List UInt8
 | []=>[]
 | [t]=>t
 | t::u::ts=>t++b::glue b (u::ts)
theorem eG (b:UInt8)(t:List UInt8){ts:List (List UInt8)}(h:ts≠[]):glue b (t::ts)=t++b::glue b ts:=by
 cases ts with
 | nil=>exact absurd rfl h
 | cons u us=>rfl
theorem IL (b:UInt8):∀(ts:List (List UInt8)) (t:List UInt8),ts≠[]->glue b (ts++[t])=glue b ts++b::t
 | [],_,h=>absurd rfl h
 | [x],t,_=>rfl
 | x::y::ts,t,_=>by
  have h1:=IL b (y::ts) t (by simp);rw[List.cons_append,eG b x (by simp),h1,eG b x (by simp),List.append_assoc];rfl
theorem qh (b:UInt8):∀l:List UInt8,glue b (cut b l)=l
 | []=>rfl
 | c::r=>by
  have ih:=qh b r;unfold cut;by_cases e:c=b
  ·rw[if_pos e,eG b [] (uS b r),ih,e];rfl
  ·rw[if_neg e]
   cases hc:cut b r with
   | nil=>exact absurd hc (uS b r)
   | cons x xs =>
    rw[hc] at ih;rw[List.modifyHead_cons]
    cases xs with
    | nil=>rw[<-ih];rfl
    | cons y ys =>
     rw[eG b (c::x) (List.cons_ne_nil y ys),<-ih,eG b x (List.cons_ne_nil y ys)];rfl
theorem xQ (b:UInt8):∀(a l:List UInt8),b∉a->cut b (a++b::l)=a::cut b l
 | [],l,_=>by rw[List.nil_append,cut,if_pos rfl]
 | c::a,l,h=>by
  have hc:¬c=b:=λe=>h (by rw[e];exact List.mem_cons_self ..)
  rw[List.cons_append,cut,if_neg hc,xQ b a l (λz=>h (List.mem_cons_of_mem _ z)),List.modifyHead_cons]
theorem BD (b:UInt8):∀(a:List UInt8),b∉a->cut b a=[a]
 | [],_=>rfl
 | c::a,h=>by
  have hc:¬c=b:=λe=>h (by rw[e];exact List.mem_cons_self ..)
  rw[cut,if_neg hc,BD b a (λz=>h (List.mem_cons_of_mem _ z)),List.modifyHead_cons]
theorem qj (b:UInt8):∀(ts:List (List UInt8)),ts≠[]->(∀t∈ts,b∉t)->cut b (glue b ts)=ts
 | [],h,_=>absurd rfl h
 | [t],_,h=>BD b t (h t (List.mem_cons_self ..))
 | t::u::ts,_,h=>by
  rw[eG b t (by simp),xQ b t _ (h t (List.mem_cons_self ..)),qj b (u::ts) (by simp) (λx hx=>h x (List.mem_cons_of_mem _ hx))]
theorem ql (b:UInt8)(M:Nat):∀(ts:List (List UInt8)),(∀t∈ts,t.length<=M)->(glue b ts).length<=ts.length*(M+1)
 | [],_=>by simp[glue]
 | [t],h=>by have:=h t (List.mem_cons_self ..);simp[glue];omega
 | t::u::ts,h=>by
  have h1:=ql b M (u::ts) (λx hx=>h x (List.mem_cons_of_mem _ hx));have h2:=h t (List.mem_cons_self ..);rw[eG b t (by simp),List.length_append,List.length_cons];rw[List.length_cons (a:=t),Nat.add_mul];omega
theorem uT (b:UInt8):∀(ts:List (List UInt8)) (c:UInt8),c∈glue b ts->c=b\/∃t∈ts,c∈t
 | [],c,h=>by cases h
 | [t],c,h=>.inr ⟨t,List.mem_cons_self ..,h⟩
 | t::u::ts,c,h=>by
  rw[eG b t (by simp)] at h;rcases List.mem_append.1 h with y|y
  ·exact .inr ⟨t,List.mem_cons_self ..,y⟩
  ·rcases List.mem_cons.1 y with z|z
   ·exact .inl z
   ·rcases uT b (u::ts) c z with q|⟨x,hx,hc⟩
    ·exact .inl q
    ·exact .inr ⟨x,List.mem_cons_of_mem _ hx,hc⟩
def fD (c:UInt8):Bool:=decide (48<=c.toNat)&&decide (c.toNat<=57)
def gQ (l:List UInt8):Nat:=l.foldl (λn c=>n*10+(c.toNat-48)) 0
theorem kL (l:List UInt8)(c:UInt8):gQ (l++[c])=gQ l*10+(c.toNat-48):=by unfold gQ;rw[List.foldl_append];rfl
theorem zB {d:Nat}(h:d<10):(UInt8.ofNat (48+d)).toNat=48+d:=by rw[UInt8.toNat_ofNat'];omega
theorem BF {d:Nat}(h:d<10):fD (UInt8.ofNat (48+d))=true:=by unfold fD;rw[zB h];simp;omega
theorem Ej (u:Nat):Lib.decDigits u≠[]:=by rw[Lib.decDigits];split<;>simp
theorem zC (u:Nat):∀c∈Lib.decDigits u,fD c=true:=by
 induction u using Nat.strongRecOn with
 | _ u ih =>
  intro c hc;rw[Lib.decDigits] at hc;split at hc
  ·rename_i h;rw[List.mem_singleton.1 hc];exact BF h
  ·rename_i h;rcases List.mem_append.1 hc with y|y
   ·exact ih (u / 10) (by omega) c y
   ·rw[List.mem_singleton.1 y];exact BF (by omega)
theorem PE (u:Nat):gQ (Lib.decDigits u)=u:=by
 induction u using Nat.strongRecOn with
 | _ u ih =>
  rw[Lib.decDigits];split
  ·rename_i h;have:=kL [] (UInt8.ofNat (48+u));rw[List.nil_append,zB h] at this;rw[this];simp[gQ]
  ·rename_i h;rw[kL,ih (u / 10) (by omega),zB (by omega)];omega
theorem Lp (u:Nat)(hu:1<=u):(Lib.decDigits u).head?≠some 48:=by
 induction u using Nat.strongRecOn with
 | _ u ih =>
  rw[Lib.decDigits];split
  ·rename_i h;intro z;simp only[List.head?_cons,Option.some.injEq] at z;have:=congrArg UInt8.toNat z;rw[zB h] at this;simp at this;omega
  ·rename_i h;have hr:=ih (u / 10) (by omega) (by omega)
   cases hd:Lib.decDigits (u / 10) with
   | nil=>exact absurd hd (Ej _)
   | cons x xs =>
    rw[hd] at hr;simpa using hr
theorem zD:∀(k u:Nat),u<10 ^ (k+1)->(Lib.decDigits u).length<=k+1
 | 0,u,h=>by
  have h':u<10:=by simpa using h
  rw[Lib.decDigits,dif_pos h'];simp
 | k+1,u,h=>by
  rw[Lib.decDigits];split
  ·simp
  ·have:u / 10<10 ^ (k+1):=by rw[Nat.pow_succ] at h;omega
   have:=zD k (u / 10) this;rw[List.length_append];simp;omega
theorem BG {P:List UInt8->Prop}(h0:P [])(h1:∀a d,P a->P (a++[d]))(l:List UInt8):P l:=by
 have key:∀(n:Nat) (l:List UInt8),l.length=n->P l:=by
  intro n;induction n with
  | zero=>intro l hl;rw[List.eq_nil_of_length_eq_zero hl];exact h0
  | succ n ih =>
   intro l hl;have hne:l≠[]:=by intro z;rw[z] at hl;simp at hl
   rw[<-List.dropLast_concat_getLast hne];exact h1 _ _ (ih _ (by simp[hl]))
 exact key _ l rfl
theorem Gs:∀{l:List UInt8},(∀c∈l,fD c=true)->l≠[]->l.head?≠some 48->1<=gQ l:=by
 refine λ{l}=>BG (P:=λl=>(∀c∈l,fD c=true)->l≠[]->l.head?≠some 48->1<=gQ l) ?_ ?_ l
 ·intro _ h;exact absurd rfl h
 ·intro a d ih hd _ hh;rw[kL]
  cases a with
  | nil =>
   simp only[List.nil_append,List.head?_cons,ne_eq,Option.some.injEq] at hh;have h1:=hd d (by simp);unfold fD at h1;simp at h1;have:d.toNat≠48:=λz=>hh (UInt8.toNat_inj.1 (by simpa using z))
   omega
  | cons x xs =>
   have:=ih (λc hc=>hd c (List.mem_append_left _ hc)) (by simp) (by simpa using hh);omega
theorem PK:∀{l:List UInt8},(∀c∈l,fD c=true)->l≠[]->l.head?≠some 48->Lib.decDigits (gQ l)=l:=by
 refine λ{l}=>BG (P:=λl=>(∀c∈l,fD c=true)->l≠[]->l.head?≠some 48->Lib.decDigits (gQ l)=l) ?_ ?_ l
 ·intro _ h;exact absurd rfl h
 ·intro a d ih hd _ hh;have h1:=hd d (by simp);unfold fD at h1;simp at h1;have hdd:∀n,n=d.toNat-48->UInt8.ofNat (48+n)=d:=λn hn=>UInt8.toNat_inj.1 (by rw[UInt8.toNat_ofNat',hn];omega)
  rw[kL]
  cases a with
  | nil =>
   have e:gQ []*10+(d.toNat-48)=d.toNat-48:=by simp[gQ]
   rw[e,Lib.decDigits,dif_pos (by omega),hdd _ rfl];rfl
  | cons x xs =>
   have ha:∀c∈x::xs,fD c=true:=λc hc=>hd c (List.mem_append_left _ hc)
   have hh':(x::xs).head?≠some 48:=by simpa using hh
   have hp:=Gs ha (by simp) hh';rw[Lib.decDigits,dif_neg (by omega),show(gQ (x::xs)*10+(d.toNat-48)) / 10=gQ (x::xs) by omega,ih ha (by simp) hh',hdd _ (by omega)]
def fZ (l:List UInt8):Int:=if (l.take 10).all fD=true/\1<=l.length/\l.length<=9/\¬(l.head?=some 48/\l≠[48]) then (gQ l:Int) else -1
theorem BH {u:Nat}(h:1<=u)(h9:u<1000000000):fZ (Lib.decDigits u)=(u:Int):=by
 have hl:=zD 8 u (by simpa using h9);have hn:=Ej u;unfold fZ;rw[if_pos,PE];refine⟨?_,?_,hl,λz=>Lp u h z.1⟩
 ·rw[List.all_eq_true];exact λc hc=>zC u c (List.mem_of_mem_take hc)
 ·cases hd:Lib.decDigits u with
  | nil=>exact absurd hd hn
  | cons x xs=>simp
theorem xR {l:List UInt8}(h:1<=fZ l):Lib.itoa (fZ l)=l/\fZ l<1000000000:=by
 unfold fZ at h ⊢;split
 ·rename_i hc;rw[if_pos hc] at h;obtain⟨h1,h2,h3,h4⟩:=hc;have hall:∀c∈l,fD c=true:=by
   rw[List.take_of_length_le (by omega),List.all_eq_true] at h1;exact h1
  have hne:l≠[]:=by intro z;rw[z] at h2;simp at h2
  have hh:l.head?≠some 48:=λz=>by
   have:l=[48]:=Classical.byContradiction (λy=>h4 ⟨z,y⟩);rw[this] at h;simp[gQ] at h
  have hd:=PK hall hne hh;refine⟨?_,?_⟩
  ·unfold Lib.itoa;rw[if_neg (by omega)];simpa using hd
  ·apply Classical.byContradiction;intro z;have hlen:∀(k v:Nat),10 ^ k<=v->k+1<=(Lib.decDigits v).length:=by
    intro k;induction k with
    | zero=>intro v _;cases hd:Lib.decDigits v with
     | nil=>exact absurd hd (Ej v)
     | cons x xs=>simp
    | succ k ih =>
     intro v hv;rw[Nat.pow_succ] at hv;have hp:1<=10 ^ k:=Nat.one_le_pow _ _ (by decide);rw[Lib.decDigits,dif_neg (by omega),List.length_append];have:=ih (v / 10) (by omega);simp;omega
   have:=hlen 9 (gQ l) (by simp;omega);rw[hd] at this;omega
 ·rename_i hc;rw[if_neg hc] at h;omega
end Go.Proofs.YtmhbobnfmncdbaaGreatDoor.Pn
namespace Go.Proofs.YtmhbobnfmncdbaaGreatDoor.Dk
open Go.RowKit Go.Proofs.Tryz
structure CB (w:World)(b:Nat)(vs:List Value):Prop where
 lt:b<w.heap.size
 cell:∀j u,vs[j]?=some u->w.cell? ⟨b,j,none⟩=some u
 fr:∀j,w.frozen? ⟨b,j,none⟩=false
theorem CB.new (w:World)(vs:List Value)(t:TypeId):CB (w.alloc (.cells vs.toArray t)) w.heap.size vs :=
 ⟨by simp,λj u h=>by rw[cell_of_row _ w.heap.size j _ _ _ (heap_alloc_new w _)];simpa using h,λj=>World.frozen?_alloc_new _ _ _ j⟩
theorem CB.aT {A:Nat->Prop}{w w':World}{b:Nat}{vs:List Value}(h:CB w b vs)(hc:aA A w w')(hn:¬A b):CB w' b vs :=
 ⟨Nat.lt_of_lt_of_le h.lt hc.size,λj u hj=>by rw[hc.cell (p:=⟨b,j,none⟩) h.lt hn];exact h.cell j u hj,λj=>by rw[hc.frozen (p:=⟨b,j,none⟩) h.lt hn];exact h.fr j⟩
theorem CB.next {w w':World}{b:Nat}{vs:List Value}(h:CB w b vs)(hb:Below w.heap.size w w'):CB w' b vs:=h.aT (A:=λ_=>False) (aA.of_below hb) (λz=>z)
theorem CB.iL {w:World}{b:Nat}{vs:List Value}(h:CB w b vs)(us:List Value)(hl:us.length=vs.length):CB (w.setCells b 0 us) b us:=by
 have hs:∀j,j<us.length->(w.cell? ⟨b,0+j,none⟩).isSome=true:=λj hj=>by
  rw[Nat.zero_add,h.cell j vs[j] (List.getElem?_eq_getElem (by omega))];rfl
 refine⟨?_,λj u hj=>?_,λj=>by rw[World.frozen?_setCells];exact h.fr j⟩
 ·have:∀(us:List Value) (o:Nat) (w:World),b<w.heap.size->b<(w.setCells b o us).heap.size:=by
   intro us;induction us with
   | nil=>intro o w h;exact h
   | cons x r ih=>intro o w h;exact ih _ _ (by simpa[World.setCell] using h)
  exact this us 0 w h.lt
 ·have hj2:=(List.getElem?_eq_some_iff.1 hj).1;have:=World.cell?_setCells_in b us 0 w hs j hj2;rw[Nat.zero_add] at this;rw[this,<-hj,List.getElem?_eq_getElem hj2]
theorem jh {w0:World}{b:Nat}(hb:w0.heap.size<=b):∀(us:List Value) (o:Nat) (W:World),Below w0.heap.size w0 W->Below w0.heap.size w0 (W.setCells b o us)
 | [],_,_,h=>h
 | u::r,o,_,h=>jh hb r (o+1) _ (h.setCell hb u)
theorem BI (b j:Nat):(⟨b,0,none⟩:Addr).add j=⟨b,j,none⟩:=by rw[Addr.add_lit,Nat.zero_add]
structure Gt where
 q:Int
 s:ByteArray
 d:ByteArray
 c:Int
 n:Int
 l:Int
abbrev oz (x:Gt):List Value:=[.int .i64 x.q,.string x.s,.string x.d,.int .i64 x.c,.int .i64 x.n,.int .i64 x.l]
abbrev KC (x:Gt):Value:=.agg #[.int .i64 x.q,.string x.s,.string x.d,.int .i64 x.c,.int .i64 x.n,.int .i64 x.l]
def dX:Gt:=⟨0,⟨#[]⟩,⟨#[]⟩,0,0,0⟩
abbrev Vl (f p c n:Int):Value:=.agg #[.int .i64 f,.int .i64 p,.int .i64 c,.int .i64 n]
theorem Gu {w:World}{b:Nat}{x:Gt}(r:CB w b (oz x)):(loadVar 47 ⟨b,0,none⟩).run prog w=.ok (KC x) w:=by
 have hl:(loadCells ⟨b,0,none⟩ 6).run prog w=.ok #[.int .i64 x.q,.string x.s,.string x.d,.int .i64 x.c,.int .i64 x.n,.int .i64 x.l] w :=
  run_loadCells_list (P:=prog) w ⟨b,0,none⟩ (oz x) (λj v hv=>by rw[BI];exact r.cell j v hv)
 have hz:Tryz.t47.size=6:=by kernel_rfl
 simp[loadVar,isAgg,sizeOf];rw[hz,hl];rfl
theorem BJ {fn:Func}{a:Tmp}{tmps:Array Value}{w:World}{b:Nat}{x:Gt}(hf:fn.results=#[.cell a 47])(ha:tmps.getD a undef=.pointer (some ⟨b,0,none⟩))(r:CB w b (oz x)) :
 (results fn tmps).run prog w=.ok (KC x) w:=by
 have ha':tmps[a]?.getD undef=.pointer (some ⟨b,0,none⟩):=by simpa using ha
 simp[results,hf,ha',asAddr,Gu r]
theorem dP {fn:Func}{a u:Tmp}{tmps:Array Value}{w:World}{b:Nat}{x:Gt}(hf:fn.results=#[.cell a 47,.tmp u])(ha:tmps.getD a undef=.pointer (some ⟨b,0,none⟩))(r:CB w b (oz x)) :
 (results fn tmps).run prog w=.ok (.tuple #[KC x,tmps.getD u undef]) w:=by
 have ha':tmps[a]?.getD undef=.pointer (some ⟨b,0,none⟩):=by simpa using ha
 simp[results,hf,ha',asAddr,Gu r]
theorem PO {w:World}{b:Nat}{f p c n:Int}(r:CB w b [.int .i64 f,.int .i64 p,.int .i64 c,.int .i64 n]):(loadVar 55 ⟨b,0,none⟩).run prog w=.ok (Vl f p c n) w:=by
 have hl:(loadCells ⟨b,0,none⟩ 4).run prog w=.ok #[.int .i64 f,.int .i64 p,.int .i64 c,.int .i64 n] w :=
  run_loadCells_list (P:=prog) w ⟨b,0,none⟩ [.int .i64 f,.int .i64 p,.int .i64 c,.int .i64 n] (λj v hv=>by rw[BI];exact r.cell j v hv)
 have hz:Tryz.t55.size=4:=by kernel_rfl
 simp[loadVar,isAgg,sizeOf];rw[hz,hl];rfl
theorem uU {fn:Func}{a:Tmp}{tmps:Array Value}{w:World}{b:Nat}{f p c n:Int}(hf:fn.results=#[.cell a 55])(ha:tmps.getD a undef=.pointer (some ⟨b,0,none⟩))(r:CB w b [.int .i64 f,.int .i64 p,.int .i64 c,.int .i64 n]) :
 (results fn tmps).run prog w=.ok (Vl f p c n) w:=by
 have ha':tmps[a]?.getD undef=.pointer (some ⟨b,0,none⟩):=by simpa using ha
 simp[results,hf,ha',asAddr,PO r]
end Go.Proofs.YtmhbobnfmncdbaaGreatDoor.Dk
namespace Go.Proofs.YtmhbobnfmncdbaaGreatDoor
open Go.RowKit Go.Proofs.Tryz
abbrev lU (t:Tk.bH)(a:Option Addr)(c:Nat):Value:=.agg #[.string t.n,.string t.f,.int .i64 t.fr,.int .i64 t.st,.int .i64 t.ack,.int .i64 t.wait,.slice a t.bo.length c,.int .i64 t.mo,.int .i64 t.pe,.bool t.pu]
abbrev oh (t:Tk.bH)(a:Option Addr)(c:Nat):Obj:=.cells #[.string t.n,.string t.f,.int .i64 t.fr,.int .i64 t.st,.int .i64 t.ack,.int .i64 t.wait,.slice a t.bo.length c,.int .i64 t.mo,.int .i64 t.pe,.bool t.pu] 24
structure TB (w:World)(b:Nat)(t:Tk.bH)(a:Option Addr)(c:Nat):Prop where
 lt:b<w.heap.size
 c0:w.cell? ⟨b,0,none⟩=some (.string t.n)
 c1:w.cell? ⟨b,1,none⟩=some (.string t.f)
 c2:w.cell? ⟨b,2,none⟩=some (.int .i64 t.fr)
 c3:w.cell? ⟨b,3,none⟩=some (.int .i64 t.st)
 c4:w.cell? ⟨b,4,none⟩=some (.int .i64 t.ack)
 c5:w.cell? ⟨b,5,none⟩=some (.int .i64 t.wait)
 c6:w.cell? ⟨b,6,none⟩=some (.slice a t.bo.length c)
 c7:w.cell? ⟨b,7,none⟩=some (.int .i64 t.mo)
 c8:w.cell? ⟨b,8,none⟩=some (.int .i64 t.pe)
 c9:w.cell? ⟨b,9,none⟩=some (.bool t.pu)
theorem TB.same {w w':World}{b:Nat}{t:Tk.bH}{a:Option Addr}{c:Nat}(h:TB w b t a c)(hs:w.heap.size<=w'.heap.size)(e:∀j,w'.cell? ⟨b,j,none⟩=w.cell? ⟨b,j,none⟩):TB w' b t a c :=
 ⟨Nat.lt_of_lt_of_le h.lt hs,by rw[e];exact h.c0,by rw[e];exact h.c1,by rw[e];exact h.c2,by rw[e];exact h.c3,by rw[e];exact h.c4,by rw[e];exact h.c5,by rw[e];exact h.c6,by rw[e];exact h.c7,by rw[e];exact h.c8,by rw[e];exact h.c9⟩
theorem TB.next {w w':World}{b:Nat}{t:Tk.bH}{a:Option Addr}{c:Nat}(h:TB w b t a c)(hb:Below w.heap.size w w'):TB w' b t a c:=h.same hb.size (λj=>hb.cell (p:=⟨b,j,none⟩) h.lt)
theorem TB.new (w:World)(t:Tk.bH)(a:Option Addr)(c:Nat):TB (w.alloc (oh t a c)) w.heap.size t a c:=⟨by simp,by simp,by simp,by simp,by simp,by simp,by simp,by simp,by simp,by simp,by simp⟩
theorem dG {w w':World}{a:Option Addr}{l:List Int}(h:Dk.lF w a l)(hb:Below w.heap.size w w'):Dk.lF w' a l:=λk hk=>by
 obtain⟨b,o,h1,h2,h3⟩:=h k hk;exact⟨b,o,h1,Nat.lt_of_lt_of_le h2 hb.size,by rw[hb.cell (p:=⟨b,o+k,none⟩) h2];exact h3⟩
structure gZ (t:Tk.bH):Prop where
 name:t.n.size<=140737488355328
 filt:t.f.size<=140737488355328
 many:t.bo.length<=140737488355328
end Go.Proofs.YtmhbobnfmncdbaaGreatDoor
namespace Go.Proofs.YtmhbobnfmncdbaaGreatDoor.Dk
open Go.RowKit Go.Proofs.Tryz
def Nums (w:World)(B:Nat)(v:Value)(l:List Int):Prop:=w.ownsRow B 3 1 v l.length (l.map (Value.int .i64))
theorem RU:(prog.info? 3).map (λi=>(i.zero,i.size,i.bytes))=some (some (.int .i64 0),1,8):=by kernel_rfl
theorem one_num (n:Int):∀u∈[Value.int .i64 n],u.oneCell'=true:=by
 intro u hu;simp at hu;subst hu;rfl
theorem Vm {w0 wr w1:World}{v v':Value}{l:List Int}{n:Int}{o:Obj}(hown:Nums wr w0.heap.size v l)(hb:Below w0.heap.size w0 wr)
 (h1:w1.ownsRow w0.heap.size 3 1 v' (l.length+1) ((l.map (Value.int .i64))++[.int .i64 n])) (hg:(wr.alloc o).grownBy w1 v.ownBlock) :
 Nums w1 w0.heap.size v' (l++[n])/\Below w0.heap.size w0 w1:=by
 refine⟨?_,?_⟩
 ·unfold Nums;rw[List.map_append,List.map_cons,List.map_nil,List.length_append];exact h1
 ·have hs:=hb.size;refine(hb.alloc (by omega) o).grown hg (by simp;omega) ?_;intro j hj;exact(World.ownsRow.lt hown j hj).1
theorem Nums.sl {w:World}{B:Nat}{v:Value}{l:List Int}(h:Nums w B v l):∃a cap,v=.slice a l.length cap/\lF w a l:=by
 rcases h.2 with ⟨h1,h2⟩|⟨g,cap,cur,h1,h2,h3,h4,h5,h6,h7⟩
 ·exact⟨none,0,by rw[h1,h2],λk hk=>by omega⟩
 ·refine⟨_,cap,h1,λk hk=>⟨g,0,rfl,(h.lt g (by rw[h1];rfl)).2,?_⟩⟩;rw[Nat.zero_add];rw[h1] at h;rw[World.ownsRow.cellAt h _ (by omega)];rw[List.getElem?_map,List.getElem?_eq_getElem hk];unfold nth;rw[List.getElem?_eq_getElem hk];rfl
theorem Nums.below {w w':World}{B:Nat}{v:Value}{l:List Int}(h:Nums w B v l)(hb:Below w.heap.size w w'):Nums w' B v l:=by
 refine⟨h.1,?_⟩;rcases h.2 with q|⟨g,cap,cur,h1,h2,h3,r⟩
 ·exact .inl q
 ·refine .inr ⟨g,cap,cur,h1,h2,?_,r⟩;rw[hb.block g (World.ownsRow.lt h g (by rw[h1];rfl)).2];exact h3
theorem Nums.aT {A:Nat->Prop}{w w':World}{B:Nat}{v:Value}{l:List Int}(h:Nums w B v l)(hb:aA A w w')(hn:∀g,B<=g->¬A g):Nums w' B v l:=by
 refine⟨h.1,?_⟩;rcases h.2 with q|⟨g,cap,cur,h1,h2,h3,r⟩
 ·exact .inl q
 ·refine .inr ⟨g,cap,cur,h1,h2,?_,r⟩;rw[hb.block g (World.ownsRow.lt h g (by rw[h1];rfl)).2 (hn g h2)];exact h3
theorem Nums.shape {w:World}{B:Nat}{v:Value}{l:List Int}(h:Nums w B v l):∃a cap,v=.slice a l.length cap/\l.length<=cap/\cap<=maxLen:=by
 rcases h.2 with ⟨h1,h2⟩|⟨g,cap,cur,h1,h2,h3,h4,h5,h6⟩
 ·exact⟨none,0,by rw[h1,h2],by omega,by unfold maxLen;omega⟩
 ·exact⟨_,cap,h1,h4,h5⟩
theorem Em (w:World)(B:Nat)(ty:TypeId)(v:Value)(l:List Int)(n:Int)(ha:Nums w B v l)(a:Addr)(c:Nat)(hnews:w.cell? a=some (.int .i64 n))(hl:l.length<=200000)(hB:B<=w.heap.size) :
 ∃v' w',(Builtin.append_ #[22,22] ty #[v,.slice (some a) 1 c]).run prog w=.ok v' w'/\Nums w' B v' (l++[n])/\aA (λk=>v.ownBlock=some k) w w':=by
 obtain⟨i0,hi,hz0,hz1,hz2⟩:=info_parts RU;obtain⟨v',w',hr,h2,h3,h4⟩:=run_append_own (P:=prog) w B 22 ty 3 i0 _ 1 8 underlying22 hi hz0 hz1 hz2 rfl (by omega) v l.length (l.map (Value.int .i64)) ha a 1 c [.int .i64 n] rfl (λj u hj=>by
  match j,hj with
  | 0,hj =>
   rw[show a.add 0=a from rfl,hnews];simpa using hj) (one_num n) (by unfold maxLen;omega) (by omega) hB
 refine⟨v',w',hr,?_,aA.bU h3⟩;unfold Nums;rw[List.length_append,List.map_append];exact h2
end Go.Proofs.YtmhbobnfmncdbaaGreatDoor.Dk
namespace Go.Proofs.YtmhbobnfmncdbaaGreatDoor
open Go.RowKit Go.Proofs.Tryz
def puts (W:World)(b:Nat):Nat->List Value->World
 | _,[]=>W
 | o,v::vs=>puts (W.setCell ⟨b,o,none⟩ v) b (o+1) vs
theorem xU (b:Nat):∀(vs:List Value) (W:World) (o:Nat),(∀j,j<vs.length->(W.cell? ⟨b,o+j,none⟩).isSome=true)->(∀j,j<vs.length->(puts W b o vs).cell? ⟨b,o+j,none⟩=vs[j]?)/\∀k,k<o->(puts W b o vs).cell? ⟨b,k,none⟩=W.cell? ⟨b,k,none⟩
 | [],W,o,_=>⟨λj hj=>by simp at hj,λk _=>rfl⟩
 | v::vs,W,o,h=>by
  have h2:∀j,j<vs.length->((W.setCell ⟨b,o,none⟩ v).cell? ⟨b,o+1+j,none⟩).isSome=true:=λj hj=>by
   rw[World.cell?_setCell_other _ _ _ _ (by intro e;injection e;omega)];have:=h (j+1) (by simpa using hj);rwa [show o+(j+1)=o+1+j by omega] at this
  obtain⟨r1,r2⟩:=xU b vs (W.setCell ⟨b,o,none⟩ v) (o+1) h2;refine⟨λj hj=>?_,λk hk=>?_⟩
  ·cases j with
   | zero =>
    rw[Nat.add_zero];show(puts (W.setCell ⟨b,o,none⟩ v) b (o+1) vs).cell? ⟨b,o,none⟩=some v;rw[r2 o (by omega)];exact World.cell?_setCell_same' _ _ _ (by have:=h 0 (by simp);rwa [Nat.add_zero] at this)
   | succ j =>
    have:=r1 j (by simpa using hj);rw[show o+(j+1)=o+1+j by omega];exact this
  ·show(puts (W.setCell ⟨b,o,none⟩ v) b (o+1) vs).cell? ⟨b,k,none⟩=_;rw[r2 k (by omega),World.cell?_setCell_other _ _ _ _ (by intro e;injection e;omega)]
theorem rC (b:Nat):∀(vs:List Value) (W:World) (o:Nat),(puts W b o vs).heap.size=W.heap.size
 | [],W,o=>rfl
 | v::vs,W,o=>by
  show(puts (W.setCell ⟨b,o,none⟩ v) b (o+1) vs).heap.size=_;rw[rC b vs];simp[World.setCell]
theorem En {B b:Nat}(hB:B<=b){w:World}:∀(vs:List Value) (W:World) (o:Nat),Below B w W->Below B w (puts W b o vs)
 | [],_,_,h=>h
 | v::vs,_,o,h=>En hB vs _ (o+1) (h.setCell (p:=⟨b,o,none⟩) hB v)
theorem uV {b k j:Nat}(h:k≠b):∀(vs:List Value) (W:World) (o:Nat),(puts W b o vs).cell? ⟨k,j,none⟩=W.cell? ⟨k,j,none⟩
 | [],W,o=>rfl
 | v::vs,W,o=>by
  show(puts (W.setCell ⟨b,o,none⟩ v) b (o+1) vs).cell? ⟨k,j,none⟩=_;rw[uV h vs,World.cell?_setCell_other _ _ _ _ (by intro e;injection e;omega)]
end Go.Proofs.YtmhbobnfmncdbaaGreatDoor
namespace Go.Proofs.YtmhbobnfmncdbaaGreatDoor.Dk
open Go.RowKit Go.Proofs.Tryz
structure kF where
 a:Value
 b:Value
 c:Value
def IQ (x:kF):Prop:=x.a.oneCell'=true/\x.b.oneCell'=true/\x.c.oneCell'=true
abbrev aao (x:kF):Value:=.agg #[x.a,x.b,x.c]
def noT:kF:=⟨.bool false,.bool false,.bool false⟩
def tr (l:List kF)(k:Nat):kF:=l[k]?.getD noT
theorem Eo {l:List kF}{k:Nat}(h:k<l.length):tr l k=l[k]:=by unfold tr;rw[List.getElem?_eq_getElem h];rfl
theorem Yz {l:List kF}{k:Nat}(h:k<l.length):tr l k∈l:=by rw[Eo h];exact List.getElem_mem _
def aH:List kF->List Value
 | []=>[]
 | x::l=>x.a::x.b::x.c::aH l
theorem aW:∀l:List kF,(aH l).length=l.length*3
 | []=>rfl
 | x::l=>by simp[aH,aW l];omega
theorem bC:∀a b:List kF,aH (a++b)=aH a++aH b
 | [],_=>rfl
 | x::a,b=>by simp[aH,bC a b]
theorem rD:∀(l:List kF) (k:Nat),aH (l.take k)=(aH l).take (k*3)
 | [],k=>by simp[aH]
 | x::l,0=>by simp[aH]
 | x::l,k+1=>by rw[show(k+1)*3=k*3+1+1+1 by omega];simp[aH,rD l k]
theorem rE:∀(l:List kF) (k:Nat),aH (l.drop k)=(aH l).drop (k*3)
 | [],k=>by simp[aH]
 | x::l,0=>by simp[aH]
 | x::l,k+1=>by rw[show(k+1)*3=k*3+1+1+1 by omega];simp[aH,rE l k]
theorem qm:∀(l:List kF),(∀x∈l,IQ x)->∀v∈aH l,v.oneCell'=true
 | [],_,v,h=>by simp[aH] at h
 | x::l,o,v,h=>by
  have ox:=o x (by simp);simp only[aH,List.mem_cons] at h;rcases h with h|h|h|h
  ·subst h;exact ox.1
  ·subst h;exact ox.2.1
  ·subst h;exact ox.2.2
  ·exact qm l (λy hy=>o y (by simp[hy])) v h
theorem zF:∀(l:List kF) (k:Nat),k<l.length->(aH l)[k*3]?=some (tr l k).a/\(aH l)[k*3+1]?=some (tr l k).b/\(aH l)[k*3+2]?=some (tr l k).c
 | [],k,h=>absurd h (Nat.not_lt_zero k)
 | x::l,0,_=>⟨rfl,rfl,rfl⟩
 | x::l,k+1,h=>by
  rw[show(k+1)*3=k*3+1+1+1 by omega];have:=zF l k (by simpa using h);have e:tr (x::l) (k+1)=tr l k:=rfl;rw[e];exact this
theorem Lr (l:List kF)(k:Nat)(x:kF)(h:k<l.length):(aH l).take (k*3)++[x.a,x.b,x.c]++(aH l).drop (k*3+3)=aH (l.set k x):=by
 have e:l.set k x=l.take k++x::l.drop (k+1):=by rw[List.set_eq_take_append_cons_drop,if_pos h]
 rw[e,bC,rD,show aH (x::l.drop (k+1))=[x.a,x.b,x.c]++aH (l.drop (k+1)) from rfl,rE,show(k+1)*3=k*3+3 by omega,List.append_assoc]
def bI (t:TypeId)(w:World)(B:Nat)(v:Value)(l:List kF):Prop:=w.ownsRow B t 3 v l.length (aH l)
theorem bI.empty (t:TypeId)(w:World)(B:Nat):bI t w B (.slice none 0 0) []:=World.ownsRow_nil w B _ 3
theorem bI.aT {t:TypeId}{A:Nat->Prop}{w w':World}{B:Nat}{v:Value}{l:List kF}(h:bI t w B v l)(hb:aA A w w')(hn:∀g,v.ownBlock=some g->¬A g):bI t w' B v l:=by
 refine⟨h.1,?_⟩;rcases h.2 with q|⟨g,cap,cur,h1,h2,h3,r⟩
 ·exact .inl q
 ·refine .inr ⟨g,cap,cur,h1,h2,?_,r⟩;rw[hb.block g (h.lt g (by rw[h1];rfl)).2 (hn g (by rw[h1];rfl))];exact h3
theorem bI.below {t:TypeId}{w w':World}{B:Nat}{v:Value}{l:List kF}(h:bI t w B v l)(hb:Below w.heap.size w w'):bI t w' B v l:=h.aT (A:=λ_=>False) (aA.of_below hb) (λ_ _ z=>z)
theorem bI.low {t:TypeId}{w:World}{B B':Nat}{v:Value}{l:List kF}(h:bI t w B v l)(hB:B'<=B):bI t w B' v l:=by
 refine⟨h.1,?_⟩;rcases h.2 with q|⟨g,cap,cur,h1,h2,r⟩
 ·exact .inl q
 ·exact .inr ⟨g,cap,cur,h1,Nat.le_trans hB h2,r⟩
theorem bI.there {t:TypeId}{w:World}{B:Nat}{v:Value}{l:List kF}(h:bI t w B v l)(hn:0<l.length):∃g cap,v=.slice (some ⟨g,0,none⟩) l.length cap/\l.length<=cap/\cap<=maxLen/\B<=g/\g<w.heap.size:=by
 rcases h.2 with ⟨h1,h2⟩|⟨g,cap,cur,h1,h2,h3,h4,h5,h6,h7⟩
 ·omega
 ·exact⟨g,cap,h1,h4,h5,h.lt g (by rw[h1];rfl)⟩
theorem bI.cell {t:TypeId}{w:World}{B g cap n:Nat}{l:List kF}(h:bI t w B (.slice (some ⟨g,0,none⟩) n cap) l)(j:Nat)(u:Value)(hj:(aH l)[j]?=some u):w.cell? ⟨g,j,none⟩=some u:=by
 have hl:j<l.length*3:=by
  rw[<-aW];rcases Nat.lt_or_ge j (aH l).length with q|q
  ·exact q
  ·rw[List.getElem?_eq_none q] at hj;cases hj
 have hn:n=l.length:=by
  rcases h.2 with ⟨h1,h2⟩|⟨g',cap',cur,h1,_⟩
  ·cases h1
  ·injection h1
 subst hn;rw[World.ownsRow.cellAt h _ hl];exact hj
structure Wn (w:World)(b o:Nat)(x:kF):Prop where
 lt:b<w.heap.size
 c0:w.cell? ⟨b,o,none⟩=some x.a
 c1:w.cell? ⟨b,o+1,none⟩=some x.b
 c2:w.cell? ⟨b,o+2,none⟩=some x.c
theorem Wn.aT {A:Nat->Prop}{w w':World}{b o:Nat}{x:kF}(h:Wn w b o x)(hc:aA A w w')(hn:¬A b):Wn w' b o x :=
 ⟨Nat.lt_of_lt_of_le h.lt hc.size,by rw[hc.cell (p:=⟨b,o,none⟩) h.lt hn];exact h.c0,by rw[hc.cell (p:=⟨b,o+1,none⟩) h.lt hn];exact h.c1,by rw[hc.cell (p:=⟨b,o+2,none⟩) h.lt hn];exact h.c2⟩
def Tn (w:World)(a:Option Addr)(l:List kF):Prop:=∀k,k<l.length->∃b o,a=some ⟨b,o,none⟩/\Wn w b (o+k*3) (tr l k)
theorem Tn.aT {A:Nat->Prop}{w w':World}{a:Option Addr}{l:List kF}(h:Tn w a l)(hc:aA A w w')(hn:∀p,a=some p->¬A p.block):Tn w' a l:=λk hk=>by
 obtain⟨b,o,h1,h2⟩:=h k hk;exact⟨b,o,h1,h2.aT hc (hn _ h1)⟩
theorem Tn.below {w w':World}{a:Option Addr}{l:List kF}(h:Tn w a l)(hb:Below w.heap.size w w'):Tn w' a l:=h.aT (A:=λ_=>False) (aA.of_below hb) (λ_ _ z=>z)
theorem bI.at {t:TypeId}{w:World}{B g cap n:Nat}{l:List kF}(h:bI t w B (.slice (some ⟨g,0,none⟩) n cap) l){k:Nat}(hk:k<l.length):Wn w g (k*3) (tr l k):=by
 have hat:=zF l k hk;exact⟨(h.lt g rfl).2,h.cell _ _ hat.1,h.cell _ _ hat.2.1,h.cell _ _ hat.2.2⟩
theorem bI.shape {t:TypeId}{w:World}{B:Nat}{v:Value}{l:List kF}(h:bI t w B v l):∃a cap,v=.slice a l.length cap/\l.length<=cap/\cap<=maxLen/\Tn w a l/\∀p,a=some p->v.ownBlock=some p.block:=by
 rcases h.2 with ⟨h1,h2⟩|⟨g,cap,cur,h1,h2,h3,h4,h5,h6,h7⟩
 ·exact⟨none,0,by rw[h1,h2],by omega,by simp[maxLen],λk hk=>by omega,λp hp=>by cases hp⟩
 ·refine⟨_,cap,h1,h4,h5,λk hk=>⟨g,0,rfl,?_⟩,λp hp=>by cases hp;rw[h1];rfl⟩;rw[h1] at h;rw[Nat.zero_add];exact bI.at h hk
theorem bI.free {t:TypeId}{w:World}{B g cap n:Nat}{l:List kF}(h:bI t w B (.slice (some ⟨g,0,none⟩) n cap) l):(∀j,w.frozen? ⟨g,j,none⟩=false)/\∀j,j<cap*3->(w.cell? ⟨g,j,none⟩).isSome=true:=by
 rcases h.2 with ⟨q,_⟩|⟨g',cap',cur,q,h2,h3,h4,h5,h6,h7⟩
 ·cases q
 ·simp only[Value.slice.injEq,Option.some.injEq,Addr.mk.injEq,and_true] at q;obtain⟨rfl,_,rfl⟩:=q;refine⟨λj=>frozen_of_row w g j _ _ h3,λj hj=>?_⟩;rw[cell_of_row w g j _ _ _ h3,Array.getElem?_eq_getElem (by omega)];rfl
theorem iZ {B g cap n:Nat}{e:TypeId}{size:Nat}:∀(vs:List Value) (o:Nat) (w:World) (xs:List Value),w.ownsRow B e size (.slice (some ⟨g,0,none⟩) n cap) n xs->o+vs.length<=xs.length->(w.setCells g o vs).ownsRow B e size (.slice (some ⟨g,0,none⟩) n cap) n (xs.take o++vs++xs.drop (o+vs.length))
 | [],o,w,xs,h,_=>by simpa[World.setCells] using h
 | v::r,o,w,xs,h,hl=>by
  have h1:=(World.ownsRow.stored h o v).1;have h2:=iZ r (o+1) _ _ h1 (by simp at hl ⊢;omega);rw[World.setCells];have e:=list_seg_step xs o v r (by simpa using hl);rw[e] at h2;exact h2
theorem jT {g:Nat}:∀(vs:List Value) (o:Nat) (w:World),aA (λk=>k=g) w (w.setCells g o vs)
 | [],o,w=>aA.refl _ _
 | v::r,o,w=>by
  rw[World.setCells];exact(aA.setCell (A:=λk=>k=g) (p:=⟨g,o,none⟩) (aA.refl _ _) (.inl rfl) v).trans (jT r (o+1) _)
theorem qo {B g cap n k:Nat}{e:TypeId}{size:Nat}{w:World}{xs:List Value}(h:w.ownsRow B e size (.slice (some ⟨g,0,none⟩) n cap) n xs)(hk:k<=n):w.ownsRow B e size (.slice (some ⟨g,0,none⟩) k cap) k (xs.take (k*size)):=by
 have hks:k*size<=n*size:=Nat.mul_le_mul_right _ hk;refine⟨by rw[List.length_take,h.1];omega,?_⟩;rcases h.2 with ⟨q,_⟩|⟨g',cap',cur,q,h2,h3,h4,h5,h6,h7⟩
 ·cases q
 ·simp only[Value.slice.injEq,Option.some.injEq,Addr.mk.injEq,and_true] at q;obtain⟨rfl,_,rfl⟩:=q;exact .inr ⟨g,cap,cur,rfl,h2,h3,by omega,h5,h6,by rw[<-h7,List.take_take,Nat.min_eq_left hks]⟩
theorem bI.set {t:TypeId}{w:World}{B g cap:Nat}{l:List kF}(h:bI t w B (.slice (some ⟨g,0,none⟩) l.length cap) l){k:Nat}(hk:k<l.length)(x:kF):bI t (w.setCells g (k*3) [x.a,x.b,x.c]) B (.slice (some ⟨g,0,none⟩) l.length cap) (l.set k x):=by
 have o:=iZ [x.a,x.b,x.c] (k*3) w _ h (by rw[aW];simp;omega);rw[show k*3+[x.a,x.b,x.c].length=k*3+3 from rfl,Lr l k x hk] at o;unfold bI;rw[List.length_set];exact o
theorem bI.cut {t:TypeId}{w:World}{B g cap:Nat}{a r:List kF}(h:bI t w B (.slice (some ⟨g,0,none⟩) (a++r).length cap) (a++r))(z:List Value)(hz:z.length=r.length*3):bI t (w.setCells g (a.length*3) z) B (.slice (some ⟨g,0,none⟩) a.length cap) a:=by
 have o:=iZ z (a.length*3) w _ h (by rw[aW,List.length_append,hz];omega);have o2:=qo (k:=a.length) o (by rw[List.length_append];omega);have e:((aH (a++r)).take (a.length*3)++z++(aH (a++r)).drop (a.length*3+z.length)).take (a.length*3)=aH a:=by
  have ha:=aW a;have e1:(aH (a++r)).take (a.length*3)=aH a:=by rw[bC,List.take_append_of_le_length (by omega),List.take_of_length_le (by omega)]
  rw[e1,List.append_assoc,List.take_append_of_le_length (by omega),List.take_of_length_le (by omega)]
 rw[e] at o2;exact o2
theorem PU (w:World)(x:kF)(t:TypeId):∀j u,(aH [x])[j]?=some u->(w.alloc (.cells #[x.a,x.b,x.c] t)).cell? ((⟨w.heap.size,0,none⟩:Addr).add j)=some u:=by
 intro j u hj;rw[Addr.add_lit,Nat.zero_add,cell_of_row _ w.heap.size j _ _ _ (heap_alloc_new w _)];simpa[aH] using hj
theorem Ep {P:Program}(st t:TypeId)(z:Value)(by':Nat)(hu:P.underlying st=some (.slice t))(hinfo:(P.info? t).map (λi=>(i.zero,i.size,i.bytes))=some (some z,3,by'))(hzc:z.cells.size=3)(hby:0<by'/\by'<=24)
 (w:World) (B:Nat) (ty:TypeId) (v:Value) (l fs:List kF) (ha:bI t w B v l) (a:Addr) (c:Nat) (hnews:∀j u,(aH fs)[j]?=some u->w.cell? (a.add j)=some u) (ho:∀x∈fs,IQ x) (hl:l.length+fs.length<=1000000) (hB:B<=w.heap.size) :
 ∃v' w',(Builtin.append_ #[st,st] ty #[v,.slice (some a) fs.length c]).run P w=.ok v' w'/\bI t w' B v' (l++fs)/\aA (λk=>v.ownBlock=some k) w w'/\∀g,v'.ownBlock=some g->v.ownBlock=some g\/w.heap.size<=g:=by
 obtain⟨i0,hi,hz0,hz1,hz2⟩:=info_parts hinfo;have hlen:(aH fs).length=fs.length*3:=aW fs;have hmul:(l.length+fs.length)*by'<=1000000*24:=Nat.mul_le_mul hl hby.2;have aah:fs.length*by'<=1000000*24:=Nat.mul_le_mul (by omega) hby.2;obtain⟨v',w',hr,h2,h3,h4⟩:=run_append_own (P:=P) w B st ty t i0 _ 3 by' hu hi hz0 hz1 hz2 hzc (by omega) v l.length (aH l) ha a fs.length c (aH fs) hlen hnews (qm fs ho) (by unfold maxLen;omega) (by omega) hB;refine⟨v',w',hr,?_,aA.bU h3,λk hk=>?_⟩
 ·unfold bI;rw[List.length_append,bC];exact h2
 ·rcases ha.2 with ⟨rfl,hn⟩|⟨g,cap,cur,rfl,hbg,hg,hnc,hcm,hcs,htake⟩
  ·by_cases hm:fs.length=0
   ·rw[h4.2 ⟨rfl,hm⟩] at hk;cases hk
   ·right;have hr2:=run_append_nil (P:=P) w st ty t i0 _ hu hi hz0 a fs.length c (aH fs) (by rw[hz1];exact hlen) hnews (by omega) (by omega) (by rw[hz2];omega);rw[hr] at hr2
    cases hr2
    simp only[Value.ownBlock,Option.some.injEq] at hk;omega
  ·by_cases hroom:l.length+fs.length<=cap
   ·left;obtain⟨w2,hr2,_,_⟩:=run_append_fits (P:=P) w B st ty t i0 3 hu hi hz1 g l.length cap (aH l) ha a fs.length c (aH fs) hlen hnews (qm fs ho) hroom;rw[hr] at hr2
    cases hr2
    exact hk
   ·right;have hr2:=run_append_grow (P:=P) w st ty t i0 _ hu hi hz0 ⟨g,0,none⟩ l.length cap (aH l) (by rw[hz1];exact ha.1) (World.ownsRow.cells ha (g:=g) rfl) a fs.length c (aH fs) (by rw[hz1];exact hlen) hnews (by omega) (by omega) (by rw[hz2];exact growslice_fits (by omega) (by omega));rw[hr] at hr2
    cases hr2
    simp only[Value.ownBlock,Option.some.injEq] at hk;omega
def D9 (z:Value)(n:Nat):List Value:=(Builtin.zeroCells z.cells n).toList
theorem kM (z:Value)(n:Nat)(h:z.cells.size=3):(D9 z n).length=n*3:=by
 unfold D9;rw[Array.length_toList,size_zeroCells,h]
theorem oC {P:Program}(st t ty:TypeId)(z:Value)(hu:P.underlying st=some (.slice t))(hv:∀w,(zeroValue t).run P w=.ok z w)(hz:z.cells.size=3)(h1:∀j,j<3->(z.cells[j]!).oneCell'=true)(w:World)(b o n c:Nat)(hn:0<n)
 (hc:∀j,j<n*3->(w.cell? ⟨b,o+j,none⟩).isSome=true) (hf:∀j,j<n*3->w.frozen? ⟨b,o+j,none⟩=false) :
 (Builtin.clear_ #[st] ty #[.slice (some ⟨b,o,none⟩) n c]).run P w=.ok (.tuple #[]) (w.setCells b o (D9 z n)):=by
 have hl:=kM z n hz;have hst:=run_storeCells_cells (P:=P) b o (D9 z n) 0 w (by rw[hl];simpa using hc) (by rw[hl];simpa using hf) (by
  intro v hv';unfold D9 Builtin.zeroCells at hv';rw[Array.mem_toList_iff,Array.mem_map] at hv';obtain⟨i,hi,rfl⟩:=hv';rw[hz];exact h1 _ (Nat.mod_lt _ (by omega)))
 simp only[Nat.add_zero] at hst;obtain⟨m,rfl⟩:∃m,n=m+1:=⟨n-1,by omega⟩;unfold D9 at hst ⊢;simp[Builtin.clear_,run_underlying hu,hv,hst]
section
variable {α:Type}
def dH (p:α->Bool)(l:List α)(j:Nat):List α:=(l.take j).filter (λx=>!p x)
def iR (p:α->Bool)(l:List α)(j:Nat):List α:=dH p l j++l.drop (dH p l j).length
theorem BK (p:α->Bool)(l:List α)(j:Nat):(dH p l j).length<=j:=by
 unfold dH;exact Nat.le_trans (List.length_filter_le _ _) (by rw[List.length_take];omega)
theorem IU (p:α->Bool)(l:List α)(j:Nat):(dH p l j).length<=l.length:=by
 unfold dH;exact Nat.le_trans (List.length_filter_le _ _) (by rw[List.length_take];omega)
theorem oQ {p:α->Bool}{l:List α}{j:Nat}(h:j<l.length)(hp:p l[j]=true):dH p l (j+1)=dH p l j:=by
 unfold dH;rw[List.take_succ_eq_append_getElem h,List.filter_append];simp[hp]
theorem uX {p:α->Bool}{l:List α}{j:Nat}(h:j<l.length)(hp:p l[j]=false):dH p l (j+1)=dH p l j++[l[j]]:=by
 unfold dH;rw[List.take_succ_eq_append_getElem h,List.filter_append];simp[hp]
theorem IV (p:α->Bool)(l:List α):dH p l l.length=l.filter (λx=>!p x):=by
 unfold dH;rw[List.take_length]
theorem jD (p:α->Bool)(l:List α)(j:Nat):(iR p l j).length=l.length:=by
 have:=IU p l j;unfold iR;rw[List.length_append,List.length_drop];omega
theorem PZ {p:α->Bool}{l:List α}{j:Nat}(h:j<l.length)(h':j<(iR p l j).length):(iR p l j)[j]=l[j]:=by
 have:=BK p l j;have e:(iR p l j)[j]?=some l[j]:=by
  unfold iR;rw[List.getElem?_append_right (by omega),List.getElem?_drop,show(dH p l j).length+(j-(dH p l j).length)=j by omega,List.getElem?_eq_getElem h]
 rw[List.getElem?_eq_getElem h'] at e;exact Option.some.inj e
theorem IW {p:α->Bool}{l:List α}{j:Nat}(h:j<l.length)(hp:p l[j]=true):iR p l (j+1)=iR p l j:=by
 unfold iR;rw[oQ h hp]
theorem IX {p:α->Bool}{l:List α}{j:Nat}(h:j<l.length)(hp:p l[j]=false):iR p l (j+1)=(iR p l j).set (dH p l j).length l[j]:=by
 have:=BK p l j;unfold iR;rw[uX h hp,List.length_append,List.length_singleton,List.set_append_right _ _ (Nat.le_refl _),Nat.sub_self,List.append_assoc];congr 1
 rw[List.drop_eq_getElem_cons (show(dH p l j).length<l.length by omega)];rfl
theorem BL {p:α->Bool}{l:List α}{i:Nat}(h:i<l.length)(hlo:∀k (hk:k<l.length),k<i->p l[k]=false)(hp:p l[i]=true):dH p l (i+1)=l.take i:=by
 rw[oQ h hp];unfold dH;rw[List.filter_eq_self];intro x hx;obtain⟨k,hk,rfl⟩:=List.mem_iff_getElem.1 hx;rw[List.length_take] at hk;rw[List.getElem_take,hlo k (by omega) (by omega)];rfl
theorem Es {p:α->Bool}{l:List α}{i:Nat}(h:i<l.length)(hlo:∀k (hk:k<l.length),k<i->p l[k]=false)(hp:p l[i]=true):(dH p l (i+1)).length=i/\iR p l (i+1)=l:=by
 have e:=BL h hlo hp;have e2:(dH p l (i+1)).length=i:=by rw[e,List.length_take];omega
 refine⟨e2,?_⟩;unfold iR;rw[e2,e,List.take_append_drop]
theorem zG {p:α->Bool}{l:List α}(h:∀k (hk:k<l.length),p l[k]=false):l.filter (λx=>!p x)=l:=by
 rw[List.filter_eq_self];intro x hx;obtain⟨k,hk,rfl⟩:=List.mem_iff_getElem.1 hx;rw[h k hk];rfl
end
end Go.Proofs.YtmhbobnfmncdbaaGreatDoor.Dk
namespace Go.Proofs.YtmhbobnfmncdbaaGreatDoor
open Go.Joins Go.Deep Go.WideShapes Go.ChangeShapes Go.ChangeAt Go.RowKit Go.Proofs.Tryz
section
variable {H:Type}{enc:TypeId×Value->H}{P:Program}{w:World}{base:Nat}{spare:Nat->Bool}{held:Bool}
theorem P9 {α:Type}{cs:Array α}(h:cs.size=10):∃c0 c1 c2 c3 c4 c5 c6 c7 c8 c9,cs=#[c0,c1,c2,c3,c4,c5,c6,c7,c8,c9]:=by
 obtain⟨l⟩:=cs;match l,h with
 | [c0,c1,c2,c3,c4,c5,c6,c7,c8,c9],_=>exact⟨c0,c1,c2,c3,c4,c5,c6,c7,c8,c9,rfl⟩
theorem wP {t:TypeId}{f0 f1 f2 f3 f4 f5 f6 f7 f8 f9:Field}{fuel:Nat}{cs:List Value}{x:DataW H×List MemPlace}(ht:P.underlying t=some (.struct #[f0,f1,f2,f3,f4,f5,f6,f7,f8,f9]))(h:DataW.trod enc P w base spare held fuel t cs=some x) :
 ∃y0 y1 y2 y3 y4 y5 y6 y7 y8 y9 n,x=(.agg [y0.1,y1.1,y2.1,y3.1,y4.1,y5.1,y6.1,y7.1,y8.1,y9.1],y0.2++(y1.2++(y2.2++(y3.2++(y4.2++(y5.2++(y6.2++(y7.2++(y8.2++(y9.2))))))))))/\DataW.trod enc P w base spare held n f0.type ((cs.drop f0.offset).take (P.cellsOf f0.type))=some y0/\DataW.trod enc P w base spare held n f1.type ((cs.drop f1.offset).take (P.cellsOf f1.type))=some y1/\DataW.trod enc P w base spare held n f2.type ((cs.drop f2.offset).take (P.cellsOf f2.type))=some y2/\DataW.trod enc P w base spare held n f3.type ((cs.drop f3.offset).take (P.cellsOf f3.type))=some y3/\DataW.trod enc P w base spare held n f4.type ((cs.drop f4.offset).take (P.cellsOf f4.type))=some y4/\DataW.trod enc P w base spare held n f5.type ((cs.drop f5.offset).take (P.cellsOf f5.type))=some y5/\DataW.trod enc P w base spare held n f6.type ((cs.drop f6.offset).take (P.cellsOf f6.type))=some y6/\DataW.trod enc P w base spare held n f7.type ((cs.drop f7.offset).take (P.cellsOf f7.type))=some y7/\DataW.trod enc P w base spare held n f8.type ((cs.drop f8.offset).take (P.cellsOf f8.type))=some y8/\DataW.trod enc P w base spare held n f9.type ((cs.drop f9.offset).take (P.cellsOf f9.type))=some y9:=by
 obtain⟨xs,n,_,rfl,hl,hlen,hf⟩:=DataW.trod_struct ht h;match xs,hlen with
 | [y0,y1,y2,y3,y4,y5,y6,y7,y8,y9],_=>exact⟨y0,y1,y2,y3,y4,y5,y6,y7,y8,y9,n,by simp,by simpa using hf 0 f0 rfl,by simpa using hf 1 f1 rfl,by simpa using hf 2 f2 rfl,by simpa using hf 3 f3 rfl,by simpa using hf 4 f4 rfl,by simpa using hf 5 f5 rfl,by simpa using hf 6 f6 rfl,by simpa using hf 7 f7 rfl,by simpa using hf 8 f8 rfl,by simpa using hf 9 f9 rfl⟩
theorem Et {r:Reach}{b0:Nat}{t:TypeId}{f0 f1 f2 f3 f4 f5 f6 f7 f8 f9:Field}{v:Value}{d:DataW H}{p:List MemPlace}(hs:P.underlying t=some (.struct #[f0,f1,f2,f3,f4,f5,f6,f7,f8,f9]))(hone:oneCellFields P #[f0,f1,f2,f3,f4,f5,f6,f7,f8,f9]=true)(hC:P.cellsOf t=10)
 (hv:Value.okWide P w r b0 t v) (h:DataW.Trod enc P w base spare held t v d p) :
 ∃(v0 v1 v2 v3 v4 v5 v6 v7 v8 v9:Value) (y0 y1 y2 y3 y4 y5 y6 y7 y8 y9:DataW H×List MemPlace) (n:Nat),v=.agg #[v0,v1,v2,v3,v4,v5,v6,v7,v8,v9]/\d=.agg [y0.1,y1.1,y2.1,y3.1,y4.1,y5.1,y6.1,y7.1,y8.1,y9.1]/\DataW.trod enc P w base spare held n f0.type [v0]=some y0/\DataW.trod enc P w base spare held n f1.type [v1]=some y1/\DataW.trod enc P w base spare held n f2.type [v2]=some y2/\DataW.trod enc P w base spare held n f3.type [v3]=some y3/\DataW.trod enc P w base spare held n f4.type [v4]=some y4/\DataW.trod enc P w base spare held n f5.type [v5]=some y5/\DataW.trod enc P w base spare held n f6.type [v6]=some y6/\DataW.trod enc P w base spare held n f7.type [v7]=some y7/\DataW.trod enc P w base spare held n f8.type [v8]=some y8/\DataW.trod enc P w base spare held n f9.type [v9]=some y9:=by
 obtain⟨cs,rfl,hsz⟩:=okWide_struct hs hv;obtain⟨c0,c1,c2,c3,c4,c5,c6,c7,c8,c9,rfl⟩:=P9 (hsz.trans hC);obtain⟨fuel,hf⟩:=h;obtain⟨y0,y1,y2,y3,y4,y5,y6,y7,y8,y9,n,hx,h0,h1,h2,h3,h4,h5,h6,h7,h8,h9⟩:=wP hs hf;obtain⟨o0,k0⟩:=hone_of hone 0 f0 rfl;obtain⟨o1,k1⟩:=hone_of hone 1 f1 rfl;obtain⟨o2,k2⟩:=hone_of hone 2 f2 rfl;obtain⟨o3,k3⟩:=hone_of hone 3 f3 rfl;obtain⟨o4,k4⟩:=hone_of hone 4 f4 rfl;obtain⟨o5,k5⟩:=hone_of hone 5 f5 rfl;obtain⟨o6,k6⟩:=hone_of hone 6 f6 rfl;obtain⟨o7,k7⟩:=hone_of hone 7 f7 rfl;obtain⟨o8,k8⟩:=hone_of hone 8 f8 rfl;obtain⟨o9,k9⟩:=hone_of hone 9 f9 rfl;simp only[Prod.mk.injEq] at hx
 exact⟨c0,c1,c2,c3,c4,c5,c6,c7,c8,c9,y0,y1,y2,y3,y4,y5,y6,y7,y8,y9,n,rfl,hx.1,by simpa[Value.cells,o0,k0] using h0,by simpa[Value.cells,o1,k1] using h1,by simpa[Value.cells,o2,k2] using h2,by simpa[Value.cells,o3,k3] using h3,by simpa[Value.cells,o4,k4] using h4,by simpa[Value.cells,o5,k5] using h5,by simpa[Value.cells,o6,k6] using h6,by simpa[Value.cells,o7,k7] using h7,by simpa[Value.cells,o8,k8] using h8,by simpa[Value.cells,o9,k9] using h9⟩
theorem Eu {P:Program}{e:TypeId}{d:DataW H}{x:Nat}(hx:x∈d.weights P e):∀{l:List (DataW H)},d∈l->x∈DataW.weightsAll P e l
 | a::r,h=>by
  simp only[DataW.weightsAll,List.mem_append];rcases List.mem_cons.1 h with q|q
  ·subst q;exact .inl hx
  ·exact .inr (Eu hx q)
end
theorem Qa:prog.cellsOf 3=1:=by kernel_rfl
theorem Tt:prog.bytesOf 3=8:=by kernel_rfl
theorem Tv:prog.cellsOf 24=10:=by kernel_rfl
theorem Ew {H:Type}{enc:TypeId×Value->H}{W:World}{base:Nat}{v:Value}{d:DataW H}{p:List MemPlace}(hv:Value.okWide prog W .any base 24 v)(h:DataW.Trod enc prog W 0 (λ_=>true) true 24 v d p)(hw:∀x∈DataW.weights prog 24 d,x<=reachBytes) :
 ∃(t:Tk.bH) (a:Option Addr) (c:Nat),v=lU t a c/\gZ t/\Dk.lF W a t.bo/\t.bo.length<=c:=by
 obtain⟨u0,u1,u2,u3,u4,u5,u6,u7,u8,u9,y0,y1,y2,y3,y4,y5,y6,y7,y8,y9,m,rfl,hd,g0,g1,g2,g3,g4,g5,g6,g7,g8,g9⟩:=Et underlying24 (by kernel_rfl) Tv hv h;obtain⟨n,e0,q0,_⟩:=DataW.trod_string underlying9 g0;obtain⟨f,e1,q1,_⟩:=DataW.trod_string underlying9 g1;obtain⟨x0,e2,q2,_⟩:=DataW.trod_int underlying3 g2;obtain⟨x1,e3,q3,_⟩:=DataW.trod_int underlying3 g3;obtain⟨x2,e4,q4,_⟩:=DataW.trod_int underlying3 g4;obtain⟨x3,e5,q5,_⟩:=DataW.trod_int underlying3 g5;obtain⟨x5,e7,q7,_⟩:=DataW.trod_int underlying3 g7;obtain⟨x6,e8,q8,_⟩:=DataW.trod_int underlying3 g8
 obtain⟨x7,e9,q9⟩:=DataW.trod_bool underlying4 g9;simp only[List.cons.injEq,and_true] at e0 e1 e2 e3 e4 e5 e7 e8 e9;subst e0 e1 e2 e3 e4 e5 e7 e8 e9;have hz:n.size<=140737488355328:=by
  have h:=hw n.data.toList.length (by rw[hd,q0];simp[DataW.weights,DataW.weightsEach,underlying24]);have e:n.data.toList.length=n.size:=by simp
  unfold reachBytes at h;omega
 have hz1:f.size<=140737488355328:=by
  have h:=hw f.data.toList.length (by rw[hd,q1];simp[DataW.weights,DataW.weightsEach,underlying24]);have e:f.data.toList.length=f.size:=by simp
  unfold reachBytes at h;omega
 rcases Go.ChangeShapes.open_ints underlying22 underlying3 Qa g6 with ⟨hcs,hx⟩|⟨a,len,cap,zs,hcs,hb,hl,hm,hlen,hx,hel,_⟩
 ·simp only[List.cons.injEq,and_true] at hcs;subst hcs;exact⟨⟨n,f,x0,x1,x2,x3,[],x5,x6,x7⟩,none,0,rfl,⟨hz,hz1,by simp⟩,λk hk=>by simp at hk,by simp⟩
 ·simp only[List.cons.injEq,and_true] at hcs;subst hcs;simp only[if_true] at hlen;have hsub:∀y∈DataW.weights (H:=H) prog 22 y6.1,y<=reachBytes:=λy hy=>hw y (by
   rw[hd];simp only[DataW.weights,underlying24];simp only[List.map_cons,List.map_nil];exact DataW.weights_mem_each (j:=6) rfl rfl _ hy)
  obtain⟨bm,om,spot⟩:=a;have hspot:len=0\/spot=none:=by
   by_cases h0:len=0
   ·exact .inl h0
   ·right;simpa[Addr.add] using World.cell?_spot (hel 0 (by omega))
  have htl:(zs.take len).length=len:=by rw[List.length_take];omega
  rcases hspot with h0|rfl
  ·subst h0;exact⟨⟨n,f,x0,x1,x2,x3,[],x5,x6,x7⟩,some ⟨bm,om,spot⟩,cap,rfl,⟨hz,hz1,by simp⟩,λk hk=>by simp at hk,by simp⟩
  ·refine⟨⟨n,f,x0,x1,x2,x3,zs.take len,x5,x6,x7⟩,some ⟨bm,om,none⟩,cap,by simp[lU,htl];try omega,⟨hz,hz1,?_⟩,λk hk=>?_,by simp only[htl];exact hl⟩
   ·simp only[htl];have hh:=hsub (((lits (H:=H) .i64 (zs.take len)).length+(lits (H:=H) .i64 (zs.drop len)).length)*prog.bytesOf 3) (by
     have e:y6.1=DataW.slice (lits .i64 (zs.take len)) (lits .i64 (zs.drop len)):=by rw[hx]
     rw[e];simp[DataW.weights,underlying22])
    have hl1:(lits (H:=H) .i64 (zs.take len)).length=len:=by unfold lits;rw[List.length_map];exact htl
    rw[hl1] at hh;rw[Tt] at hh;unfold reachBytes at hh;omega
   ·have hk':k<len:=by simpa[htl] using hk
    have f0:=hel k (by omega);simp only[add_plain] at f0;refine⟨bm,om,rfl,World.block_lt_of_cell? _ _ f0,?_⟩;rw[f0];simp only[Dk.nth];rw[List.getElem?_take_of_lt hk',List.getD_eq_getElem?_getD]
end Go.Proofs.YtmhbobnfmncdbaaGreatDoor
namespace Go.Proofs.YtmhbobnfmncdbaaGreatDoor
open Go.Joins Go.Deep Go.WideShapes Go.Proofs.Tryz
section
variable {H:Type}{enc:TypeId×Value->H}{P:Program}{w:World}{base:Nat}{spare:Nat->Bool}{held:Bool}
theorem Tz {α:Type}{cs:Array α}(h:cs.size=6):∃c0 c1 c2 c3 c4 c5,cs=#[c0,c1,c2,c3,c4,c5]:=by
 obtain⟨l⟩:=cs;match l,h with
 | [c0,c1,c2,c3,c4,c5],_=>exact⟨c0,c1,c2,c3,c4,c5,rfl⟩
theorem kN {t:TypeId}{f0 f1 f2 f3 f4 f5:Field}{fuel:Nat}{cs:List Value}{x:DataW H×List MemPlace}(ht:P.underlying t=some (.struct #[f0,f1,f2,f3,f4,f5]))(h:DataW.trod enc P w base spare held fuel t cs=some x) :
 ∃y0 y1 y2 y3 y4 y5 n,x=(.agg [y0.1,y1.1,y2.1,y3.1,y4.1,y5.1],y0.2++(y1.2++(y2.2++(y3.2++(y4.2++y5.2)))))/\DataW.trod enc P w base spare held n f0.type ((cs.drop f0.offset).take (P.cellsOf f0.type))=some y0 /\
  DataW.trod enc P w base spare held n f1.type ((cs.drop f1.offset).take (P.cellsOf f1.type))=some y1/\DataW.trod enc P w base spare held n f2.type ((cs.drop f2.offset).take (P.cellsOf f2.type))=some y2 /\
  DataW.trod enc P w base spare held n f3.type ((cs.drop f3.offset).take (P.cellsOf f3.type))=some y3/\DataW.trod enc P w base spare held n f4.type ((cs.drop f4.offset).take (P.cellsOf f4.type))=some y4 /\
  DataW.trod enc P w base spare held n f5.type ((cs.drop f5.offset).take (P.cellsOf f5.type))=some y5:=by
 obtain⟨xs,n,_,rfl,hl,hlen,hf⟩:=DataW.trod_struct ht h;match xs,hlen with
 | [y0,y1,y2,y3,y4,y5],_=>exact⟨y0,y1,y2,y3,y4,y5,n,by simp,by simpa using hf 0 f0 rfl,by simpa using hf 1 f1 rfl,by simpa using hf 2 f2 rfl,by simpa using hf 3 f3 rfl,by simpa using hf 4 f4 rfl,by simpa using hf 5 f5 rfl⟩
theorem Vo {r:Reach}{b0:Nat}{t:TypeId}{f0 f1 f2 f3 f4 f5:Field}{v:Value}{d:DataW H}{p:List MemPlace}(hs:P.underlying t=some (.struct #[f0,f1,f2,f3,f4,f5]))(hone:oneCellFields P #[f0,f1,f2,f3,f4,f5]=true)(hC:P.cellsOf t=6)
 (hv:Value.okWide P w r b0 t v) (h:DataW.Trod enc P w base spare held t v d p) :
 ∃(v0 v1 v2 v3 v4 v5:Value) (y0 y1 y2 y3 y4 y5:DataW H×List MemPlace) (n:Nat),v=.agg #[v0,v1,v2,v3,v4,v5]/\d=.agg [y0.1,y1.1,y2.1,y3.1,y4.1,y5.1]/\p=y0.2++(y1.2++(y2.2++(y3.2++(y4.2++y5.2)))) /\
  DataW.trod enc P w base spare held n f0.type [v0]=some y0/\DataW.trod enc P w base spare held n f1.type [v1]=some y1/\DataW.trod enc P w base spare held n f2.type [v2]=some y2 /\
  DataW.trod enc P w base spare held n f3.type [v3]=some y3/\DataW.trod enc P w base spare held n f4.type [v4]=some y4/\DataW.trod enc P w base spare held n f5.type [v5]=some y5:=by
 obtain⟨cs,rfl,hsz⟩:=okWide_struct hs hv;obtain⟨c0,c1,c2,c3,c4,c5,rfl⟩:=Tz (hsz.trans hC);obtain⟨fuel,hf⟩:=h;obtain⟨y0,y1,y2,y3,y4,y5,n,hx,h0,h1,h2,h3,h4,h5⟩:=kN hs hf;obtain⟨o0,k0⟩:=hone_of hone 0 f0 rfl;obtain⟨o1,k1⟩:=hone_of hone 1 f1 rfl;obtain⟨o2,k2⟩:=hone_of hone 2 f2 rfl;obtain⟨o3,k3⟩:=hone_of hone 3 f3 rfl;obtain⟨o4,k4⟩:=hone_of hone 4 f4 rfl;obtain⟨o5,k5⟩:=hone_of hone 5 f5 rfl;simp only[Prod.mk.injEq] at hx;exact⟨c0,c1,c2,c3,c4,c5,y0,y1,y2,y3,y4,y5,n,rfl,hx.1,hx.2,by simpa[Value.cells,o0,k0] using h0,by simpa[Value.cells,o1,k1] using h1,by simpa[Value.cells,o2,k2] using h2,by simpa[Value.cells,o3,k3] using h3,by simpa[Value.cells,o4,k4] using h4,by simpa[Value.cells,o5,k5] using h5⟩
end
end Go.Proofs.YtmhbobnfmncdbaaGreatDoor
