/- A part. -/
import Derived.Test.YtmhbobnfmncdbaaGreatDoorQ27
namespace Go.Proofs.YtmhbobnfmncdbaaGreatDoor
open Go.RowKit Go.Proofs.Tryz
namespace Dk
def jY (f:ByteArray)(l:List Rc):List Rc:=if aA true f=0 then gB f l else []
def Za (f:ByteArray):Int:=if aA true f=0 then 4 else aA true f
theorem abV (f:ByteArray):Za f≠0:=by
 unfold Za;by_cases h:aA true f=0
 ·rw[if_pos h];decide
 ·rw[if_neg h];exact h
def WL (r:Rc):Value:=.agg #[.int .i64 r.k,.int .i64 r.q,.int .i64 r.t,.string r.s,.string r.h,.string r.d]
theorem abB {f:ByteArray}{s:aY}(h:s.Ok){k:Nat}{n:Int}(g:Gone (jY f s.l) k n):dh f (aO f s.l n)=if k<(jY f s.l).length then .tuple #[WL (rc (jY f s.l) k),.int .i64 0] else .tuple #[WL bY,.int .i64 (Za f)]:=by
 by_cases e:aA true f=0
 ·have hT:jY f s.l=gB f s.l:=if_pos e;have hE:Za f=4:=if_pos e;rw[hT] at g ⊢;unfold dh;rw[hE,Gone.next h g,if_pos e];by_cases hk:k<(gB f s.l).length
  ·rw[if_pos hk,List.getElem?_eq_getElem hk,aW hk];rfl
  ·rw[if_neg hk,List.getElem?_eq_none (by omega)];rfl
 ·have hT:jY f s.l=[]:=if_neg e;have hE:Za f=aA true f:=if_neg e;rw[hT];unfold dh;rw[if_neg e,if_neg (show ¬k<([]:List Rc).length from Nat.not_lt_zero k),hE];rfl
theorem last_at (f:ByteArray)(l:List Rc):dh f (gW f l)=if 0<(jY f l).length then .tuple #[WL (rc (jY f l) ((jY f l).length-1)),.int .i64 0] else .tuple #[WL bY,.int .i64 (Za f)]:=by
 unfold dh Za jY;by_cases e:aA true f=0
 ·rw[if_pos e,if_pos e,if_pos e];unfold gW;by_cases hk:0<(gB f l).length
  ·rw[if_pos hk,List.getLast?_eq_getElem?,List.getElem?_eq_getElem (by omega),aW (by omega)];rfl
  ·rw[if_neg hk];have:gB f l=[]:=List.length_eq_zero_iff.1 (by omega);rw[this];rfl
 ·rw[if_neg e,if_neg e,if_neg e,if_neg (by simp)];rfl
def nN (T:List Rc):Nat->Rc
 | 0=>bY
 | k+1=>rc T k
def lN (l:List Rc):List Int:=l.map (·.q)
theorem jw (l:List Rc):(lN l).length=l.length:=List.length_map ..
theorem Bc {l:List Rc}{k:Nat}(h:k<l.length):lN (l.take (k+1))=lN (l.take k)++[(rc l k).q]:=by
 unfold lN;rw[List.take_succ_eq_append_getElem h,List.map_append,aW h];rfl
theorem aaY {f:ByteArray}{s:aY}(h:s.Ok):(jY f s.l).length<=200:=by
 unfold jY;by_cases e:aA true f=0
 ·rw[if_pos e];exact Nat.le_trans (List.length_filter_le _ _) h.few
 ·rw[if_neg e];exact Nat.zero_le _
theorem aaZ {f:ByteArray}{l:List Rc}{x:Rc}(h:x∈jY f l):x∈l:=by
 unfold jY at h;by_cases e:aA true f=0
 ·rw[if_pos e] at h;exact(List.mem_filter.1 h).1
 ·rw[if_neg e] at h;cases h
theorem Zc {f:ByteArray}{l:List Rc}(hs:∀x∈l,aA false x.s=0):jY f l=l.filter (λx=>aF f x.s):=by
 unfold jY gB aF;by_cases e:aA true f=0
 ·rw[if_pos e,e];refine List.filter_congr (λx hx=>?_);rw[hs x hx];unfold iY;simp
 ·rw[if_neg e];refine(List.filter_eq_nil_iff.2 (λx _=>?_)).symm;have:(aA true f==0)=false:=by simpa using e
  rw[this];simp
theorem Gn (w:World)(B:Nat)(ty:TypeId)(v:Value)(l:List Int)(n:Int)(ha:Nums w B v l)(a:Addr)(c:Nat)(hnews:w.cell? a=some (.int .i64 n))(hl:l.length<=200000)(hB:B<=w.heap.size) :
 ∃v' w',(Builtin.append_ #[22,22] ty #[v,.slice (some a) 1 c]).run prog w=.ok v' w'/\Nums w' B v' (l++[n])/\aB (λk=>v.ownBlock=some k) w w'/\∀g,v'.ownBlock=some g->v.ownBlock=some g\/w.heap.size<=g:=by
 obtain⟨i0,hi,hz0,hz1,hz2⟩:=info_parts Ql;have hn1:∀j u,[Value.int .i64 n][j]?=some u->w.cell? (a.add j)=some u:=λj u hj=>by
  match j,hj with
  | 0,hj =>
   rw[show a.add 0=a from rfl,hnews];simpa using hj
 obtain⟨v',w',hr,h2,h3⟩:=mG w B ty v l n ha a c hnews hl hB;refine⟨v',w',hr,h2,h3,λk hk=>?_⟩;rcases ha.2 with ⟨rfl,hn⟩|⟨g,cap,cur,rfl,hbg,hg,hnc,hcm,hcs,htake⟩
 ·right;have hr2:=run_append_nil (P:=prog) w 22 ty 3 i0 _ underlying22 hi hz0 a 1 c [.int .i64 n] (by rw[hz1];rfl) hn1 (by omega) (by omega) (by rw[hz2];omega);rw[hr] at hr2
  cases hr2
  simp only[Value.ownBlock,Option.some.injEq] at hk;omega
 ·by_cases hroom:l.length+1<=cap
  ·left;obtain⟨w2,hr2,_,_⟩:=run_append_fits (P:=prog) w B 22 ty 3 i0 1 underlying22 hi hz1 g l.length cap (l.map (Value.int .i64)) ha a 1 c [.int .i64 n] rfl hn1 (one_num n) hroom;rw[hr] at hr2
   cases hr2
   exact hk
  ·right;have hr2:=run_append_grow (P:=prog) w 22 ty 3 i0 _ underlying22 hi hz0 ⟨g,0,none⟩ l.length cap (l.map (Value.int .i64)) (by rw[hz1];exact ha.1) (World.ownsRow.cells ha (g:=g) rfl) a 1 c [.int .i64 n] (by rw[hz1];rfl) hn1 (by omega) (by omega) (by rw[hz2];exact growslice_fits (by omega) (by omega));rw[hr] at hr2
   cases hr2
   simp only[Value.ownBlock,Option.some.injEq] at hk;omega
def aI (f:ByteArray)(p:Int)(l:List Rc):List Rc:=l.filter λr=>iY f r.s&&decide (p<=r.q)
def nD (p:Int)(U:List Rc):Nat->Int
 | 0=>p
 | k+1=>(rc U k).q+1
theorem vg {f:ByteArray}{p:Int}{s:aY}(h:s.Ok):(aI f p s.l).length<=200:=Nat.le_trans (List.length_filter_le _ _) h.few
theorem Bf {f:ByteArray}{p:Int}{l:List Rc}{x:Rc}(h:x∈aI f p l):x∈l/\iY f x.s=true/\p<=x.q:=by
 have:=List.mem_filter.1 h;rw[Bool.and_eq_true,decide_eq_true_eq] at this;exact this
theorem yU {f:ByteArray}{p:Int}{s:aY}(h:s.Ok){k:Nat}(hk:k<=(aI f p s.l).length):aO f s.l (nD p (aI f p s.l) k)=(aI f p s.l)[k]?:=by
 have hr:(aI f p s.l).Pairwise λa b=>a.q<b.q:=h.rise.sublist List.filter_sublist
 have hn:p<=nD p (aI f p s.l) k:=by
  match k,hk with
  | 0,_=>exact Int.le_refl _
  | k+1,hk =>
   have:=(Bf (List.getElem_mem (show k<(aI f p s.l).length from hk))).2.2;show p<=(rc _ k).q+1;rw[aW hk];omega
 have e:aO f s.l (nD p (aI f p s.l) k)=(aI f p s.l).find? λ(r:Rc)=>decide (nD p (aI f p s.l) k<=r.q):=by
  generalize nD p (aI f p s.l) k=n at hn;unfold aO aI;rw[List.find?_filter];congr
  funext r
  by_cases z:n<=r.q
  ·rw[decide_eq_true z,decide_eq_true (show p<=r.q by omega)];cases iY f r.s<;>rfl
  ·rw[decide_eq_false z];simp
 rw[e];match k,hk with
 | 0,_=>exact qj (λj _ z=>absurd z (Nat.not_lt_zero j)) (λhk=>(Bf (List.getElem_mem hk)).2.2)
 | k+1,hk =>
  have hlt:k<(aI f p s.l).length:=hk;show List.find? (λ(r:Rc)=>decide ((rc _ k).q+1<=r.q)) _=_;rw[aW hlt];refine qj (λi hi z=>?_) (λhk2=>?_)
  ·rcases Nat.lt_or_ge i k with y|y
   ·have:=List.pairwise_iff_getElem.1 hr i k hi hlt y;omega
   ·obtain rfl:i=k:=by omega
    omega
  ·have:=List.pairwise_iff_getElem.1 hr k (k+1) hlt hk2 (by omega);omega
def gK (t:Tk.bV)(p:Int)(U:List Rc)(k:Nat):aV:=⟨t,nD p U k,[],(k:Int)⟩
theorem yV {t:Tk.bV}(h:Tk.eH t=0)(p:Int)(U:List Rc)(k:Nat):¬lJ (gK t p U k)=true:=λhf=>by
 unfold lJ gK at hf;simp only[List.length_nil,Bool.and_eq_true,decide_eq_true_eq,bne_iff_ne,ne_eq] at hf;have hk:=(Tk.iG h).2.2.2.2;have h3:0<=t.pe:=by
  unfold Tk.sV at hk;split at hk
  ·simp only[Bool.and_eq_true,decide_eq_true_eq] at hk;omega
  ·split at hk
   ·unfold Tk.inB at hk;simp only[Bool.and_eq_true,decide_eq_true_eq] at hk;omega
   ·cases hk
 omega
theorem Oq {t:Tk.bV}(h:Tk.eH t=0){p:Int}{s:aY}(hs:s.Ok){now:Int}(ht:dB now=true){k:Nat}(hk:k=(aI t.f p s.l).length):aS (gK t p (aI t.f p s.l) k) s.l now=(gK t p (aI t.f p s.l) k,none,4):=by
 have hn:=yU (f:=t.f) (p:=p) hs (k:=k) (by omega);rw[List.getElem?_eq_none (by omega)] at hn;rw[tu ht rfl];show newC (gK t p (aI t.f p s.l) k) s.l now=_;unfold newC;rw[if_neg (yV h _ _ _),show aO (gK t p (aI t.f p s.l) k).t.f s.l (gK t p (aI t.f p s.l) k).pl=none from hn]
theorem Jl {t:Tk.bV}(h:Tk.eH t=0){p:Int}{s:aY}(hs:s.Ok){now:Int}(ht:dB now=true){k:Nat}(hk:k<(aI t.f p s.l).length):aS (gK t p (aI t.f p s.l) k) s.l now=(⟨t,nD p (aI t.f p s.l) (k+1),if t.ack=0 then [] else [⟨(rc (aI t.f p s.l) k).q,1,now+Tk.bU t 1⟩],((k+1:Nat):Int)⟩,some (rc (aI t.f p s.l) k,1),0):=by
 have hn:=yU (f:=t.f) (p:=p) hs (k:=k) (by omega);rw[List.getElem?_eq_getElem hk,<-aW hk] at hn;rw[tu ht rfl];show newC (gK t p (aI t.f p s.l) k) s.l now=_;unfold newC;rw[if_neg (yV h _ _ _),show aO (gK t p (aI t.f p s.l) k).t.f s.l (gK t p (aI t.f p s.l) k).pl=some (rc (aI t.f p s.l) k) from hn];rfl
theorem Ot {t:Tk.bV}(q:Int)(d pl cn now:Int)(ht:dB now=true):fD ⟨t,pl,[⟨q,1,d⟩],cn⟩ now q 1 0=(⟨t,pl,[],cn⟩,0):=by
 unfold fD;rw[if_neg (by rw[ht];simp[jr]),if_neg (by simp[jg]),if_pos rfl];simp only[List.filter_cons,List.filter_nil];by_cases z:t.ack=1
 ·simp[z]
 ·simp[z]
