/- A part. -/
import Derived.Test.YtidekgipblnpkaaGreatDoorQ27
import Derived.Test.YtidekgipblnpkaaGreatDoorQ35
set_option maxRecDepth 100000
set_option maxHeartbeats 8000000
namespace Go.Proofs.YtidekgipblnpkaaGreatDoor
open Go.RowKit Go.Proofs.Tryz
namespace Dk
structure vC (Has:World->Nat->Nat->(Nat->Prop)->Int->List ay->Prop)(SH:World->Nat->Nat->(Nat->Prop)->aJ->Prop):Prop where
 H:jZ Has
 L:yG Has (jV Has)
 S:dY SH
theorem adQ (s:aJ)(r:Rc):s.last<=(jW s r).last:=by
 unfold jW;by_cases h0:bY s r=0
 ·rw[if_neg (by rw[h0];simp)];by_cases h1:r.k=1
  ·rw[if_pos h1];show s.last<=r.q;unfold bY at h0;by_cases c1:dL r=0
   ·rw[if_neg (by rw[c1];simp),if_neg (by rw[h1];omega),if_neg (by rw[h1];simp)] at h0;by_cases c2:r.q<=s.last
    ·rw[if_pos c2] at h0;exact absurd h0 (by decide)
    ·omega
   ·rw[if_pos c1] at h0;exact absurd h0 c1
  ·rw[if_neg h1];split
   ·exact Int.le_max_left _ _
   ·exact amK _
 ·rw[if_pos h0];exact amK _
theorem afX (es:List ay)(s:aJ)(m size:Int)(r:Rc):s.last<=(lq es s m size r).last:=by
 unfold lq;split
 ·exact adQ s r
 ·exact amK _
def pX (m size:Int)(st:dW)(r:Rc):dW:=⟨qL st.es st.s m size r,lq st.es st.s m size r,st.ids⟩
theorem Fit.did {P:Pn.cu}{m size:Int}{st:dW}(h:Fit P m size st)(r:Rc):Fit P m size (pX m size st r):=⟨h.plan,h.rY.did r,h.room,h.size,h.xU⟩
theorem dh:noB.size<=140737488355328:=by decide
theorem Cm {P:Pn.cu}(h:Pn.dG P=0):∀k,k<P.f.length->aG true (tk P.f k)=0:=by
 obtain⟨_,_,_,h4,_,_⟩:=Pn.tV h;exact λk hk=>Pn.LY h4 _ (by unfold tk;rw[ajl hk];exact akk hk)
theorem wO {P:Pn.cu}(h:Pn.dG P=0)(k:Nat):nth P.v k<=nth Pn.dN k:=by
 obtain⟨_,_,_,_,_,h6⟩:=Pn.tV h;have key:∀(v ms:List Int) (k:Nat),(∀y∈ms,0<=y)->Pn.gK v ms=true->(v[k]?).getD 0<=(ms[k]?).getD 0:=by
  intro v;induction v with
  | nil =>
   intro ms k hp _
   cases hm:ms[k]? with
   | none=>simp
   | some y=>simpa using hp y (amw hm)
  | cons y v ih =>
   intro ms k hp hh
   cases ms with
   | nil=>simp[Pn.gK] at hh
   | cons z ms =>
    simp only[Pn.gK,ajU,ajw] at hh
    cases k with
    | zero=>simpa using hh.1.2
    | succ k=>simpa using ih ms k (λy hy=>hp y (akg _ hy)) hh.2
 exact key P.v Pn.dN k (by decide) h6
section
variable {Has:World->Nat->Nat->(Nat->Prop)->Int->List ay->Prop}{SH:World->Nat->Nat->(Nat->Prop)->aJ->Prop}{F0 Cs:Nat->Prop}{w wr:World}{B x:Nat}{a:Option Addr}{c:Nat}{mb:Option Nat}{P:Pn.cu}{m size:Int}{st:dW}
theorem fG (h:fF Has SH F0 Cs w wr B x a c mb P m size st) :
 Calls prog 14 #[.pointer (some ⟨x,0,none⟩)] wr λe w'=>∃q G,e=.returned (.pointer (some ⟨q,0,none⟩))/\SH w' B q G st.s/\Below wr.heap.size wr w':=by
 obtain⟨FV,hv⟩:=h.look;have P1:=aj (JV hv);clear h hv;go_enter func14,ntmps14;go_wp2_with fail;refine(ah P1).mono ?_;rintro e w1 ⟨q,G,rfl,h1,_,b1⟩;have B1:=aj (And.intro h1 b1);clear P1 h1 b1;go_wp2_with fail;go_ret;exact⟨q,G,rfl,ah B1⟩
theorem fF.vdo (U:vC Has SH)(h:fF Has SH F0 Cs w wr B x a c mb P m size st)(hf:Fit P m size st)(hB:B<=w.heap.size)(r:Rc)(hr:Small r) :
 Calls prog 102 #[.pointer (some ⟨x,10,none⟩),.agg #[.int .i64 r.k,.int .i64 r.q,.int .i64 r.t,.string r.s,.string r.h,.string r.d]] wr λe w'=>e=.returned (.int .i64 (iJ st.es st.s m size r))/\fF Has SH F0 Cs w w' B x a c mb P m size (pX m size st r)/\aO Cs wr w' :=
 h.did (afX _ _ _ _ r) (Q:=λe _=>e=.returned (.int .i64 (iJ st.es st.s m size r))) (λ_ hv=>afO U.H U.L U.S r hr hv hf.rY hf.room hf.size (aje hB h.room))
theorem yO (U:vC Has SH)(h:fF Has SH F0 Cs w wr B x a c mb P m size st)(hf:Fit P m size st)(hB:B<=w.heap.size)(now q:Int) :
 Calls prog 74 #[.pointer (some ⟨x,0,none⟩),.int .i64 now,.int .i64 q] wr λe w'=>e=.returned (.int .i64 (iJ st.es st.s m size (bT q now)))/\fF Has SH F0 Cs w w' B x a c mb P m size (pX m size st (bT q now))/\aO Cs wr w':=by
 have PD:=aj (show Calls prog 102 #[.pointer (some ⟨x,10,none⟩),.agg #[.int .i64 2,.int .i64 q,.int .i64 now,.string ⟨#[]⟩,.string ⟨#[]⟩,.string ⟨#[]⟩]] wr _ from h.vdo U hf hB (bT q now) ⟨dh,dh,dh⟩);clear h hf;generalize iJ st.es st.s m size (bT q now)=E at *;go_enter func74,ntmps74;go_wp2_with fail;refine(ah PD).mono ?_;rintro e w1 ⟨rfl,h1⟩;have B1:=aj h1;clear PD h1;go_wp2_with fail;go_ret;exact⟨rfl,ah B1⟩
theorem yP (U:vC Has SH)(h:fF Has SH F0 Cs w wr B x a c mb P m size st)(hf:Fit P m size st)(hB:B<=w.heap.size)(now q:Int)(f:ByteArray)(hs:f.size<=140737488355328) :
 Calls prog 79 #[.pointer (some ⟨x,0,none⟩),.int .i64 now,.string f,.int .i64 q] wr λe w'=>e=.returned (.int .i64 (iJ st.es st.s m size (fP q now f)))/\fF Has SH F0 Cs w w' B x a c mb P m size (pX m size st (fP q now f))/\aO Cs wr w':=by
 have PD:=aj (show Calls prog 102 #[.pointer (some ⟨x,10,none⟩),.agg #[.int .i64 3,.int .i64 q,.int .i64 now,.string f,.string ⟨#[]⟩,.string ⟨#[]⟩]] wr _ from h.vdo U hf hB (fP q now f) ⟨hs,dh,dh⟩);clear h hf;generalize iJ st.es st.s m size (fP q now f)=E at *;go_enter func79,ntmps79;go_wp2_with fail;refine(ah PD).mono ?_;rintro e w1 ⟨rfl,h1⟩;have B1:=aj h1;clear PD h1;go_wp2_with fail;go_ret;exact⟨rfl,ah B1⟩
theorem jP (now:Int)(w:World) :
 Calls prog 80 #[.int .i64 now] w λe w'=>e=.returned (.bool (dn now 0 1099511627776))/\w'=w:=by
 by_cases h0:0<=now
 ·by_cases h1:now<=1099511627776
  ·have e:dn now 0 1099511627776=true:=by unfold dn;rw[ajg h0,ajg h1];rfl
   rw[e];go_enter func80,ntmps80;go_wp2_with fail;go_ret;exact⟨rfl,rfl⟩
  ·have e:dn now 0 1099511627776=false:=by unfold dn;rw[ajg h0,ajd h1];rfl
   have e1:decide (now<=1099511627776)=false:=ajd h1;rw[e];go_enter func80,ntmps80;go_wp2_with fail;go_ret;exact⟨rfl,rfl⟩
 ·have e:dn now 0 1099511627776=false:=by unfold dn;rw[ajd h0];rfl
  have e1:decide (0<=now)=false:=ajd h0;rw[e];go_enter func80,ntmps80;go_wp2_with fail;go_ret;exact⟨rfl,rfl⟩
theorem nC (y:Po)(hy:dZ y)(w:World) :
 Calls prog 98 #[G5 y] w λe w'=>e=.returned (.int .i64 (qm y:Nat))/\Below w.heap.size w w':=by
 have b0:Below w.heap.size w (w.alloc (jq y)):=(ajb _ _).alloc (Xc _) _;have hb:=qP.new w y;have h1:=hy.s;have h2:=hy.h;have h3:=hy.d;have B0:=aj b0;obtain⟨_,c0,c1,c2,c3,c4,c5⟩:=hb;clear hy b0;go_enter func98,ntmps98;go_wp2_with fail;go_ret;exact⟨by unfold qm;congr 2<;>omega,ah B0⟩
theorem Uf (hpl:Pn.dG P=0)(h:PBx w x P a c)(y:Po)(hy:dZ y) :
 Calls prog 97 #[.pointer (some ⟨x,0,none⟩),G5 y] w λe w'=>e=.returned (.bool (decide (256<y.h.size+y.d.size)||((decide (pv P 4≠0)&&decide (pv P 4<((y.h.size+y.d.size:Nat):Int)))||decide (16<y.i.size))))/\Below w.heap.size w w':=by
 have b0:Below w.heap.size w (w.alloc (jq y)):=(ajb _ _).alloc (Xc _) _;have hb:=qP.new w y;have h2:=hy.h;have h3:=hy.d;have h4:=hy.i;have d6:=(h.next b0).c6;have hlt:=h.lt;have hmax:nth P.v 4<=256:=wO hpl 4;have B0:=aj b0;obtain⟨_,c0,c1,c2,c3,c4,c5⟩:=hb;unfold pv;generalize nth P.v 4=M at *;clear hy h b0 hpl;have key:∀most:Int,(most=256/\M=0\/most=M/\M≠0)->(decide (256<y.h.size+y.d.size)||((decide (M≠0)&&decide (M<((y.h.size+y.d.size:Nat):Int)))||decide (16<y.i.size)))=(decide (most<((y.h.size:Int)+(y.d.size:Int)))||decide ((16:Int)<(y.i.size:Int))):=by
  intro most hm;rw[akc];simp only[akP,ajU,ajw];omega
 by_cases e0:M=0
 ·rw[key 256 (.inl ⟨rfl,e0⟩)];clear key;subst e0;by_cases g1:(256:Int)<(y.h.size:Int)+(y.d.size:Int)
  ·rw[ajg g1];go_enter func97,ntmps97;go_wp2_with fail;go_ret;exact⟨rfl,ah B0⟩
  ·have g2:decide ((256:Int)<(y.h.size:Int)+(y.d.size:Int))=false:=ajd g1;rw[g2];go_enter func97,ntmps97;go_wp2_with fail;go_ret;exact⟨rfl,ah B0⟩
 ·rw[key M (.inr ⟨rfl,e0⟩)];clear key;have e1:(M !=0)=true:=by simpa using e0
  by_cases g1:M<(y.h.size:Int)+(y.d.size:Int)
  ·rw[ajg g1];go_enter func97,ntmps97;go_wp2_with fail;go_ret;exact⟨rfl,ah B0⟩
  ·have g2:decide (M<(y.h.size:Int)+(y.d.size:Int))=false:=ajd g1;rw[g2];go_enter func97,ntmps97;go_wp2_with fail;go_ret;exact⟨rfl,ah B0⟩
theorem WW (hpl:Pn.dG P=0)(hsm:kM P)(h:PBx w x P a c)(hsl:nZ w a P.f)(s:ByteArray)(hs:s.size<=140737488355328)(hok:aG false s=0) :
 Calls prog 96 #[.pointer (some ⟨x,0,none⟩),.string s] w λe w'=>e=.returned (.bool (pK P s))/\Below w.heap.size w w':=by
 have HS:=aj hsl;have HM:=aj (λ(W:World) (k:Nat) (hk:k<P.f.length)=>ab1 (f:=tk P.f k) (s:=s) (a:=mX (tk P.f k) s) (x:=0) (by unfold bF mX;rw[Cm hpl k hk,hok];simp) (by rw[Cm hpl k hk,hok];rfl) (hsm.each k hk) hs W);have hl:=hsm.many;have c1:=h.c1;clear hsl hpl hsm hok h;go_enter func96,ntmps96;go_wp2_with fail;go_loopw [15] (λiv wr=>∃(k:Nat),iv=.int .i64 k/\k<=P.f.length/\Hid (pK P s=(P.f.drop k).any λf=>mX f s)/\Hid (Below w.heap.size w wr)) (λiv _=>P.f.length-(intOf iv).toNat)
 case atStart=>exact⟨0,rfl,ajm _,aj rfl,aj (ajb _ _)⟩
 case round =>
  obtain⟨k,rfl,hk,HT,HB⟩:=hrel;by_cases hlt:k<P.f.length
  ·obtain⟨b,o,rfl,hb,hcell⟩:=ah HS k hlt;have hc2:=((ah HB).cell (p:=⟨b,o+k,none⟩) hb).trans hcell;have PM:=aj (ah HM wr k hlt);have ht:=ah HT;rw[Pn.Ja hlt] at ht;obtain⟨v,hv⟩:∃v,mX (tk P.f k) s=v:=⟨_,rfl⟩;rw[hv] at PM ht;generalize tk P.f k=t at *;clear hcell HT hv
   cases v with
   | true =>
    have HE:=aj (show pK P s=true from by rw[ht];rfl);clear ht;go_wp2_with fail;refine(ah PM).mono ?_;rintro e w1 ⟨rfl,b1⟩;have B1:=aj (ak (ah HB) b1);clear PM b1;go_wp2_with fail;go_ret;rw[ah HE];exact⟨rfl,ah B1⟩
   | false =>
    have HE:=aj (show pK P s=(P.f.drop (k+1)).any λf=>mX f s from by rw[ht];rfl);clear ht;go_wp2_with fail;refine(ah PM).mono ?_;rintro e w1 ⟨rfl,b1⟩;have B1:=aj (ak (ah HB) b1);clear PM b1;go_wp2_with fail;refine⟨⟨k+1,by go_num,by omega,HE,B1⟩,?_⟩;simp[intOf];omega
  ·obtain rfl:k=P.f.length:=by omega
   have HE:=aj (show pK P s=false from by rw[ah HT,alb];rfl);clear HT;go_wp2_with fail;go_ret;rw[ah HE];exact⟨rfl,ah HB⟩
end
def knB (o:Option Kn)(f:Int):Bool:=match o with
 | none=>false
 | some k=>decide (f<=k.a)
theorem adR {P:Pn.cu}{ids:List Kn}{now:Int}{y:Po}(h:sH (jC P ids))(hq:∀k∈ids,1<=k.q):jM P now y ids=knB (lY (jC P ids) y.i) (now-pv P 7)/\(jM P now y ids=true->jX ids y.i (now-pv P 7)=knQ (lY (jC P ids) y.i) (now-pv P 7)):=by
 unfold jM;by_cases hW:pv P 7=0
 ·have e:jC P ids=[]:=by unfold jC;rw[if_pos hW]
  rw[e,ajd (p:=pv P 7≠0) (by simpa using hW)];simp[lY,knB]
 ·have e:jC P ids=ids:=by unfold jC;rw[if_neg hW]
  rw[e] at h ⊢;rw[ajg (p:=pv P 7≠0) hW,akn];have hs:=h.seen y.i (now-pv P 7);refine⟨?_,λ_=>hs⟩
  cases hl:lY ids y.i with
  | none =>
   rw[hl] at hs;rw[hs];simp[knQ,knB]
  | some k =>
   obtain⟨hm,hi⟩:=MV hl;have h1:=hq k hm;have h2:=h.agB k hm;rw[hi] at h2;rw[hl] at hs;rw[hs,ajg (p:=y.i.size≠0) h2,akn];by_cases c:now-pv P 7<=k.a
   ·have e1:knQ (some k) (now-pv P 7)=k.q:=if_pos c;have e2:knB (some k) (now-pv P 7)=true:=ajg c;rw[e1,e2];exact ajg (by omega)
   ·have e1:knQ (some k) (now-pv P 7)=0:=if_neg c;have e2:knB (some k) (now-pv P 7)=false:=ajd c;rw[e1,e2];rfl
section
variable {Has:World->Nat->Nat->(Nat->Prop)->Int->List ay->Prop}{SH:World->Nat->Nat->(Nat->Prop)->aJ->Prop}{F0 Cs:Nat->Prop}{w wr:World}{B x:Nat}{a:Option Addr}{c:Nat}{mb:Option Nat}{P:Pn.cu}{m size:Int}{st:dW}
theorem fF.map (h:fF Has SH F0 Cs w wr B x a c mb P m size st):uH wr mb (jC P st.ids)/\sH (jC P st.ids):=by
 obtain⟨_,h1,_⟩:=h;exact⟨h1.map,h1.TB⟩
theorem Ug (h:fF Has SH F0 Cs w wr B x a c mb P m size st)(hf:Fit P m size st)(now:Int)(hn:0<=now/\now<=1099511627776)(i:ByteArray)(hi:i.size<=140737488355328) :
 Calls prog 55 #[.pointer (some ⟨x,0,none⟩),.int .i64 now,.string i] wr λe w'=>e=.returned (.tuple #[.int .i64 (knQ (lY (jC P st.ids) i) (now-pv P 7)),.bool (knB (lY (jC P st.ids) i) (now-pv P 7))])/\Below wr.heap.size wr w':=by
 obtain⟨q,t,b,hrun,hb0,hb1⟩:=h.map.1.look i (by unfold maxLen;omega);have c14:=h.ids.1;have c9:=h.plan.c9;have hlt:=h.plan.lt;have hW0:0<=nth P.v 7:=(uo hf.plan).pos 7;have hW1:nth P.v 7<=100000:=wO hf.plan 7;have bb:Below wr.heap.size wr (wr.alloc (.cells #[.int .i64 q,.int .i64 t] 158)):=(ajb _ _).alloc (Xc _) _;have c9b:=(bb.cell (p:=⟨x,9,none⟩) hlt).trans c9;have B0:=aj bb;have B1:=aj (λn=>below_drewN bb n);unfold pv;generalize nth P.v 7=W at *
 cases b with
 | false =>
  rw[hb0 rfl];clear h hf hb0 hb1 bb;go_enter func55,ntmps55;go_wp2_with fail;go_quiet (fail)
  go_wp2_with fail;go_ret2;exact⟨rfl,ah B1 _⟩
 | true =>
  obtain⟨k,hk,hq,ht⟩:=hb1 rfl;rw[hk];clear h hf hb0 hb1 bb;by_cases g:t<now-W
  ·have e:knQ (some k) (now-W)=0/\knB (some k) (now-W)=false:=by
    rw[<-ht] at g;exact⟨if_neg (by omega),ajd (by omega)⟩
   rw[e.1,e.2];clear e hk hq ht;go_enter func55,ntmps55;go_wp2_with fail;go_quiet (fail)
   go_wp2_with fail;go_ret2;exact⟨rfl,ah B1 _⟩
  ·have e:knQ (some k) (now-W)=q/\knB (some k) (now-W)=true:=by
    rw[<-ht] at g;exact⟨(if_pos (by omega):knQ (some k) (now-W)=k.q).trans hq,ajg (by omega)⟩
   have g2:decide (t<now-W)=false:=ajd g;rw[e.1,e.2];clear e hk hq ht;go_enter func55,ntmps55;go_wp2_with fail;go_quiet (fail)
   go_wp2_with fail;go_ret2;exact⟨rfl,ah B1 _⟩
end
def oL (ids:List Kn)(i:ByteArray)(now q:Int):List Kn:=if i.size=0 then ids else ids++[⟨i,now,q⟩]
section
variable {Has:World->Nat->Nat->(Nat->Prop)->Int->List ay->Prop}{SH:World->Nat->Nat->(Nat->Prop)->aJ->Prop}{F0 Cs:Nat->Prop}{w wr w':World}{B x:Nat}{a:Option Addr}{c:Nat}{mb:Option Nat}{P:Pn.cu}{m size:Int}{st:dW}{qo:List Kn}
theorem fF.free (h:fF Has SH F0 Cs w wr B x a c mb P m size st)(hm:jC P qo=jC P st.ids)(hf:(qo.length:Int)<=st.s.last):fF Has SH F0 Cs w wr B x a c mb P m size ⟨st.es,st.s,qo⟩:=by
 obtain⟨FV,h1,h2,h3,h4⟩:=h;exact⟨FV,⟨h1.pV,h1.plan,h1.ids,h1.row,h1.uI,h1.cap,by rw[hm];exact h1.map,h1.xW,by rw[hm];exact h1.TB,hf,h1.small⟩,h2,h3,h4⟩
theorem fF.makes (U:vC Has SH)(h:fF Has SH F0 Cs w wr B x a c .none P m size st)(hB:B<=w.heap.size){W1:World}(hW:W1=wr.alloc (.map #[] 0)):fF Has SH F0 Cs w (W1.setCell ⟨x,14,none⟩ (.map (some wr.heap.size))) B x a c (some wr.heap.size) P m size st/\aO Cs wr (W1.setCell ⟨x,14,none⟩ (.map (some wr.heap.size))):=by
 have hr:=h.room;have bb:Below wr.heap.size wr W1:=by rw[hW];exact(ajb _ _).alloc (Xc _) _
 have hsz:W1.heap.size=wr.heap.size+1:=by rw[hW];simp
 obtain⟨FV,h1,h2,h3,h4⟩:=h;have hx:=h1.pV.blk;have he:jC P st.ids=[]:=by
  rcases h1.map with ⟨_,e⟩|⟨b,D,e,_⟩
  ·exact e
  ·cases e
 have hk:uH W1 (some wr.heap.size) (jC P st.ids):=by rw[he,hW];exact uH.made wr
 have hw1:=h1.below U.H U.S bb;have hno:¬FV wr.heap.size:=λz=>by have:=(h1.pV.own U.H U.S _ z).2;omega
 have cs:aH (λk=>k=x) W1 (W1.setCell ⟨x,14,none⟩ (.map (some wr.heap.size))):=(aH.refl _ _).setCell (A:=λk=>k=x) (p:=⟨x,14,none⟩) (.inl rfl) _;refine⟨⟨FV,hw1.put U.H U.S hk (λb hb=>?_) h1.TB h1.iW,iZ (h2.trans (aH.aA bb)) cs (λi hi z=>?_),λk hk'=>?_,λk hk'=>?_⟩,aje bb.size cs.size,λk hk'=>?_⟩
 ·cases hb
  exact⟨aje hB hr,by omega,hno,λz hz e=>by have:=(h1.uI z hz).2.1;omega⟩
 ·subst z;rcases h3 _ (.inl hx.1) with y|y
  ·exact y
  ·omega
 ·rcases hk' with z|z|z
  ·exact h3 k (.inl z)
  ·exact h3 k (.inr (.inl z))
  ·cases z;exact .inr hr
 ·have hc:=h4 k hk';refine⟨ajc hc.1 (aje bb.size cs.size),λz=>?_⟩;rcases z with z|z|z
  ·exact hc.2 (.inl z)
  ·exact hc.2 (.inr (.inl z))
  ·cases z;exact absurd hc.1 (Nat.lt_irrefl _)
 ·have hc:=h4 k hk';rw[cs.block k (ajc hc.1 bb.size) (λz=>hc.2 (.inl (z▸hx.1)))];exact bb.block k hc.1
theorem fF.keeps {b:Nat}(h:fF Has SH F0 Cs w wr B x a c (some b) P m size st)(U:vC Has SH)(hl:(jC P st.ids).length<maxLen)(i:ByteArray)(hi:i.size<=maxLen)(q t:Int)(hm:jC P qo=jC P st.ids++[⟨i,t,q⟩])(hL:sH (jC P qo))(hf:(qo.length:Int)<=st.s.last) :
 ∃w',(Instr.mapUpdate 86 (.map (some b)) (.string i) (.agg #[.int .i64 q,.int .i64 t])).run prog wr=.ok () w'/\fF Has SH F0 Cs w w' B x a c (some b) P m size ⟨st.es,st.s,qo⟩/\aO Cs wr w':=by
 have hr:=h.room;obtain⟨FV,h1,h2,h3,h4⟩:=h;obtain⟨w',hrun,hk,hc⟩:=h1.map.store hl i hi q t;have hb:=h1.xW b rfl;obtain⟨hx,_,hxl,_⟩:=h1.pV.blk;have hxb:¬x=b:=λz=>hb.2.2.1 (z▸hx)
 have e:∀j,w'.cell? ⟨x,j,none⟩=wr.cell? ⟨x,j,none⟩:=λj=>hc.cell (p:=⟨x,j,none⟩) hxl hxb
 refine⟨w',hrun,⟨FV,⟨h1.pV.bZ U.H U.S hc (λk hk z=>hb.2.2.1 (z▸hk)),Ho h1.plan hc.size (λj _=>e j),(e 14).trans h1.ids,Hu h1.row hc (λz hz y=>hb.2.2.2 z hz y),λz hz=>⟨(h1.uI z hz).1,ajc (h1.uI z hz).2.1 hc.size,(h1.uI z hz).2.2⟩,h1.cap,by rw[hm];exact hk,λb' hb'=>⟨(h1.xW b' hb').1,ajc (h1.xW b' hb').2.1 hc.size,(h1.xW b' hb').2.2⟩,hL,hf,h1.small⟩,iZ h2 hc (λj hj z=>?_),h3,λk hk'=>⟨ajc (h4 k hk').1 hc.size,(h4 k hk').2⟩⟩,hc.size,λk hk'=>hc.block k (h4 k hk').1 (λz=>(h4 k hk').2 (.inr (.inr (by rw[z]))))⟩
 subst z;rcases h3 _ (.inr (.inr rfl)) with y|y
 ·exact y
 ·omega
end
theorem adS (w:World):(binOp .eql 86 (.map none) (.map none)).run prog w=.ok (.bool true) w:=by kernel_rfl
theorem aaB (b:Nat)(w:World):(binOp .eql 86 (.map (some b)) (.map none)).run prog w=.ok (.bool false) w:=by kernel_rfl
section
variable {Has:World->Nat->Nat->(Nat->Prop)->Int->List ay->Prop}{SH:World->Nat->Nat->(Nat->Prop)->aJ->Prop}{F0 Cs:Nat->Prop}{w wr w':World}{B x:Nat}{a:Option Addr}{c:Nat}{mb:Option Nat}{P:Pn.cu}{m size:Int}{st:dW}{qo:List Kn}
theorem adT (U:vC Has SH)(h:fF Has SH F0 Cs w wr B x a c mb P m size st)(hf:Fit P m size st)(hB:B<=w.heap.size)(i:ByteArray)(hi:i.size<=140737488355328)(q now:Int)(hno:i.size≠0->pv P 7≠0->¬0<jX st.ids i (now-pv P 7))(hfew:(st.ids.length:Int)+1<=st.s.last) :
 Calls prog 103 #[.pointer (some ⟨x,0,none⟩),.string i,.agg #[.int .i64 q,.int .i64 now]] wr λe w'=>e=.returned (.tuple #[])/\(∃mb',fF Has SH F0 Cs w w' B x a c mb' P m size ⟨st.es,st.s,oL st.ids i now q⟩)/\aO Cs wr w':=by
 have b0:Below wr.heap.size wr (wr.alloc (.cells #[.int .i64 q,.int .i64 now] 158)):=(ajb _ _).alloc (Xc _) _;have hx:=h.lt;have c9:=h.plan.c9;by_cases h0:i.size=0
 ·have e:oL st.ids i now q=st.ids:=by unfold oL;rw[if_pos h0]
  have hi0:i=⟨#[]⟩:=by
   apply akQ;exact Array.eq_empty_of_size_eq_zero h0
  have HE:=aj (And.intro (show ∃mb',fF Has SH F0 Cs w (wr.alloc (.cells #[.int .i64 q,.int .i64 now] 158)) B x a c mb' P m size ⟨st.es,st.s,oL st.ids i now q⟩ from⟨mb,by rw[e];exact h.below U.H U.S b0⟩) (h.stay b0));rw[hi0] at HE ⊢;clear h hf hno hfew b0 e hi0 h0;go_enter func103,ntmps103;go_wp2_with fail;(try simp only[Exit.inBlock,Exit.then])
  refine ajJ (amQ rfl _ _ _) rfl ?_;exact⟨rfl,ah HE⟩
 ·have e:oL st.ids i now q=st.ids++[⟨i,now,q⟩]:=by unfold oL;rw[if_neg h0]
  have hlen:((oL st.ids i now q).length:Int)<=st.s.last:=by rw[e,ajh];simpa using hfew
  have hne:¬i.toList=[]:=by rw[Jl];exact h0
  have hne1:(!i.toList.isEmpty)=true:=by rw[uD,ajd h0];rfl
  have hne2:i.toList.isEmpty=false:=by rw[uD,ajd h0]
  by_cases hW:pv P 7=0
  ·have HE:=aj (And.intro (show ∃mb',fF Has SH F0 Cs w (wr.alloc (.cells #[.int .i64 q,.int .i64 now] 158)) B x a c mb' P m size ⟨st.es,st.s,oL st.ids i now q⟩ from⟨mb,(h.below U.H U.S b0).free (by unfold jC;rw[if_pos hW,if_pos hW]) hlen⟩) (h.stay b0));have hW2:nth P.v 7=0:=hW;rw[hW2] at c9;clear h hf hno hfew b0 e h0 hlen hW hW2;go_enter func103,ntmps103;go_wp2_with fail;(try simp only[Exit.inBlock,Exit.then])
   refine ajJ (amQ rfl _ _ _) rfl ?_;exact⟨rfl,ah HE⟩
  ·have hm:jC P (oL st.ids i now q)=jC P st.ids++[⟨i,now,q⟩]:=by rw[e];unfold jC;rw[if_neg hW,if_neg hW]
   have hms:jC P st.ids=st.ids:=by unfold jC;rw[if_neg hW]
   have hL:sH (jC P (oL st.ids i now q)):=by
    have h1:=h.map.2;rw[hm,hms];rw[hms] at h1;exact h1.more hf.xU h0 ((uo hf.plan).pos 7) (hno h0 hW)
   have hlen2:(jC P st.ids).length<maxLen:=by
    have:=hf.rY.ok.last.2;rw[hms];unfold maxLen;omega
   have hW2:(nth P.v 7==0)=false:=by rw[ajr];exact hW
   have hW3:decide (nth P.v 7=0)=false:=ajd hW;have hi2:i.size<=maxLen:=by unfold maxLen;omega
   have PC:Hid (∀X,Calls prog 67 #[.string i] X λe w'=>e=.returned (.string i)/\Below X.heap.size X w'):=aj (λX=>mW i X (by omega))
   cases mb with
   | some b =>
    have c14:=h.ids.1;have hS:=aj (λ(W:World) (hb:Below wr.heap.size wr W)=>show W.cell? ⟨x,14,none⟩=some (.map (some b))/\∃w',(Instr.mapUpdate 86 (.map (some b)) (.string i) (.agg #[.int .i64 q,.int .i64 now])).run prog W=.ok () w'/\(∃mb',fF Has SH F0 Cs w w' B x a c mb' P m size ⟨st.es,st.s,oL st.ids i now q⟩)/\aO Cs wr w' from by
     have r1:=h.below U.H U.S hb;obtain⟨w',k1,k2,k3⟩:=r1.keeps U hlen2 i hi2 q now hm hL hlen;exact⟨r1.ids.1,w',k1,⟨_,k2⟩,(h.stay hb).trans k3⟩)
    have B0:=aj b0;have hq:=λW=>aaB b W
    have d0:∀W,Below (wr.alloc (.cells #[.int .i64 q,.int .i64 now] 158)).heap.size (wr.alloc (.cells #[.int .i64 q,.int .i64 now] 158)) W->W.cell? ⟨wr.heap.size,0,none⟩=some (.int .i64 q)/\W.cell? ⟨wr.heap.size,1,none⟩=some (.int .i64 now):=λW hW=>⟨(hW.cell (p:=⟨wr.heap.size,0,none⟩) (by simp)).trans (by simp),(hW.cell (p:=⟨wr.heap.size,1,none⟩) (by simp)).trans (by simp)⟩
    have D0:=aj d0;clear h hf hno hfew b0 e h0 hlen hW hm hms hL hlen2 d0;go_enter func103,ntmps103;go_wp2_with fail;go_region_with (go_at_call 67;refine(ah PC _).mono ?_;rintro e w1 ⟨rfl,b1⟩;obtain⟨g0,g1⟩:=ah D0 w1 ((ajb _ _).drew.trans b1);obtain⟨g2,w2,hrun,hfin,hst⟩:=ah hS w1 (ak (ah B0).drew b1))
    all_goals (
     go_wp2_with fail
     go_end0
     exact⟨rfl,hfin,hst⟩)
   | none =>
    have c14:=h.ids.1;have f14:=h.ids.2;have r0:=h.below U.H U.S b0;obtain⟨r1,s1⟩:=r0.makes U hB rfl;have hsz:(wr.alloc (.cells #[.int .i64 q,.int .i64 now] 158)).heap.size=wr.heap.size+1:=by simp
    have hWe:(((wr.alloc (.cells #[.int .i64 q,.int .i64 now] 158)).alloc (.map #[] 0)).setCell ⟨x,14,none⟩ (.map (some (wr.alloc (.cells #[.int .i64 q,.int .i64 now] 158)).heap.size)))=(((wr.setCell ⟨x,14,none⟩ (.map (some (wr.heap.size+1)))).alloc (.cells #[.int .i64 q,.int .i64 now] 158)).alloc (.map #[] 0)):=by
     rw[hsz,akI _ _ _ _ (by rw[hsz];omega),akI _ _ _ _ hx]
    rw[hWe,hsz] at r1;rw[hWe] at s1;obtain⟨W1,hW1⟩:∃W1,W1=(((wr.setCell ⟨x,14,none⟩ (.map (some (wr.heap.size+1)))).alloc (.cells #[.int .i64 q,.int .i64 now] 158)).alloc (.map #[] 0)):=⟨_,rfl⟩;have q0:W1.cell? ⟨wr.heap.size,0,none⟩=some (.int .i64 q)/\W1.cell? ⟨wr.heap.size,1,none⟩=some (.int .i64 now)/\wr.heap.size<W1.heap.size:=by
     rw[hW1];refine⟨?_,?_,?_⟩
     ·rw[akz _ _ _ (by simp[World.setCell]),World.cell?_alloc_at _ _ _ _ (by simp[World.setCell])];rfl
     ·rw[akz _ _ _ (by simp[World.setCell]),World.cell?_alloc_at _ _ _ _ (by simp[World.setCell])];rfl
     ·simp[World.setCell];omega
    rw[<-hW1] at r1 s1;have hS:=aj (λ(W:World) (hb:Below W1.heap.size W1 W)=>show W.cell? ⟨x,14,none⟩=some (.map (some (wr.heap.size+1)))/\∃w',(Instr.mapUpdate 86 (.map (some (wr.heap.size+1))) (.string i) (.agg #[.int .i64 q,.int .i64 now])).run prog W=.ok () w'/\(∃mb',fF Has SH F0 Cs w w' B x a c mb' P m size ⟨st.es,st.s,oL st.ids i now q⟩)/\aO Cs wr w' from by
     have r2:=r1.below U.H U.S hb;obtain⟨w',k1,k2,k3⟩:=r2.keeps U hlen2 i hi2 q now hm hL hlen;exact⟨r2.ids.1,w',k1,⟨_,k2⟩,((h.stay b0).trans s1).trans ((r1.stay hb).trans k3)⟩)
    have hq:=λW=>adS W
    have hmm:=@run_makeMap prog;have D0:=aj (λ(W:World) (hW:Below W1.heap.size W1 W)=>show W.cell? ⟨wr.heap.size,0,none⟩=some (.int .i64 q)/\W.cell? ⟨wr.heap.size,1,none⟩=some (.int .i64 now) from⟨(hW.cell (p:=⟨wr.heap.size,0,none⟩) q0.2.2).trans q0.1,(hW.cell (p:=⟨wr.heap.size,1,none⟩) q0.2.2).trans q0.2.1⟩);have c15:=r1.ids.1;have hx1:=r1.lt;obtain⟨q1,q2,q3⟩:=q0;clear h hf hno hfew b0 e h0 hlen hW hm hms hL hlen2 r0 r1 s1 hsz hWe;go_enter func103,ntmps103;go_wp2_with fail;rw[<-hW1];clear hW1;go_region_with (go_at_call 67;refine(ah PC _).mono ?_;rintro e w1 ⟨rfl,b1⟩;obtain⟨g0,g1⟩:=ah D0 w1 ((ajb _ _).drew.trans b1);obtain⟨g2,w2,hrun,hfin,hst⟩:=ah hS w1 ((ajb _ _).drew.trans b1))
    all_goals (
     go_wp2_with fail
     go_end0
     exact⟨rfl,hfin,hst⟩)
end
theorem adU {f:ByteArray}(hf:aG true f=0)(o:Option Rc):∃(y:Rc) (E:Int),iG f o=.tuple #[.agg #[.int .i64 y.k,.int .i64 y.q,.int .i64 y.t,.string y.s,.string y.h,.string y.d],.int .i64 E]/\y.q=(o.map (·.q)).getD 0:=by
 unfold iG;rw[if_pos hf]
 cases o with
 | none=>exact⟨iF,_,rfl,rfl⟩
 | some r=>exact⟨r,_,rfl,rfl⟩
section
variable {Has:World->Nat->Nat->(Nat->Prop)->Int->List ay->Prop}{SH:World->Nat->Nat->(Nat->Prop)->aJ->Prop}{F0 Cs:Nat->Prop}{w wr:World}{B x:Nat}{a:Option Addr}{c:Nat}{mb:Option Nat}{P:Pn.cu}{m size:Int}{st:dW}
theorem JZ (U:vC Has SH)(V:lV SH)(h:fF Has SH F0 Cs w wr B x a c mb P m size st)(hf:Fit P m size st)(hB:B<=w.heap.size)(now:Int)(f:ByteArray)(hs:f.size<=140737488355328)(hok:aG true f=0) :
 Calls prog 101 #[.pointer (some ⟨x,0,none⟩),.int .i64 now,.string f] wr λe w'=>e=.returned (.int .i64 (iJ st.es st.s m size (bT (nxQ f st.s.l) now)))/\fF Has SH F0 Cs w w' B x a c mb P m size (pX m size st (bT (nxQ f st.s.l) now))/\aO Cs wr w':=by
 have hk:=hf.rY.ok;have hBr:=aje hB h.room;have P1:=aj (fG h);obtain⟨y,E,hy,hq⟩:=adU hok (rW f st.s.l 0);have P2:=aj (λ(W:World) (q:Nat) (G:Nat->Prop) (hS:SH W B q G st.s) (hW:B<=W.heap.size)=>V.next f 0 hs hS hk hW);have hq2:nxQ f st.s.l=y.q:=hq.symm;rw[hy] at P2;rw[hq2];have HE:=aj (λ(W:World) (hW:Below wr.heap.size wr W)=>show Calls prog 74 #[.pointer (some ⟨x,0,none⟩),.int .i64 now,.int .i64 y.q] W λe w'=>e=.returned (.int .i64 (iJ st.es st.s m size (bT y.q now)))/\fF Has SH F0 Cs w w' B x a c mb P m size (pX m size st (bT y.q now))/\aO Cs wr w' from(yO U (h.below U.H U.S hW) hf hB now y.q).mono (λ_ _ z=>⟨z.1,z.2.1,(h.stay hW).trans z.2.2⟩))
 generalize iJ st.es st.s m size (bT y.q now)=D at *;generalize pX m size st (bT y.q now)=st' at *;clear h hf hk hy hq hq2;go_enter func101,ntmps101;go_wp2_with fail;refine(ah P1).mono ?_;rintro e w1 ⟨q,G,rfl,h1,b1⟩;have P3:=aj (ah P2 w1 q G h1 (aje hBr b1.size));have B1:=aj b1;clear P1 P2 h1 b1;go_wp2_with fail;refine(ah P3).mono ?_;rintro e w2 ⟨rfl,b2⟩;have bA:Below w2.heap.size w2 (w2.alloc (.cells #[.int .i64 y.k,.int .i64 y.q,.int .i64 y.t,.string y.s,.string y.h,.string y.d] 73)):=(ajb _ _).alloc (Xc _) _;have PE:=aj (ah HE _ (ak (ak (ah B1) b2) bA))
 clear P3 b2 B1 bA HE;go_wp2_with fail;refine(ah PE).mono ?_;rintro e w3 ⟨rfl,h3⟩;have B3:=aj h3;clear PE h3;go_wp2_with fail;go_ret;exact⟨rfl,ah B3⟩
end
section
variable {w:World}{x:Nat}{a:Option Addr}{c:Nat}{P:Pn.cu}
theorem H8 {now:Int}{y:Po}(h:¬(dn now 0 1099511627776=true/\-1<=y.x/\0<=y.ro/\y.ro<=2)):mZ P now y=1:=by
 unfold mZ;rw[if_pos]
 cases h1:dn now 0 1099511627776 with
 | false=>rfl
 | true =>
  rw[h1] at h;simp only[anp,dn,akn] at h ⊢;rw[amS];simp only[ne_eq,ajU,ajw];omega
theorem sN {now:Int}{y:Po}(h:dn now 0 1099511627776=true/\-1<=y.x/\0<=y.ro/\y.ro<=2):mZ P now y=if aG false y.s≠0 then aG false y.s
 else if pK P y.s=false then 10
 else if (decide (256<y.h.size+y.d.size)||((decide (pv P 4≠0)&&decide (pv P 4<((y.h.size+y.d.size:Nat):Int)))||decide (16<y.i.size)))=true then 2
 else 0:=by
 unfold mZ
 rw[if_neg]
 rw[h.1]
 simp only[dn,akn]
 rw[Bool.not_eq_false]
 simp only[ajU,ajw]
 omega
theorem KT (hpl:Pn.dG P=0)(hsm:kM P)(h:PBx w x P a c)(hsl:nZ w a P.f)(now:Int)(y:Po)(hy:dZ y) :
 Calls prog 54 #[.pointer (some ⟨x,0,none⟩),.int .i64 now,G5 y] w λe w'=>e=.returned (.int .i64 (mZ P now y))/\Below w.heap.size w w':=by
 have b0:Below w.heap.size w (w.alloc (jq y)):=(ajb _ _).alloc (Xc _) _;have hb:=qP.new w y;have B0:=aj b0;have d4:=hb.c4;have d5:=hb.c5;by_cases hg:dn now 0 1099511627776=true/\-1<=y.x/\0<=y.ro/\y.ro<=2
 ·obtain⟨g1,g2,g3,g4⟩:=id hg;have HI:=aj g1;have k1:decide (y.x < -1)=false:=ajd (by omega);have k2:decide (y.ro<0)=false:=ajd (by omega);have k3:decide (2<y.ro)=false:=ajd (by omega);have d0:=hb.c0;have PS:=aj (fU y.s (w.alloc (jq y)) hy.s);have uP:=aj (sN (P:=P) hg);have PT:=aj (λ(W:World) (hW:Below (w.alloc (jq y)).heap.size (w.alloc (jq y)) W) (hok:aG false y.s=0)=>WW hpl hsm ((h.next b0).next hW) ((hsl.next b0).next hW) y.s hy.s hok);have PL:=aj (λ(W:World) (hW:Below (w.alloc (jq y)).heap.size (w.alloc (jq y)) W)=>Uf hpl ((h.next b0).next hW) y hy)
  have HC:=aj (λ(W:World) (hW:Below (w.alloc (jq y)).heap.size (w.alloc (jq y)) W)=>hb.below hW);have HBe:=aj (λ(W:World) (hW:Below (w.alloc (jq y)).heap.size (w.alloc (jq y)) W)=>ak b0 hW);obtain⟨E,hE⟩:∃E,aG false y.s=E:=⟨_,rfl⟩;rw[hE] at PS uP PT;clear hg g1 g2 g3 g4 hb h hsl hpl hsm hy b0 hE;go_enter func54,ntmps54;go_wp2_with (go_at_call 80;refine(jP _ _).mono ?_;rintro e w1 ⟨rfl,rfl⟩;rw[ah HI]);refine(ah PS).mono ?_;rintro e w1 ⟨rfl,b1⟩;by_cases h0:E=0
  ·have d0:=(ah HC w1 b1).c0;have PT1:=aj (ah PT w1 b1 h0);obtain⟨T,hT⟩:∃T,pK P y.s=T:=⟨_,rfl⟩;rw[hT] at PT1;have HT:=aj hT;have B1:=aj b1;have J4:=ah uP;rw[if_neg (by rw[h0];simp),hT] at J4;have Ns:=aj J4;subst h0;clear PS PT b1 hT J4 uP d4 d5;go_wp2_with fail;refine(ah PT1).mono ?_;rintro e w2 ⟨rfl,b2⟩;have B2:=aj (ak (ah B1) b2);clear PT1 b2
   cases T with
   | false =>
    have AX:=aj (ah Ns);rw[if_pos rfl] at AX;clear Ns;go_wp2_with fail;go_ret;rw[ah AX];exact⟨rfl,ah HBe _ (ah B2)⟩
   | true =>
    have AX:=aj (ah Ns);rw[if_neg (by simp)] at AX;have PL2:=aj (ah PL w2 (ah B2));obtain⟨V,hV⟩:∃V,(decide (256<y.h.size+y.d.size)||((decide (pv P 4≠0)&&decide (pv P 4<((y.h.size+y.d.size:Nat):Int)))||decide (16<y.i.size)))=V:=⟨_,rfl⟩;rw[hV] at AX PL2;obtain⟨_,f0,f1,f2,f3,f4,f5⟩:=ah HC w2 (ah B2);clear Ns PL hV;go_wp2_with fail;refine(ah PL2).mono ?_;rintro e w3 ⟨rfl,b3⟩;have B3:=aj (ak (ah B2) b3);clear PL2 b3 f0 f1 f2 f3 f4 f5
    cases V with
    | true =>
     rw[if_pos rfl] at AX;go_wp2_with fail;go_ret;rw[ah AX];exact⟨rfl,ah HBe _ (ah B3)⟩
    | false =>
     rw[if_neg (by simp)] at AX;go_wp2_with fail;go_ret;rw[ah AX];exact⟨rfl,ah HBe _ (ah B3)⟩
  ·have e5:(E !=0)=true:=by simpa using h0
   have J4:=ah uP;rw[if_pos h0] at J4;have Ns:=aj J4;have B1:=aj b1;clear PS PT b1 J4 uP d4 d5;go_wp2_with fail;go_ret;rw[ah Ns];exact⟨rfl,ah HBe _ (ah B1)⟩
 ·rw[H8 hg];clear hb h hsl hpl hsm hy b0
  cases hI:dn now 0 1099511627776 with
  | false =>
   have HI:=aj hI;clear hI hg;go_enter func54,ntmps54;go_wp2_with (go_at_call 80;refine(jP _ _).mono ?_;rintro e w1 ⟨rfl,rfl⟩;rw[ah HI]);go_ret;exact⟨rfl,ah B0⟩
  | true =>
   have HI:=aj hI;by_cases k1:y.x < -1
   ·clear hI hg;go_enter func54,ntmps54;go_wp2_with (go_at_call 80;refine(jP _ _).mono ?_;rintro e w1 ⟨rfl,rfl⟩;rw[ah HI]);go_ret;exact⟨rfl,ah B0⟩
   ·have k1':decide (y.x < -1)=false:=ajd k1;by_cases k2:y.ro<0
    ·clear hI hg;go_enter func54,ntmps54;go_wp2_with (go_at_call 80;refine(jP _ _).mono ?_;rintro e w1 ⟨rfl,rfl⟩;rw[ah HI]);go_ret;exact⟨rfl,ah B0⟩
    ·have k2':decide (y.ro<0)=false:=ajd k2;have k3:2<y.ro:=aju (λz=>hg ⟨by first|rfl|exact hI,by omega,by omega,by omega⟩);clear hI hg;go_enter func54,ntmps54;go_wp2_with (go_at_call 80;refine(jP _ _).mono ?_;rintro e w1 ⟨rfl,rfl⟩;rw[ah HI]);go_ret;exact⟨rfl,ah B0⟩
end
section
variable {Has:World->Nat->Nat->(Nat->Prop)->Int->List ay->Prop}{SH:World->Nat->Nat->(Nat->Prop)->aJ->Prop}{F0 Cs:Nat->Prop}{w wr w':World}{B x:Nat}{a:Option Addr}{c:Nat}{mb:Option Nat}{P:Pn.cu}{m size:Int}{st:dW}
theorem fF.AY (U:vC Has SH)(h:fF Has SH F0 Cs w wr B x a c mb P m size st)(hl:0<=st.s.last):fF Has SH F0 Cs w (wr.setCell ⟨x,14,none⟩ (.map none)) B x a c none P m size ⟨st.es,st.s,[]⟩/\aO Cs wr (wr.setCell ⟨x,14,none⟩ (.map none)):=by
 have hr:=h.room;obtain⟨FV,h1,h2,h3,h4⟩:=h;have hx:=h1.pV.blk;have e:jC P []=[]:=by unfold jC;split<;>rfl
 have cs:aH (λk=>k=x) wr (wr.setCell ⟨x,14,none⟩ (.map none)):=(aH.refl _ _).setCell (A:=λk=>k=x) (p:=⟨x,14,none⟩) (.inl rfl) _;refine⟨⟨FV,h1.put U.H U.S (by rw[e];exact uH.none _) (λb hb=>(by cases hb)) (by rw[e];exact sH.nil) (by simpa using hl),iZ h2 cs (λi hi z=>?_),λk hk'=>?_,λk hk'=>?_⟩,cs.size,λk hk'=>?_⟩
 ·subst z;rcases h3 _ (.inl hx.1) with y|y
  ·exact y
  ·omega
 ·rcases hk' with z|z|z
  ·exact h3 k (.inl z)
  ·exact h3 k (.inr (.inl z))
  ·cases z
 ·have hc:=h4 k hk';refine⟨ajc hc.1 cs.size,λz=>?_⟩;rcases z with z|z|z
  ·exact hc.2 (.inl z)
  ·exact hc.2 (.inr (.inl z))
  ·cases z
 ·have hc:=h4 k hk';exact cs.block k hc.1 (λz=>hc.2 (.inl (z▸hx.1)))
theorem WX (U:vC Has SH)(h:fF Has SH F0 Cs w wr B x a c mb P m size st)(hf:Fit P m size st)(hB:B<=w.heap.size)(keep:Int) :
 Calls prog 23 #[.pointer (some ⟨x,0,none⟩),.int .i64 keep] wr λe w'=>e=.returned (.tuple #[])/\fF Has SH F0 Cs w w' B x a c none P m size ⟨st.es,st.s,[]⟩/\aO Cs wr w':=by
 have PC:=aj (h.did (es':=st.es) (s':=st.s) (amK _) (Q:=λe _=>e=.returned (.tuple #[])) (λ_ hv=>WQ U.H U.L U.S keep hv hf.rY hf.room hf.size (aje hB h.room)));have HL:=aj hf.rY.ok.last.1;clear h hf;go_enter func23,ntmps23;go_wp2_with fail;refine(ah PC).mono ?_;rintro e w1 ⟨rfl,r1,s1⟩;have c14:=r1.ids.1;have f14:=r1.ids.2;have hx:=r1.lt;have HE:=aj (show fF Has SH F0 Cs w (w1.setCell ⟨x,14,none⟩ (.map none)) B x a c none P m size ⟨st.es,st.s,[]⟩/\aO Cs wr (w1.setCell ⟨x,14,none⟩ (.map none)) from⟨(r1.AY U (ah HL)).1,s1.trans (r1.AY U (ah HL)).2⟩)
 clear PC r1 s1;go_wp2_with fail;go_end0
 exact⟨rfl,ah HE⟩
end
