/- A part. -/
import Derived.Test.YtebofkkfbkodiaaGreatDoorQ28
import Derived.Test.YtebofkkfbkodiaaGreatDoorQ39
set_option maxRecDepth 100000
set_option maxHeartbeats 8000000
namespace Go.Proofs.YtebofkkfbkodiaaGreatDoor
open Go.RowKit Go.Proofs.Tryz
namespace Dk
variable {now:Int}{y:Po}
structure Af (Has:I->Nat->Nat->af->Int->List aB->Prop)(SH:I->Nat->Nat->af->aH->Prop):Prop where
 H:More Has
 L:Eu Has (jH Has)
 S:eG SH
theorem acV (s:aH)(r:Rc):s.last<=(kV s r).last:=by
 unfold kV;by_cases h0:fF s r=0
 ·rw[if_neg (by rw[h0];simp)];by_cases h1:r.k=1
  ·rw[if_pos h1];show s.last<=r.q;unfold fF at h0;by_cases c1:iw r=0
   ·rw[if_neg (by rw[c1];simp),if_neg (by rw[h1];omega),if_neg (by rw[h1];simp)] at h0;by_cases c2:r.q<=s.last
    ·rw[if_pos c2] at h0;exact absurd h0 (by decide)
    ·omega
   ·rw[if_pos c1] at h0;exact absurd h0 c1
  ·rw[if_neg h1];split
   ·exact Int.le_max_left _ _
   ·exact amb _
 ·rw[if_pos h0];exact amb _
theorem afr (es:List aB)(s:aH)(m size:Int)(r:Rc):s.last<=(oV es s m size r).last:=by
 unfold oV;split
 ·exact acV s r
 ·exact amb _
def Ag (m size:Int)(st:Str)(r:Rc):Str:=⟨wM st.es st.s m size r,oV st.es st.s m size r,st.ids⟩
theorem Fit.did {P:Pn.aX}{m size:Int}{st:Str}(h:Fit P m size st)(r:Rc):Fit P m size (Ag m size st r):=⟨h.plan,h.vM.did r,h.room,h.size,h.Ig⟩
theorem qQ:noB.size<=140737488355328:=by decide
theorem JV {P:Pn.aX}(h:Pn.aZ P=0):∀k,k<P.f.length->aC true (tk P.f k)=0:=by
 obtain⟨_,_,_,h4,_,_⟩:=Pn.kU h;exact λk hk=>Pn.vI h4 _ (by unfold tk;rw[ajC hk];exact ako hk)
theorem QZ {P:Pn.aX}(h:Pn.aZ P=0)(k:Nat):nth P.v k<=nth Pn.fV k:=by
 obtain⟨_,_,_,_,_,h6⟩:=Pn.kU h;have key:∀(v ms:List Int) (k:Nat),(∀y∈ms,0<=y)->Pn.gY v ms=true->(v[k]?).getD 0<=(ms[k]?).getD 0:=by
  intro v;induction v with
  | nil =>
   intro ms k hp _
   cases hm:ms[k]? with
   | none=>simp
   | some y=>simpa using hp y (amP hm)
  | cons y v ih =>
   intro ms k hp hh
   cases ms with
   | nil=>simp[Pn.gY] at hh
   | cons z ms =>
    simp only[Pn.gY,ajN,ajG] at hh
    cases k with
    | zero=>simpa using hh.1.2
    | succ k=>simpa using ih ms k (λy hy=>hp y (ajS _ hy)) hh.2
 exact key P.v Pn.fV k (by decide) h6
section
variable {Has:I->Nat->Nat->af->Int->List aB->Prop}{SH:I->Nat->Nat->af->aH->Prop}{F0 Cs:af}{w wr:I}{B x:Nat}{a:Option Addr}{c:Nat}{mb:Option Nat}{P:Pn.aX}{m size:Int}{st:Str}
theorem iF (h:fM Has SH F0 Cs w wr B x a c mb P m size st) :
 Calls prog 34 #[ae x] wr λe w'=>∃q G,e=.returned (ae q)/\SH w' B q G st.s/\ai wr w':=by
 obtain⟨FV,hv⟩:=h.look;have P1:=aj (Gt hv);clear h hv;go_enter func34,ntmps34;go_wp2_with fail;refine(ah P1).mono ?_;rintro e w1 ⟨q,G,rfl,h1,_,b1⟩;have B1:=aj (And.intro h1 b1);clear P1 h1 b1;go_wp2_with fail;go_ret;exact⟨q,G,rfl,ah B1⟩
theorem fM.vdo (U:Af Has SH)(h:fM Has SH F0 Cs w wr B x a c mb P m size st)(hf:Fit P m size st)(hB:B<=w.heap.size)(r:Rc)(hr:Small r) :
 Calls prog 105 #[.pointer (some ⟨x,10,none⟩),.agg #[aa r.k,aa r.q,aa r.t,.string r.s,.string r.h,.string r.d]] wr λe w'=>e=.returned (aa (ji st.es st.s m size r))/\fM Has SH F0 Cs w w' B x a c mb P m size (Ag m size st r)/\gu Cs wr w' :=
 h.did (afr _ _ _ _ r) (Q:=λe _=>e=.returned (aa (ji st.es st.s m size r))) (λ_ hv=>afg U.H U.L U.S r hr hv hf.vM hf.room hf.size (ajA hB h.room))
theorem Gw (U:Af Has SH)(h:fM Has SH F0 Cs w wr B x a c mb P m size st)(hf:Fit P m size st)(hB:B<=w.heap.size)(now q:Int) :
 Calls prog 94 #[ae x,aa now,aa q] wr λe w'=>e=.returned (aa (ji st.es st.s m size (dF q now)))/\fM Has SH F0 Cs w w' B x a c mb P m size (Ag m size st (dF q now))/\gu Cs wr w':=by
 have PD:=aj (show Calls prog 105 #[.pointer (some ⟨x,10,none⟩),.agg #[aa 2,aa q,aa now,.string ⟨#[]⟩,.string ⟨#[]⟩,.string ⟨#[]⟩]] wr _ from h.vdo U hf hB (dF q now) ⟨qQ,qQ,qQ⟩);clear h hf;generalize ji st.es st.s m size (dF q now)=E at *;go_enter func94,ntmps94;go_wp2_with fail;refine(ah PD).mono ?_;rintro e w1 ⟨rfl,h1⟩;have B1:=aj h1;clear PD h1;go_wp2_with fail;go_ret;exact⟨rfl,ah B1⟩
theorem Gx (U:Af Has SH)(h:fM Has SH F0 Cs w wr B x a c mb P m size st)(hf:Fit P m size st)(hB:B<=w.heap.size)(now q:Int)(f:ad)(hs:f.size<=140737488355328) :
 Calls prog 148 #[ae x,aa now,.string f,aa q] wr λe w'=>e=.returned (aa (ji st.es st.s m size (mD q now f)))/\fM Has SH F0 Cs w w' B x a c mb P m size (Ag m size st (mD q now f))/\gu Cs wr w':=by
 have PD:=aj (show Calls prog 105 #[.pointer (some ⟨x,10,none⟩),.agg #[aa 3,aa q,aa now,.string f,.string ⟨#[]⟩,.string ⟨#[]⟩]] wr _ from h.vdo U hf hB (mD q now f) ⟨hs,qQ,qQ⟩);clear h hf;generalize ji st.es st.s m size (mD q now f)=E at *;go_enter func148,ntmps148;go_wp2_with fail;refine(ah PD).mono ?_;rintro e w1 ⟨rfl,h1⟩;have B1:=aj h1;clear PD h1;go_wp2_with fail;go_ret;exact⟨rfl,ah B1⟩
theorem oM (now:Int)(w:I) :
 Calls prog 93 #[aa now] w λe w'=>e=.returned (.bool (eX now 0 1099511627776))/\w'=w:=by
 by_cases h0:0<=now
 ·by_cases h1:now<=1099511627776
  ·have e:eX now 0 1099511627776=true:=by unfold eX;rw[ajH h0,ajH h1];rfl
   rw[e];go_enter func93,ntmps93;go_wp2_with fail;go_ret;exact⟨rfl,rfl⟩
  ·have e:eX now 0 1099511627776=false:=by unfold eX;rw[ajH h0,ajE h1];rfl
   have e1:decide (now<=1099511627776)=false:=ajE h1;rw[e];go_enter func93,ntmps93;go_wp2_with fail;go_ret;exact⟨rfl,rfl⟩
 ·have e:eX now 0 1099511627776=false:=by unfold eX;rw[ajE h0];rfl
  have e1:decide (0<=now)=false:=ajE h0;rw[e];go_enter func93,ntmps93;go_wp2_with fail;go_ret;exact⟨rfl,rfl⟩
theorem lS (y:Po)(hy:jm y)(w:I) :
 Calls prog 101 #[BU y] w λe w'=>e=.returned (aa (sO y:Nat))/\ai w w':=by
 have b0:ai w (w.alloc (jQ y)):=ax _ _;have hb:=vN.new w y;have h1:=hy.s;have h2:=hy.h;have h3:=hy.d;have B0:=aj b0;obtain⟨_,c0,c1,c2,c3,c4,c5⟩:=hb;clear hy b0;go_enter func101,ntmps101;go_wp2_with fail;go_ret;exact⟨by unfold sO;congr 2<;>omega,ah B0⟩
theorem Q5 (hpl:Pn.aZ P=0)(h:YO w x P a c)(y:Po)(hy:jm y) :
 Calls prog 99 #[ae x,BU y] w λe w'=>e=.returned (.bool (decide (256<y.h.size+y.d.size)||((decide (pv P 4≠0)&&decide (pv P 4<((y.h.size+y.d.size:Nat):Int)))||decide (16<y.i.size))))/\ai w w':=by
 have b0:ai w (w.alloc (jQ y)):=ax _ _;have hb:=vN.new w y;have h2:=hy.h;have h3:=hy.d;have h4:=hy.i;have d6:=(h.next b0).c6;have hlt:=h.lt;have hmax:nth P.v 4<=256:=QZ hpl 4;have B0:=aj b0;obtain⟨_,c0,c1,c2,c3,c4,c5⟩:=hb;unfold pv;generalize nth P.v 4=M at *;clear hy h b0 hpl;have key:∀most:Int,(most=256/\M=0\/most=M/\M≠0)->(decide (256<y.h.size+y.d.size)||((decide (M≠0)&&decide (M<((y.h.size+y.d.size:Nat):Int)))||decide (16<y.i.size)))=(decide (most<((y.h.size:Int)+(y.d.size:Int)))||decide ((16:Int)<(y.i.size:Int))):=by
  intro most hm;rw[akK];simp only[ali,ajN,ajG];omega
 by_cases e0:M=0
 ·rw[key 256 (.inl ⟨rfl,e0⟩)];clear key;subst e0;by_cases g1:(256:Int)<(y.h.size:Int)+(y.d.size:Int)
  ·rw[ajH g1];go_enter func99,ntmps99;go_wp2_with fail;go_ret;exact⟨rfl,ah B0⟩
  ·have g2:decide ((256:Int)<(y.h.size:Int)+(y.d.size:Int))=false:=ajE g1;rw[g2];go_enter func99,ntmps99;go_wp2_with fail;go_ret;exact⟨rfl,ah B0⟩
 ·rw[key M (.inr ⟨rfl,e0⟩)];clear key;have e1:(M !=0)=true:=by simpa using e0
  by_cases g1:M<(y.h.size:Int)+(y.d.size:Int)
  ·rw[ajH g1];go_enter func99,ntmps99;go_wp2_with fail;go_ret;exact⟨rfl,ah B0⟩
  ·have g2:decide (M<(y.h.size:Int)+(y.d.size:Int))=false:=ajE g1;rw[g2];go_enter func99,ntmps99;go_wp2_with fail;go_ret;exact⟨rfl,ah B0⟩
theorem Gy (hpl:Pn.aZ P=0)(hsm:gI P)(h:YO w x P a c)(hsl:gU w a P.f)(s:ad)(hs:s.size<=140737488355328)(hok:aC false s=0) :
 Calls prog 55 #[ae x,.string s] w λe w'=>e=.returned (.bool (bV P s))/\ai w w':=by
 have HS:=aj hsl;have HM:=aj (λ(W:I) (k:Nat) (hk:k<P.f.length)=>Ot (f:=tk P.f k) (s:=s) (a:=ng (tk P.f k) s) (x:=0) (by unfold aN ng;rw[JV hpl k hk,hok];simp) (by rw[JV hpl k hk,hok];rfl) (hsm.each k hk) hs W);have hl:=hsm.many;have c1:=h.c1;clear hsl hpl hsm hok h;go_enter func55,ntmps55;go_wp2_with fail;go_loopw [15] (λiv wr=>∃(k:Nat),iv=aa k/\k<=P.f.length/\Hid (bV P s=(P.f.drop k).any λf=>ng f s)/\Hid (ai w wr)) (λiv _=>P.f.length-(intOf iv).toNat)
 case atStart=>exact⟨0,rfl,ajO _,aj rfl,aj (agP _ _)⟩
 case round =>
  obtain⟨k,rfl,hk,HT,HB⟩:=hrel;by_cases hlt:k<P.f.length
  ·obtain⟨b,o,rfl,hb,hcell⟩:=ah HS k hlt;have hc2:=((ah HB).cell (p:=aq b (o+k)) hb).trans hcell;have PM:=aj (ah HM wr k hlt);have ht:=ah HT;rw[Pn.aa8 hlt] at ht;obtain⟨v,hv⟩:∃v,ng (tk P.f k) s=v:=⟨_,rfl⟩;rw[hv] at PM ht;generalize tk P.f k=t at *;clear hcell HT hv
   cases v with
   | true =>
    have HE:=aj (show bV P s=true from by rw[ht];rfl);clear ht;go_wp2_with fail;refine(ah PM).mono ?_;rintro e w1 ⟨rfl,b1⟩;have B1:=aj (ak (ah HB) b1);clear PM b1;go_wp2_with fail;go_ret;rw[ah HE];exact⟨rfl,ah B1⟩
   | false =>
    have HE:=aj (show bV P s=(P.f.drop (k+1)).any λf=>ng f s from by rw[ht];rfl);clear ht;go_wp2_with fail;refine(ah PM).mono ?_;rintro e w1 ⟨rfl,b1⟩;have B1:=aj (ak (ah HB) b1);clear PM b1;go_wp2_with fail;refine⟨⟨k+1,by go_num,by omega,HE,B1⟩,?_⟩;simp[intOf];omega
  ·obtain rfl:k=P.f.length:=by omega
   have HE:=aj (show bV P s=false from by rw[ah HT,amk];rfl);clear HT;go_wp2_with fail;go_ret;rw[ah HE];exact⟨rfl,ah HB⟩
end
def knB (o:Option Kn)(f:Int):Bool:=match o with
 | none=>false
 | some k=>decide (f<=k.a)
theorem acW {P:Pn.aX}{ids:List Kn}(h:sD (jA P ids))(hq:∀k∈ids,1<=k.q):oG P now y ids=knB (kZ (jA P ids) y.i) (now-pv P 7)/\(oG P now y ids=true->pK ids y.i (now-pv P 7)=knQ (kZ (jA P ids) y.i) (now-pv P 7)):=by
 unfold oG;by_cases hW:pv P 7=0
 ·have e:jA P ids=[]:=by unfold jA;rw[if_pos hW]
  rw[e,ajE (p:=pv P 7≠0) (by simpa using hW)];simp[kZ,knB]
 ·have e:jA P ids=ids:=by unfold jA;rw[if_neg hW]
  rw[e] at h ⊢;rw[ajH (p:=pv P 7≠0) hW,akz];have hs:=h.seen y.i (now-pv P 7);refine⟨?_,λ_=>hs⟩
  cases hl:kZ ids y.i with
  | none =>
   rw[hl] at hs;rw[hs];simp[knQ,knB]
  | some k =>
   obtain⟨hm,hi⟩:=JD hl;have h1:=hq k hm;have h2:=h.some' k hm;rw[hi] at h2;rw[hl] at hs;rw[hs,ajH (p:=y.i.size≠0) h2,akz];by_cases c:now-pv P 7<=k.a
   ·have e1:knQ (some k) (now-pv P 7)=k.q:=if_pos c;have e2:knB (some k) (now-pv P 7)=true:=ajH c;rw[e1,e2];exact ajH (by omega)
   ·have e1:knQ (some k) (now-pv P 7)=0:=if_neg c;have e2:knB (some k) (now-pv P 7)=false:=ajE c;rw[e1,e2];rfl
section
variable {Has:I->Nat->Nat->af->Int->List aB->Prop}{SH:I->Nat->Nat->af->aH->Prop}{F0 Cs:af}{w wr:I}{B x:Nat}{a:Option Addr}{c:Nat}{mb:Option Nat}{P:Pn.aX}{m size:Int}{st:Str}
theorem fM.map (h:fM Has SH F0 Cs w wr B x a c mb P m size st):sS wr mb (jA P st.ids)/\sD (jA P st.ids):=by
 obtain⟨_,h1,_⟩:=h;exact⟨h1.map,h1.lasts⟩
theorem Q7 (h:fM Has SH F0 Cs w wr B x a c mb P m size st)(hf:Fit P m size st)(now:Int)(hn:0<=now/\now<=1099511627776)(i:ad)(hi:i.size<=140737488355328) :
 Calls prog 59 #[ae x,aa now,.string i] wr λe w'=>e=.returned (.tuple #[aa (knQ (kZ (jA P st.ids) i) (now-pv P 7)),.bool (knB (kZ (jA P st.ids) i) (now-pv P 7))])/\ai wr w':=by
 obtain⟨q,t,b,hrun,hb0,hb1⟩:=h.map.1.look i (by unfold maxLen;omega);have c14:=h.ids.1;have c9:=h.plan.c9;have hlt:=h.plan.lt;have hW0:0<=nth P.v 7:=(LC hf.plan).pos 7;have hW1:nth P.v 7<=100000:=QZ hf.plan 7;have bb:ai wr (wr.alloc (.cells #[aa q,aa t] 179)):=ax _ _;have c9b:=(bb.cell (p:=aq x 9) hlt).trans c9;have B0:=aj bb;have B1:=aj (λn=>below_drewN bb n);unfold pv;generalize nth P.v 7=W at *
 cases b with
 | false =>
  rw[hb0 rfl];clear h hf hb0 hb1 bb;go_enter func59,ntmps59;go_wp2_with fail;go_quiet (fail)
  go_wp2_with fail;go_ret2;exact⟨rfl,ah B1 _⟩
 | true =>
  obtain⟨k,hk,hq,ht⟩:=hb1 rfl;rw[hk];clear h hf hb0 hb1 bb;by_cases g:t<now-W
  ·have e:knQ (some k) (now-W)=0/\knB (some k) (now-W)=false:=by
    rw[<-ht] at g;exact⟨if_neg (by omega),ajE (by omega)⟩
   rw[e.1,e.2];clear e hk hq ht;go_enter func59,ntmps59;go_wp2_with fail;go_quiet (fail)
   go_wp2_with fail;go_ret2;exact⟨rfl,ah B1 _⟩
  ·have e:knQ (some k) (now-W)=q/\knB (some k) (now-W)=true:=by
    rw[<-ht] at g;exact⟨(if_pos (by omega):knQ (some k) (now-W)=k.q).trans hq,ajH (by omega)⟩
   have g2:decide (t<now-W)=false:=ajE g;rw[e.1,e.2];clear e hk hq ht;go_enter func59,ntmps59;go_wp2_with fail;go_quiet (fail)
   go_wp2_with fail;go_ret2;exact⟨rfl,ah B1 _⟩
end
def xY (ids:List Kn)(i:ad)(now q:Int):List Kn:=if i.size=0 then ids else ids++[⟨i,now,q⟩]
section
variable {Has:I->Nat->Nat->af->Int->List aB->Prop}{SH:I->Nat->Nat->af->aH->Prop}{F0 Cs:af}{w wr w':I}{B x:Nat}{a:Option Addr}{c:Nat}{mb:Option Nat}{P:Pn.aX}{m size:Int}{st:Str}{wE:List Kn}
theorem fM.free (h:fM Has SH F0 Cs w wr B x a c mb P m size st)(hm:jA P wE=jA P st.ids)(hf:(wE.length:Int)<=st.s.last):fM Has SH F0 Cs w wr B x a c mb P m size ⟨st.es,st.s,wE⟩:=by
 obtain⟨FV,h1,h2,h3,h4⟩:=h;exact⟨FV,⟨h1.pW,h1.plan,h1.ids,h1.row,h1.rowB,h1.cap,by rw[hm];exact h1.map,h1.wC,by rw[hm];exact h1.lasts,hf,h1.small⟩,h2,h3,h4⟩
theorem fM.makes (U:Af Has SH)(h:fM Has SH F0 Cs w wr B x a c .none P m size st)(hB:B<=w.heap.size){W1:I}(hW:W1=wr.alloc (.map #[] 0)):fM Has SH F0 Cs w (W1.setCell (aq x 14) (.map (some wr.heap.size))) B x a c (some wr.heap.size) P m size st/\gu Cs wr (W1.setCell (aq x 14) (.map (some wr.heap.size))):=by
 have hr:=h.room;have bb:ai wr W1:=by rw[hW];exact ax _ _
 have hsz:W1.heap.size=wr.heap.size+1:=by rw[hW];simp
 obtain⟨FV,h1,h2,h3,h4⟩:=h;have hx:=h1.pW.blk;have he:jA P st.ids=[]:=by
  rcases h1.map with ⟨_,e⟩|⟨b,D,e,_⟩
  ·exact e
  ·cases e
 have hk:sS W1 (some wr.heap.size) (jA P st.ids):=by rw[he,hW];exact sS.made wr
 have hw1:=h1.below U.H U.S bb;have hno:¬FV wr.heap.size:=λz=>by have:=(h1.pW.own U.H U.S _ z).2;omega
 have cs:aA (λk=>k=x) W1 (W1.setCell (aq x 14) (.map (some wr.heap.size))):=(aA.refl _ _).setCell (A:=λk=>k=x) (p:=aq x 14) (.inl rfl) _;refine⟨⟨FV,hw1.put U.H U.S hk (λb hb=>?_) h1.lasts h1.few,kP (h2.trans (aA.of_below bb)) cs (λi hi z=>?_),λk hk'=>?_,λk hk'=>?_⟩,ajA bb.size cs.size,λk hk'=>?_⟩
 ·cases hb
  exact⟨ajA hB hr,by omega,hno,λz hz e=>by have:=(h1.rowB z hz).2.1;omega⟩
 ·subst z;rcases h3 _ (.inl hx.1) with y|y
  ·exact y
  ·omega
 ·rcases hk' with z|z|z
  ·exact h3 k (.inl z)
  ·exact h3 k (.inr (.inl z))
  ·cases z;exact .inr hr
 ·have hc:=h4 k hk';refine⟨ajz hc.1 (ajA bb.size cs.size),λz=>?_⟩;rcases z with z|z|z
  ·exact hc.2 (.inl z)
  ·exact hc.2 (.inr (.inl z))
  ·cases z;exact absurd hc.1 (Nat.lt_irrefl _)
 ·have hc:=h4 k hk';rw[cs.block k (ajz hc.1 bb.size) (λz=>hc.2 (.inl (z▸hx.1)))];exact bb.block k hc.1
theorem fM.keeps {b:Nat}(h:fM Has SH F0 Cs w wr B x a c (some b) P m size st)(U:Af Has SH)(hl:(jA P st.ids).length<maxLen)(i:ad)(hi:i.size<=maxLen)(q t:Int)(hm:jA P wE=jA P st.ids++[⟨i,t,q⟩])(hL:sD (jA P wE))(hf:(wE.length:Int)<=st.s.last) :
 ∃w',(Instr.mapUpdate 133 (.map (some b)) (.string i) (.agg #[aa q,aa t])).run prog wr=.ok () w'/\fM Has SH F0 Cs w w' B x a c (some b) P m size ⟨st.es,st.s,wE⟩/\gu Cs wr w':=by
 have hr:=h.room;obtain⟨FV,h1,h2,h3,h4⟩:=h;obtain⟨w',hrun,hk,hc⟩:=h1.map.store hl i hi q t;have hb:=h1.wC b rfl;obtain⟨hx,_,hxl,_⟩:=h1.pW.blk;have hxb:¬x=b:=λz=>hb.2.2.1 (z▸hx)
 have e:∀j,w'.cell? (aq x j)=wr.cell? (aq x j):=λj=>hc.cell (p:=aq x j) hxl hxb
 refine⟨w',hrun,⟨FV,⟨h1.pW.aF U.H U.S hc (λk hk z=>hb.2.2.1 (z▸hk)),DW h1.plan hc.size (λj _=>e j),(e 14).trans h1.ids,DX h1.row hc (λz hz y=>hb.2.2.2 z hz y),λz hz=>⟨(h1.rowB z hz).1,ajz (h1.rowB z hz).2.1 hc.size,(h1.rowB z hz).2.2⟩,h1.cap,by rw[hm];exact hk,λb' hb'=>⟨(h1.wC b' hb').1,ajz (h1.wC b' hb').2.1 hc.size,(h1.wC b' hb').2.2⟩,hL,hf,h1.small⟩,kP h2 hc (λj hj z=>?_),h3,λk hk'=>⟨ajz (h4 k hk').1 hc.size,(h4 k hk').2⟩⟩,hc.size,λk hk'=>hc.block k (h4 k hk').1 (λz=>(h4 k hk').2 (.inr (.inr (by rw[z]))))⟩
 subst z;rcases h3 _ (.inr (.inr rfl)) with y|y
 ·exact y
 ·omega
end
theorem acX (w:I):(binOp .eql 133 (.map none) (.map none)).run prog w=.ok (.bool true) w:=by kernel_rfl
theorem Zn (b:Nat)(w:I):(binOp .eql 133 (.map (some b)) (.map none)).run prog w=.ok (.bool false) w:=by kernel_rfl
section
variable {Has:I->Nat->Nat->af->Int->List aB->Prop}{SH:I->Nat->Nat->af->aH->Prop}{F0 Cs:af}{w wr w':I}{B x:Nat}{a:Option Addr}{c:Nat}{mb:Option Nat}{P:Pn.aX}{m size:Int}{st:Str}{wE:List Kn}
theorem acY (U:Af Has SH)(h:fM Has SH F0 Cs w wr B x a c mb P m size st)(hf:Fit P m size st)(hB:B<=w.heap.size)(i:ad)(hi:i.size<=140737488355328)(q now:Int)(hno:i.size≠0->pv P 7≠0->¬0<pK st.ids i (now-pv P 7))(hfew:(st.ids.length:Int)+1<=st.s.last) :
 Calls prog 106 #[ae x,.string i,.agg #[aa q,aa now]] wr λe w'=>e=.returned (.tuple #[])/\(∃mb',fM Has SH F0 Cs w w' B x a c mb' P m size ⟨st.es,st.s,xY st.ids i now q⟩)/\gu Cs wr w':=by
 have b0:ai wr (wr.alloc (.cells #[aa q,aa now] 179)):=ax _ _;have hx:=h.lt;have c9:=h.plan.c9;by_cases h0:i.size=0
 ·have e:xY st.ids i now q=st.ids:=by unfold xY;rw[if_pos h0]
  have hi0:i=⟨#[]⟩:=by
   apply ama;exact Array.eq_empty_of_size_eq_zero h0
  have HE:=aj (And.intro (show ∃mb',fM Has SH F0 Cs w (wr.alloc (.cells #[aa q,aa now] 179)) B x a c mb' P m size ⟨st.es,st.s,xY st.ids i now q⟩ from⟨mb,by rw[e];exact h.below U.H U.S b0⟩) (h.stay b0));rw[hi0] at HE ⊢;clear h hf hno hfew b0 e hi0 h0;go_enter func106,ntmps106;go_wp2_with fail;(try simp only[Exit.inBlock,Exit.then])
  refine ajY (amo rfl _ _ _) rfl ?_;exact⟨rfl,ah HE⟩
 ·have e:xY st.ids i now q=st.ids++[⟨i,now,q⟩]:=by unfold xY;rw[if_neg h0]
  have hlen:((xY st.ids i now q).length:Int)<=st.s.last:=by rw[e,ajB];simpa using hfew
  have hne:¬i.toList=[]:=by rw[FK];exact h0
  have hne1:(!i.toList.isEmpty)=true:=by rw[xQ,ajE h0];rfl
  have hne2:i.toList.isEmpty=false:=by rw[xQ,ajE h0]
  by_cases hW:pv P 7=0
  ·have HE:=aj (And.intro (show ∃mb',fM Has SH F0 Cs w (wr.alloc (.cells #[aa q,aa now] 179)) B x a c mb' P m size ⟨st.es,st.s,xY st.ids i now q⟩ from⟨mb,(h.below U.H U.S b0).free (by unfold jA;rw[if_pos hW,if_pos hW]) hlen⟩) (h.stay b0));have hW2:nth P.v 7=0:=hW;rw[hW2] at c9;clear h hf hno hfew b0 e h0 hlen hW hW2;go_enter func106,ntmps106;go_wp2_with fail;(try simp only[Exit.inBlock,Exit.then])
   refine ajY (amo rfl _ _ _) rfl ?_;exact⟨rfl,ah HE⟩
  ·have hm:jA P (xY st.ids i now q)=jA P st.ids++[⟨i,now,q⟩]:=by rw[e];unfold jA;rw[if_neg hW,if_neg hW]
   have hms:jA P st.ids=st.ids:=by unfold jA;rw[if_neg hW]
   have hL:sD (jA P (xY st.ids i now q)):=by
    have h1:=h.map.2;rw[hm,hms];rw[hms] at h1;exact h1.more hf.Ig h0 ((LC hf.plan).pos 7) (hno h0 hW)
   have hlen2:(jA P st.ids).length<maxLen:=by
    have:=hf.vM.ok.last.2;rw[hms];unfold maxLen;omega
   have hW2:(nth P.v 7==0)=false:=by rw[ajM];exact hW
   have hW3:decide (nth P.v 7=0)=false:=ajE hW;have hi2:i.size<=maxLen:=by unfold maxLen;omega
   have PC:Hid (∀X,Calls prog 108 #[.string i] X λe w'=>e=.returned (.string i)/\ai X w'):=aj (λX=>clone_any i X (by omega))
   cases mb with
   | some b =>
    have c14:=h.ids.1;have hS:=aj (λ(W:I) (hb:ai wr W)=>show W.cell? (aq x 14)=some (.map (some b))/\∃w',(Instr.mapUpdate 133 (.map (some b)) (.string i) (.agg #[aa q,aa now])).run prog W=.ok () w'/\(∃mb',fM Has SH F0 Cs w w' B x a c mb' P m size ⟨st.es,st.s,xY st.ids i now q⟩)/\gu Cs wr w' from by
     have r1:=h.below U.H U.S hb;obtain⟨w',k1,k2,k3⟩:=r1.keeps U hlen2 i hi2 q now hm hL hlen;exact⟨r1.ids.1,w',k1,⟨_,k2⟩,(h.stay hb).trans k3⟩)
    have B0:=aj b0;have hq:=λW=>Zn b W
    have d0:∀W,Below (wr.alloc (.cells #[aa q,aa now] 179)).heap.size (wr.alloc (.cells #[aa q,aa now] 179)) W->W.cell? (aq wr.heap.size 0)=some (aa q)/\W.cell? (aq wr.heap.size 1)=some (aa now):=λW hW=>⟨(hW.cell (p:=aq wr.heap.size 0) (by simp)).trans (by simp),(hW.cell (p:=aq wr.heap.size 1) (by simp)).trans (by simp)⟩
    have D0:=aj d0;clear h hf hno hfew b0 e h0 hlen hW hm hms hL hlen2 d0;go_enter func106,ntmps106;go_wp2_with fail;go_region_with (go_at_call 108;refine(ah PC _).mono ?_;rintro e w1 ⟨rfl,b1⟩;obtain⟨g0,g1⟩:=ah D0 w1 ((agP _ _).drew.trans b1);obtain⟨g2,w2,hrun,hfin,hst⟩:=ah hS w1 (ak (ah B0).drew b1))
    all_goals (
     go_wp2_with fail
     go_end0
     exact⟨rfl,hfin,hst⟩)
   | none =>
    have c14:=h.ids.1;have f14:=h.ids.2;have r0:=h.below U.H U.S b0;obtain⟨r1,s1⟩:=r0.makes U hB rfl;have hsz:(wr.alloc (.cells #[aa q,aa now] 179)).heap.size=wr.heap.size+1:=by simp
    have hWe:(((wr.alloc (.cells #[aa q,aa now] 179)).alloc (.map #[] 0)).setCell (aq x 14) (.map (some (wr.alloc (.cells #[aa q,aa now] 179)).heap.size)))=(((wr.setCell (aq x 14) (.map (some (wr.heap.size+1)))).alloc (.cells #[aa q,aa now] 179)).alloc (.map #[] 0)):=by
     rw[hsz,alT _ _ _ _ (by rw[hsz];omega),alT _ _ _ _ hx]
    rw[hWe,hsz] at r1;rw[hWe] at s1;obtain⟨W1,hW1⟩:∃W1,W1=(((wr.setCell (aq x 14) (.map (some (wr.heap.size+1)))).alloc (.cells #[aa q,aa now] 179)).alloc (.map #[] 0)):=⟨_,rfl⟩;have q0:W1.cell? (aq wr.heap.size 0)=some (aa q)/\W1.cell? (aq wr.heap.size 1)=some (aa now)/\wr.heap.size<W1.heap.size:=by
     rw[hW1];refine⟨?_,?_,?_⟩
     ·rw[alO _ _ _ (by simp[World.setCell]),World.cell?_alloc_at _ _ _ _ (by simp[World.setCell])];rfl
     ·rw[alO _ _ _ (by simp[World.setCell]),World.cell?_alloc_at _ _ _ _ (by simp[World.setCell])];rfl
     ·simp[World.setCell];omega
    rw[<-hW1] at r1 s1;have hS:=aj (λ(W:I) (hb:ai W1 W)=>show W.cell? (aq x 14)=some (.map (some (wr.heap.size+1)))/\∃w',(Instr.mapUpdate 133 (.map (some (wr.heap.size+1))) (.string i) (.agg #[aa q,aa now])).run prog W=.ok () w'/\(∃mb',fM Has SH F0 Cs w w' B x a c mb' P m size ⟨st.es,st.s,xY st.ids i now q⟩)/\gu Cs wr w' from by
     have r2:=r1.below U.H U.S hb;obtain⟨w',k1,k2,k3⟩:=r2.keeps U hlen2 i hi2 q now hm hL hlen;exact⟨r2.ids.1,w',k1,⟨_,k2⟩,((h.stay b0).trans s1).trans ((r1.stay hb).trans k3)⟩)
    have hq:=λW=>acX W
    have hmm:=@run_makeMap prog;have D0:=aj (λ(W:I) (hW:ai W1 W)=>show W.cell? (aq wr.heap.size 0)=some (aa q)/\W.cell? (aq wr.heap.size 1)=some (aa now) from⟨(hW.cell (p:=aq wr.heap.size 0) q0.2.2).trans q0.1,(hW.cell (p:=aq wr.heap.size 1) q0.2.2).trans q0.2.1⟩);have c15:=r1.ids.1;have hx1:=r1.lt;obtain⟨q1,q2,q3⟩:=q0;clear h hf hno hfew b0 e h0 hlen hW hm hms hL hlen2 r0 r1 s1 hsz hWe;go_enter func106,ntmps106;go_wp2_with fail;rw[<-hW1];clear hW1;go_region_with (go_at_call 108;refine(ah PC _).mono ?_;rintro e w1 ⟨rfl,b1⟩;obtain⟨g0,g1⟩:=ah D0 w1 ((agP _ _).drew.trans b1);obtain⟨g2,w2,hrun,hfin,hst⟩:=ah hS w1 ((agP _ _).drew.trans b1))
    all_goals (
     go_wp2_with fail
     go_end0
     exact⟨rfl,hfin,hst⟩)
end
theorem acZ {f:ad}(hf:aC true f=0)(o:Option Rc):∃(y:Rc) (E:Int),jk f o=.tuple #[.agg #[aa y.k,aa y.q,aa y.t,.string y.s,.string y.h,.string y.d],aa E]/\y.q=(o.map (·.q)).getD 0:=by
 unfold jk;rw[if_pos hf]
 cases o with
 | none=>exact⟨eU,_,rfl,rfl⟩
 | some r=>exact⟨r,_,rfl,rfl⟩
section
variable {Has:I->Nat->Nat->af->Int->List aB->Prop}{SH:I->Nat->Nat->af->aH->Prop}{F0 Cs:af}{w wr:I}{B x:Nat}{a:Option Addr}{c:Nat}{mb:Option Nat}{P:Pn.aX}{m size:Int}{st:Str}
theorem Gz (U:Af Has SH)(V:jF SH)(h:fM Has SH F0 Cs w wr B x a c mb P m size st)(hf:Fit P m size st)(hB:B<=w.heap.size)(now:Int)(f:ad)(hs:f.size<=140737488355328)(hok:aC true f=0) :
 Calls prog 104 #[ae x,aa now,.string f] wr λe w'=>e=.returned (aa (ji st.es st.s m size (dF (nxQ f st.s.l) now)))/\fM Has SH F0 Cs w w' B x a c mb P m size (Ag m size st (dF (nxQ f st.s.l) now))/\gu Cs wr w':=by
 have hk:=hf.vM.ok;have hBr:=ajA hB h.room;have P1:=aj (iF h);obtain⟨y,E,hy,hq⟩:=acZ hok (aV f st.s.l 0);have P2:=aj (λ(W:I) (q:Nat) (G:af) (hS:SH W B q G st.s) (hW:B<=W.heap.size)=>V.next f 0 hs hS hk hW);have hq2:nxQ f st.s.l=y.q:=hq.symm;rw[hy] at P2;rw[hq2];have HE:=aj (λ(W:I) (hW:ai wr W)=>show Calls prog 94 #[ae x,aa now,aa y.q] W λe w'=>e=.returned (aa (ji st.es st.s m size (dF y.q now)))/\fM Has SH F0 Cs w w' B x a c mb P m size (Ag m size st (dF y.q now))/\gu Cs wr w' from(Gw U (h.below U.H U.S hW) hf hB now y.q).mono (λ_ _ z=>⟨z.1,z.2.1,(h.stay hW).trans z.2.2⟩))
 generalize ji st.es st.s m size (dF y.q now)=D at *;generalize Ag m size st (dF y.q now)=st' at *;clear h hf hk hy hq hq2;go_enter func104,ntmps104;go_wp2_with fail;refine(ah P1).mono ?_;rintro e w1 ⟨q,G,rfl,h1,b1⟩;have P3:=aj (ah P2 w1 q G h1 (ajA hBr b1.size));have B1:=aj b1;clear P1 P2 h1 b1;go_wp2_with fail;refine(ah P3).mono ?_;rintro e w2 ⟨rfl,b2⟩;have bA:ai w2 (w2.alloc (.cells #[aa y.k,aa y.q,aa y.t,.string y.s,.string y.h,.string y.d] 46)):=ax _ _;have PE:=aj (ah HE _ (ak (ak (ah B1) b2) bA))
 clear P3 b2 B1 bA HE;go_wp2_with fail;refine(ah PE).mono ?_;rintro e w3 ⟨rfl,h3⟩;have B3:=aj h3;clear PE h3;go_wp2_with fail;go_ret;exact⟨rfl,ah B3⟩
end
section
variable {w:I}{x:Nat}{a:Option Addr}{c:Nat}{P:Pn.aX}
theorem Xc (h:¬(eX now 0 1099511627776=true/\-1<=y.x/\0<=y.ro/\y.ro<=2)):sN P now y=1:=by
 unfold sN;rw[if_pos]
 cases h1:eX now 0 1099511627776 with
 | false=>rfl
 | true =>
  rw[h1] at h;simp only[ane,eX,akz] at h ⊢;rw[amL];simp only[ne_eq,ajN,ajG];omega
theorem Q8 (h:eX now 0 1099511627776=true/\-1<=y.x/\0<=y.ro/\y.ro<=2):sN P now y=if aC false y.s≠0 then aC false y.s
 else if bV P y.s=false then 10
 else if (decide (256<y.h.size+y.d.size)||((decide (pv P 4≠0)&&decide (pv P 4<((y.h.size+y.d.size:Nat):Int)))||decide (16<y.i.size)))=true then 2
 else 0:=by
 unfold sN
 rw[if_neg]
 rw[h.1]
 simp only[eX,akz]
 rw[Bool.not_eq_false]
 simp only[ajN,ajG]
 omega
theorem Iq (hpl:Pn.aZ P=0)(hsm:gI P)(h:YO w x P a c)(hsl:gU w a P.f)(now:Int)(y:Po)(hy:jm y) :
 Calls prog 58 #[ae x,aa now,BU y] w λe w'=>e=.returned (aa (sN P now y))/\ai w w':=by
 have b0:ai w (w.alloc (jQ y)):=ax _ _;have hb:=vN.new w y;have B0:=aj b0;have d4:=hb.c4;have d5:=hb.c5;by_cases hg:eX now 0 1099511627776=true/\-1<=y.x/\0<=y.ro/\y.ro<=2
 ·obtain⟨g1,g2,g3,g4⟩:=id hg;have HI:=aj g1;have k1:decide (y.x < -1)=false:=ajE (by omega);have k2:decide (y.ro<0)=false:=ajE (by omega);have k3:decide (2<y.ro)=false:=ajE (by omega);have d0:=hb.c0;have PS:=aj (dQ y.s (w.alloc (jQ y)) hy.s);have MO:=aj (Q8 (P:=P) hg);have PT:=aj (λ(W:I) (hW:Below (w.alloc (jQ y)).heap.size (w.alloc (jQ y)) W) (hok:aC false y.s=0)=>Gy hpl hsm ((h.next b0).next hW) ((hsl.next b0).next hW) y.s hy.s hok);have PL:=aj (λ(W:I) (hW:Below (w.alloc (jQ y)).heap.size (w.alloc (jQ y)) W)=>Q5 hpl ((h.next b0).next hW) y hy)
  have HC:=aj (λ(W:I) (hW:Below (w.alloc (jQ y)).heap.size (w.alloc (jQ y)) W)=>hb.below hW);have HBe:=aj (λ(W:I) (hW:Below (w.alloc (jQ y)).heap.size (w.alloc (jQ y)) W)=>ak b0 hW);obtain⟨E,hE⟩:∃E,aC false y.s=E:=⟨_,rfl⟩;rw[hE] at PS MO PT;clear hg g1 g2 g3 g4 hb h hsl hpl hsm hy b0 hE;go_enter func58,ntmps58;go_wp2_with (go_at_call 93;refine(oM _ _).mono ?_;rintro e w1 ⟨rfl,rfl⟩;rw[ah HI]);refine(ah PS).mono ?_;rintro e w1 ⟨rfl,b1⟩;by_cases h0:E=0
  ·have d0:=(ah HC w1 b1).c0;have PT1:=aj (ah PT w1 b1 h0);obtain⟨T,hT⟩:∃T,bV P y.s=T:=⟨_,rfl⟩;rw[hT] at PT1;have HT:=aj hT;have B1:=aj b1;have GH:=ah MO;rw[if_neg (by rw[h0];simp),hT] at GH;have JW:=aj GH;subst h0;clear PS PT b1 hT GH MO d4 d5;go_wp2_with fail;refine(ah PT1).mono ?_;rintro e w2 ⟨rfl,b2⟩;have B2:=aj (ak (ah B1) b2);clear PT1 b2
   cases T with
   | false =>
    have zU:=aj (ah JW);rw[if_pos rfl] at zU;clear JW;go_wp2_with fail;go_ret;rw[ah zU];exact⟨rfl,ah HBe _ (ah B2)⟩
   | true =>
    have zU:=aj (ah JW);rw[if_neg (by simp)] at zU;have PL2:=aj (ah PL w2 (ah B2));obtain⟨V,hV⟩:∃V,(decide (256<y.h.size+y.d.size)||((decide (pv P 4≠0)&&decide (pv P 4<((y.h.size+y.d.size:Nat):Int)))||decide (16<y.i.size)))=V:=⟨_,rfl⟩;rw[hV] at zU PL2;obtain⟨_,f0,f1,f2,f3,f4,f5⟩:=ah HC w2 (ah B2);clear JW PL hV;go_wp2_with fail;refine(ah PL2).mono ?_;rintro e w3 ⟨rfl,b3⟩;have B3:=aj (ak (ah B2) b3);clear PL2 b3 f0 f1 f2 f3 f4 f5
    cases V with
    | true =>
     rw[if_pos rfl] at zU;go_wp2_with fail;go_ret;rw[ah zU];exact⟨rfl,ah HBe _ (ah B3)⟩
    | false =>
     rw[if_neg (by simp)] at zU;go_wp2_with fail;go_ret;rw[ah zU];exact⟨rfl,ah HBe _ (ah B3)⟩
  ·have e5:(E !=0)=true:=by simpa using h0
   have GH:=ah MO;rw[if_pos h0] at GH;have JW:=aj GH;have B1:=aj b1;clear PS PT b1 GH MO d4 d5;go_wp2_with fail;go_ret;rw[ah JW];exact⟨rfl,ah HBe _ (ah B1)⟩
 ·rw[Xc hg];clear hb h hsl hpl hsm hy b0
  cases hI:eX now 0 1099511627776 with
  | false =>
   have HI:=aj hI;clear hI hg;go_enter func58,ntmps58;go_wp2_with (go_at_call 93;refine(oM _ _).mono ?_;rintro e w1 ⟨rfl,rfl⟩;rw[ah HI]);go_ret;exact⟨rfl,ah B0⟩
  | true =>
   have HI:=aj hI;by_cases k1:y.x < -1
   ·clear hI hg;go_enter func58,ntmps58;go_wp2_with (go_at_call 93;refine(oM _ _).mono ?_;rintro e w1 ⟨rfl,rfl⟩;rw[ah HI]);go_ret;exact⟨rfl,ah B0⟩
   ·have k1':decide (y.x < -1)=false:=ajE k1;by_cases k2:y.ro<0
    ·clear hI hg;go_enter func58,ntmps58;go_wp2_with (go_at_call 93;refine(oM _ _).mono ?_;rintro e w1 ⟨rfl,rfl⟩;rw[ah HI]);go_ret;exact⟨rfl,ah B0⟩
    ·have k2':decide (y.ro<0)=false:=ajE k2;have k3:2<y.ro:=akn (λz=>hg ⟨by first|rfl|exact hI,by omega,by omega,by omega⟩);clear hI hg;go_enter func58,ntmps58;go_wp2_with (go_at_call 93;refine(oM _ _).mono ?_;rintro e w1 ⟨rfl,rfl⟩;rw[ah HI]);go_ret;exact⟨rfl,ah B0⟩
end
