/- A part. -/
import Derived.Test.YtmhbobnfmncdbaaGreatDoorQ7
import Derived.Test.YtmhbobnfmncdbaaGreatDoorQ10
import Derived.Deep.DeepCutAuto
import Derived.Deep.RegionHeldLaw
set_option maxRecDepth 100000
set_option maxHeartbeats 8000000
namespace Go.Proofs.YtmhbobnfmncdbaaGreatDoor
open Go.RowKit Go.Proofs.Tryz
namespace Dk
theorem je {r:Rc}(h:iG r=0)(h1:r.k=1):aB false r.s=0:=by
 have e:=nS r.k r.q r.t r.s r.h r.d;have e2:kT r.k r.q r.t r.s r.h r.d=0:=h;rw[e2] at e;by_cases hb:Pk.inB r.k r.q r.t=false
 ·rw[if_pos hb] at e;cases e
 ·rw[if_neg hb,if_pos h1] at e;unfold zL at e;by_cases z:aB false r.s≠0
  ·rw[if_pos z] at e;exact e.symm
  ·exact Classical.byContradiction z
theorem bD.Ok.cnt {s:bD}(h:s.Ok):∃es,Cnt s.l es:=L9 _ s.l rfl (λx hx=>⟨je (h.msg x hx).2 (h.msg x hx).1,by have:=(h.small hx).1;omega⟩) h.names
abbrev tX (r:Rc):List Value:=[.int .i64 r.k,.int .i64 r.q,.int .i64 r.t,.string r.s,.string r.h,.string r.d]
def oR (o:Option Rc):Rc:=o.getD dB
def oE (o:Option Rc):Int:=match o with
 | some _=>0
 | none=>4
theorem qQ (o:Option Rc):Qp o=.tuple #[.agg #[.int .i64 (oR o).k,.int .i64 (oR o).q,.int .i64 (oR o).t,.string (oR o).s,.string (oR o).h,.string (oR o).d],.int .i64 (oE o)]:=by
 cases o<;>rfl
abbrev Yd:Obj:=.cells #[.int .i64 0,.int .i64 0,.int .i64 0,.string ⟨#[]⟩,.string ⟨#[]⟩,.string ⟨#[]⟩] 33
theorem NP {w w':World}(hb:Below (w.alloc Yd).drew.heap.size (w.alloc Yd).drew w'):CB w' w.heap.size (tX dB):=((CB.new w (tX dB) 33).next (Below.refl _ _).drew).next hb
abbrev KE (g:Nat)(f:ByteArray)(n:Int)(w:World):Prop:=w.cell? ⟨g,1,none⟩=some (.string f)/\w.cell? ⟨g,10,none⟩=some (.int .i64 n)
theorem KE.alloc {g:Nat}{f:ByteArray}{n:Int}{W:World}{o:Obj}(h:KE g f n W)(hg:g<W.heap.size):KE g f n (W.alloc o):=⟨by rw[World.cell?_alloc_old _ _ _ (Nat.ne_of_lt hg)];exact h.1,by rw[World.cell?_alloc_old _ _ _ (Nat.ne_of_lt hg)];exact h.2⟩
theorem KE.YS {g:Nat}{f:ByteArray}{n:Int}{W:World}{o:Obj}(h:KE g f n W.drew)(hg:g<W.heap.size):KE g f n (W.alloc o).drew:=KE.alloc (o:=o) (W:=W) h hg
theorem KE.sets {g b:Nat}{f:ByteArray}{n:Int}(hg:g≠b):∀(vs:List Value) (o:Nat) (W:World),KE g f n W->KE g f n (W.setCells b o vs)
 | [],_,_,h=>h
 | v::r,o,W,h=>KE.sets hg r (o+1) _ ⟨by rw[World.cell?_setCell_other _ _ _ _ (by intro e;injection e;omega)];exact h.1,by rw[World.cell?_setCell_other _ _ _ _ (by intro e;injection e;omega)];exact h.2⟩
def rW (w wx:World)(bx:Nat)(o:Option Rc):Prop:=CB wx bx (tX (oR o))/\Below w.heap.size w wx/\w.heap.size<=bx
abbrev KF (r:Rc):Obj:=.cells #[.int .i64 r.k,.int .i64 r.q,.int .i64 r.t,.string r.s,.string r.h,.string r.d] 33
theorem Du {w w1:World}{o:Option Rc}(b1:Below w.drew.heap.size w.drew w1):rW w (w1.alloc (KF (oR o))) w1.heap.size o :=
 ⟨CB.new w1 (tX (oR o)) 33,((Below.refl w.heap.size w).drew.trans b1).alloc b1.size _,b1.size⟩
theorem Dw {w w1:World}{o:Option Rc}(hz:CB w1 w.heap.size (tX dB))(b1:Below (w.alloc Yd).drew.heap.size (w.alloc Yd).drew w1):rW w (w1.setCells w.heap.size 0 (tX (oR o))) w.heap.size o :=
 ⟨hz.iL (tX (oR o)) rfl,jh (Nat.le_refl _) _ _ _ ((((Below.refl w.heap.size w).alloc (Nat.le_refl _) _).drew).trans (b1.mono (by simp))),Nat.le_refl _⟩
theorem rW.over {w wr w1:World}{bx:Nat}{o o':Option Rc}(h:rW w wr bx o)(b1:Below wr.heap.size wr w1):rW w (w1.setCells bx 0 (tX (oR o'))) bx o' :=
 ⟨(h.1.next b1).iL (tX (oR o')) rfl,jh h.2.2 _ _ _ (h.2.1.trans (b1.mono h.2.1.size)),h.2.2⟩
theorem rW.cb {w wr w1:World}{bx:Nat}{o:Option Rc}(h:rW w wr bx o)(b1:Below wr.heap.size wr w1):CB w1 bx (tX (oR o)):=h.1.next b1
section
variable {SH:World->Nat->Nat->(Nat->Prop)->bD->Prop}
variable {w:World}{B b:Nat}{c:bJ}{a:Option Addr}{ca:Nat}{v:Value}{B' q:Nat}{F:Nat->Prop}{s:bD}
theorem NQ (H:aQ SH)(h:Cm w B b c a ca v)(hs:SH w B' q F s)(hk:s.Ok)(hB:B'<=w.heap.size)(hf:aB true c.t.f=0)(hz:c.t.f.size<=140737488355328) :
 Calls prog 141 #[.pointer (some ⟨b,0,none⟩),.pointer (some ⟨q,0,none⟩)] w λe w'=>e=.returned (.int .i64 (bK c.t.f s.l c.pl:Int))/\Below w.heap.size w w':=by
 have PX:Hid (∀W n,Below w.heap.size w W->Calls prog 103 #[.pointer (some ⟨q,0,none⟩),.string c.t.f,.int .i64 n] W λe w'=>e=.returned (.tuple #[.agg #[.int .i64 (oR (aX c.t.f s.l n)).k,.int .i64 (oR (aX c.t.f s.l n)).q,.int .i64 (oR (aX c.t.f s.l n)).t,.string (oR (aX c.t.f s.l n)).s,.string (oR (aX c.t.f s.l n)).h,.string (oR (aX c.t.f s.l n)).d],.int .i64 (oE (aX c.t.f s.l n))])/\Below W.heap.size W w'):=aj (λW n hb=>by
  have:=H.next c.t.f n hz (H.aT (A:=λ_=>False) hs (aA.of_below hb) (λ_ _ z=>z)) hk (Nat.le_trans hB hb.size);unfold fP at this;rw[if_pos hf,qQ] at this;exact this)
 have HC:Hid (∀W,Below w.heap.size w W->W.cell? ⟨b,1,none⟩=some (.string c.t.f)/\W.cell? ⟨b,10,none⟩=some (.int .i64 c.pl)):=aj (λW hb=>⟨(h.next hb).tb.c1,(h.next hb).pl⟩);obtain⟨y1,y10⟩:=ah HC w (Below.refl _ _);have hbl:=h.tb.lt;have HK:=aj hk;clear h hs hk hf;have k0:KE b c.t.f c.pl w.drew:=⟨y1,y10⟩;obtain⟨f,Ho⟩:∃f,c.t.f=f:=⟨_,rfl⟩;obtain⟨pl,hpl⟩:∃pl,c.pl=pl:=⟨_,rfl⟩;rw[Ho,hpl] at k0 HC;rw[Ho] at y1;rw[hpl] at y10;rw[Ho] at PX hz;rw[Ho,hpl];clear Ho hpl;obtain⟨o,ho⟩:∃o,aX f s.l pl=o:=⟨_,rfl⟩;have SL:Hid (∀W,(W=w.drew\/∃o,W=(w.alloc o).drew)->_):=aj (λW hW=>ah PX W pl (by
  rcases hW with e|⟨o,e⟩
  ·rw[e];exact(Below.refl _ _).drew
  ·rw[e];exact((Below.refl _ _).alloc (Nat.le_refl _) _).drew))
 rw[ho] at SL;have HO:=aj ho;clear ho;go_enter func141,ntmps141;go_upto_region 2 with fail
 go_cut [6,7] (λv u wx=>∃bx,v=.pointer (some ⟨bx,0,none⟩)/\u=.int .i64 (oE o)/\Hid (rW w wx bx o))
 case first =>
  go_region_with (go_at_call 103;refine(ah SL _ (by first|(with_reducible exact .inl rfl)|(with_reducible exact .inr ⟨_,rfl⟩))).mono ?_;rintro e w1 ⟨rfl,b1⟩;first|(have hz1:CB w1 w.heap.size (tX dB):=(by with_reducible exact NP b1);have z0:=hz1.cell 0 _ rfl;have z1:=hz1.cell 1 _ rfl;have z2:=hz1.cell 2 _ rfl;have z3:=hz1.cell 3 _ rfl;have z4:=hz1.cell 4 _ rfl;have z5:=hz1.cell 5 _ rfl;have f0:=hz1.fr 0;have f1:=hz1.fr 1;have f2:=hz1.fr 2;have f3:=hz1.fr 3;have f4:=hz1.fr 4;have f5:=hz1.fr 5)|skip)
  all_goals
   first
   | (
    have HL:=aj (Dw (o:=o) hz1 b1)
    clear z0 z1 z2 z3 z4 z5 f0 f1 f2 f3 f4 f5 hz1 b1
    go_wp2_with fail
    go_meet
    exact⟨_,rfl,rfl,HL⟩)
   | (
    have HL:=aj (Du (o:=o) b1)
    clear b1
    go_wp2_with fail
    go_meet
    exact⟨_,rfl,rfl,HL⟩)
 case rest =>
  obtain⟨bx,rfl,rfl,HA⟩:=hcut;have HR:Hid (sV f s.l o=bK f s.l pl):=aj (by rw[<-ah HO];exact Hw (ah HK).rise);have HQ:Hid (∀n m,aX f s.l n=some m->1<=m.q/\m.q<=1099511627776):=aj (λn m hm=>(ah HK).seq (iw hm).1);have HM:Hid (∀m,o=some m->1<=m.q/\m.q<=1099511627776):=aj (λm hm=>ah HQ pl m (by rw[ah HO];exact hm));have hfew:bK f s.l pl<=200:=Nat.le_trans MW (ah HK).few;obtain⟨N,hN⟩:∃N,bK f s.l pl=N:=⟨_,rfl⟩;rw[hN] at HR hfew;have HN:=aj hN;clear hN SL;go_wp2_with fail;go_loopg [5,6,7] N (λgg s5 s6 s7 wr=>∃(n bx:Nat) (o:Option Rc),s5=.int .i64 n/\s6=.pointer (some ⟨bx,0,none⟩)/\s7=.int .i64 (oE o)/\Hid (rW w wr bx o)/\n+sV f s.l o=N/\sV f s.l o<=gg/\Hid (∀m,o=some m->1<=m.q/\m.q<=1099511627776))
  case atStart=>exact⟨0,bx,o,rfl,rfl,rfl,HA,by rw[ah HR];simp,by rw[ah HR];exact Nat.le_refl _,HM⟩
  case round =>
   obtain⟨n,bx,o,rfl,rfl,rfl,HA,hn,hg,HM⟩:=hrel
   cases o with
   | none =>
    rw[show oE none=4 from rfl];have hn0:n=N:=by simpa[sV] using hn
    clear hn hg;subst hn0;go_wp2_with fail;go_ret;rw[ah HN];exact⟨rfl,(ah HA).2.1⟩
   | some m =>
    rw[show oE (some m)=0 from rfl];obtain⟨hm1,hm2⟩:=ah HM m rfl;have hw1:IntKind.i64.wrap (m.q+1)=m.q+1:=by rw[IntKind.wrap_i64];omega
    have c0:=(ah HA).1.cell 0 _ rfl;have c1:=(ah HA).1.cell 1 _ rfl;have c2:=(ah HA).1.cell 2 _ rfl;have c3:=(ah HA).1.cell 3 _ rfl;have c4:=(ah HA).1.cell 4 _ rfl;have c5:=(ah HA).1.cell 5 _ rfl;rw[show oR (some m)=m from rfl] at c0 c1 c2 c3 c4 c5;have bA:Below wr.heap.size wr (wr.alloc (KF m)):=(Below.refl _ _).alloc (Nat.le_refl _) _;have A2:Hid (rW w (wr.alloc (KF m)).drew wr.heap.size (some m)):=aj ⟨(CB.new wr (tX m) 33).next (Below.refl _ _).drew,((ah HA).2.1.trans (bA.mono (ah HA).2.1.size)).drew,(ah HA).2.1.size⟩;obtain⟨yf,ypl⟩:=ah HC _ (ah A2).2.1
    have d1:=(ah A2).1.cell 1 _ rfl;rw[show oR (some m)=m from rfl] at d1;have HCB:Hid (∀w1,Below (wr.alloc (KF m)).drew.heap.size (wr.alloc (KF m)).drew w1->CB w1 wr.heap.size (tX m)):=aj (λw1 b1=>rW.cb (ah A2) b1);have PN:=aj (ah PX (wr.alloc (KF m)).drew (m.q+1) (ah A2).2.1);have HR2:Hid (sV f s.l (aX f s.l (m.q+1))=bK f s.l (m.q+1)):=aj (Hw (ah HK).rise);have WR:Hid (∀m',aX f s.l (m.q+1)=some m'->1<=m'.q/\m'.q<=1099511627776):=aj (λm' h=>ah HQ (m.q+1) m' h);obtain⟨o',ho'⟩:∃o',aX f s.l (m.q+1)=o':=⟨_,rfl⟩;rw[ho'] at PN HR2 WR;have hrest:sV f s.l (some m)=bK f s.l (m.q+1)+1:=rfl
    rw[hrest] at hn hg;have hn5:n<=200:=by omega
    clear ho' bA hrest HM;go_wp2_with fail;go_region_with (go_at_call 103;with_reducible refine(ah PN).mono ?_;rintro e w1 ⟨rfl,b1⟩;have hz1:=ah HCB _ b1;have z0:=hz1.cell 0 _ rfl;have z1:=hz1.cell 1 _ rfl;have z2:=hz1.cell 2 _ rfl;have z3:=hz1.cell 3 _ rfl;have z4:=hz1.cell 4 _ rfl;have z5:=hz1.cell 5 _ rfl;have f0:=hz1.fr 0;have f1:=hz1.fr 1;have f2:=hz1.fr 2;have f3:=hz1.fr 3;have f4:=hz1.fr 4;have f5:=hz1.fr 5)
    all_goals
     have HL:=aj (rW.over (o':=o') (ah A2) b1)
     clear z0 z1 z2 z3 z4 z5 f0 f1 f2 f3 f4 f5 hz1 b1 PN A2 HA c0 c1 c2 c3 c4 c5 d1 yf ypl
     go_wp2_with fail
     go_roundg (sV f s.l o')
     case measure=>rw[ah HR2];omega
     case rel=>exact⟨n+1,wr.heap.size,o',by go_num,rfl,rfl,HL,by rw[ah HR2];omega,Nat.le_refl _,WR⟩
end
theorem JK {b:Nat}:∀(us:List Value) (o:Nat) (w:World),(w.setCells b o us).heap.size=w.heap.size
 | [],_,_=>rfl
 | u::r,o,w=>(JK r (o+1) _).trans (by simp[World.setCell])
theorem wF {g:Nat}:∀(vs:List Value) (o:Nat) (w:World),aA (λk=>k=g) w (w.setCells g o vs)
 | [],_,_=>aA.refl _ _
 | v::r,o,_=>(aA.setCell (A:=λk=>k=g) (p:=⟨g,o,none⟩) (aA.refl _ _) (.inl rfl) v).trans (wF r (o+1) _)
abbrev OM:Obj:=.cells #[.int .i64 0,.string ⟨#[]⟩,.string ⟨#[]⟩,.int .i64 0,.int .i64 0,.int .i64 0] 47
abbrev SN (g b:Nat)(m:Rc)(n:Int)(W:World):Prop:=W.cell? ⟨g,1,none⟩=some (.int .i64 m.q)/\W.cell? ⟨g,3,none⟩=some (.string m.s)/\W.cell? ⟨g,5,none⟩=some (.string m.d)/\W.cell? ⟨b,12,none⟩=some (.int .i64 n)
theorem SN.sets {g b x:Nat}{m:Rc}{n:Int}(h1:g≠x)(h2:b≠x):∀(vs:List Value) (o:Nat) (W:World),SN g b m n W->SN g b m n (W.setCells x o vs)
 | [],_,_,h=>h
 | v::r,o,W,h=>SN.sets h1 h2 r (o+1) _ ⟨by rw[World.cell?_setCell_other _ _ _ _ (by intro e;injection e;omega)];exact h.1,by rw[World.cell?_setCell_other _ _ _ _ (by intro e;injection e;omega)];exact h.2.1,by rw[World.cell?_setCell_other _ _ _ _ (by intro e;injection e;omega)];exact h.2.2.1,by rw[World.cell?_setCell_other _ _ _ _ (by intro e;injection e;omega)];exact h.2.2.2⟩
section
variable {w:World}{B b:Nat}{c c':bJ}{a:Option Addr}{ca:Nat}{v:Value}
theorem aV.out {W0 w2:World}{bx:Nat}{vs:List Value}(h:Cm w B b c a ca v)(b0:Below w.heap.size w W0)(hbx:w.heap.size<=bx)(hr:CB W0 bx vs)(hu:aV W0 w2 B b a ca v c'):CB w2 bx vs/\∀us:List Value,us.length=vs.length->aV w (w2.setCells bx 0 us) B b a ca v c'/\CB (w2.setCells bx 0 us) bx us:=by
 obtain⟨v',k,ch,hg⟩:=hu;have hlt:=h.tb.lt;have hbb:bx≠b:=by omega
 have hvb:v.ownBlock≠some bx:=λq=>by have:=(h.row.lt _ q).2;omega
 have hr2:CB w2 bx vs:=hr.aT ch (λq=>by
  rcases q with q|q
  ·exact hbb q
  ·exact hvb q)
 refine⟨hr2,λus hl=>?_⟩;have cs:=wF (g:=bx) us 0 w2;have hv':v'.ownBlock≠some bx:=λq=>by
  rcases hg _ q with z|z
  ·exact hvb z
  ·have:=hr.lt;omega
 have hs0:=b0.size;refine⟨⟨v',k.aT cs (λq=>hbb q.symm) (λg hq z=>hv' (by rw[hq];exact congrArg some z)) (λz hz q=>by have:=(h.al z hz).2;omega),⟨cs.os.trans (ch.os.trans b0.os),cs.tape.trans (ch.tape.trans b0.tape),cs.output.trans (ch.output.trans b0.output),Nat.le_trans b0.size (Nat.le_trans ch.size cs.size),λi hi hn=>?_⟩,λg hq=>?_⟩,hr2.iL us hl⟩
 ·have:=ch.size;rw[cs.block i (by omega) (by omega),ch.block i (by omega) hn];exact b0.block i hi
 ·rcases hg g hq with z|z
  ·exact .inl z
  ·exact .inr (by omega)
variable {SH:World->Nat->Nat->(Nat->Prop)->bD->Prop}{B' q:Nat}{F:Nat->Prop}{s:bD}
theorem tu (H:aQ SH)(h:Cm w B b c a ca v)(hs:SH w B' q F s)(hk:s.Ok)(hB:B'<=w.heap.size)(hF:∀k,F k->¬iP b v k)(hf:aB true c.t.f=0)(hz:c.t.f.size<=140737488355328)(hcn:0<=c.cn/\c.cn<=1000000000000)(m:Rc)(nth:Int) :
 Calls prog 102 #[.pointer (some ⟨b,0,none⟩),.pointer (some ⟨q,0,none⟩),.agg #[.int .i64 m.k,.int .i64 m.q,.int .i64 m.t,.string m.s,.string m.h,.string m.d],.int .i64 nth] w λe w'=>e=.returned (KC ⟨m.q,m.s,m.d,c.cn+1,nth,(bK c.t.f s.l c.pl:Int)⟩)/\aV w w' B b a ca v ⟨c.t,c.pl,c.pe,c.cn+1⟩:=by
 obtain⟨W0,hW0⟩:∃W0,W0=(w.alloc (KF m)).alloc OM:=⟨_,rfl⟩;have b0:Below w.heap.size w W0:=by rw[hW0];exact((Below.refl _ _).alloc (Nat.le_refl _) _).alloc (by simp) _
 have hsz:W0.heap.size=w.heap.size+2:=by rw[hW0];simp
 have rm:CB W0 w.heap.size (tX m):=by rw[hW0];exact(CB.new w (tX m) 33).next ((Below.refl _ _).alloc (Nat.le_refl _) _)
 have rd:CB W0 (w.heap.size+1) (oz dX):=by
  rw[hW0];have:=CB.new (w.alloc (KF m)) (oz dX) 47;rw[World.size_alloc] at this;exact this
 have h0:=h.next b0;have c12:=h0.cn;have f12:=h0.fr 12;have hbl:=h0.tb.lt;have hlt:=h.tb.lt;have u1:=aV.put h0 (aA.refl _ W0) (j:=12) (u:=.int .i64 (c.cn+1)) (v':=v) (pl:=c.pl) (cn:=c.cn+1) (.inr (.inl ⟨rfl,rfl,rfl,rfl⟩)) h0.row (λ_ q=>.inl q);obtain⟨W1,hW1⟩:∃W1,W1=W0.setCell ⟨b,12,none⟩ (.int .i64 (c.cn+1)):=⟨_,rfl⟩;rw[<-hW1] at u1;have cW:aA (λk=>k=b) W0 W1:=by rw[hW1];exact aA.setCell (A:=λk=>k=b) (p:=⟨b,12,none⟩) (aA.refl _ _) (.inl rfl) _
 have hk1:Cm W1 B b ⟨c.t,c.pl,c.pe,c.cn+1⟩ a ca v:=by rw[hW1];exact h0.put (aA.refl _ W0) (.inr (.inl ⟨rfl,rfl,rfl,rfl⟩)) h0.row (λ_ q=>.inl q)
 have hs1:SH W1 B' q F s:=H.aT (H.aT (A:=λ_=>False) hs (aA.of_below b0) (λ_ _ z=>z)) cW (λk hq z=>hF k hq (.inl z));have PL:=aj (NQ H (hk1.next (Below.refl _ _).drew) (H.aT (A:=λ_=>False) hs1 (aA.of_below (Below.refl _ _).drew) (λ_ _ z=>z)) hk (Nat.le_trans hB (Nat.le_trans b0.size cW.size)) hf hz);have KG:=rm.aT cW (by show ¬(w.heap.size=b);omega);have r1:W1.drew.cell? ⟨w.heap.size,1,none⟩=some (.int .i64 m.q):=KG.cell 1 _ rfl;have r3:W1.drew.cell? ⟨w.heap.size,3,none⟩=some (.string m.s):=KG.cell 3 _ rfl;have r5:W1.drew.cell? ⟨w.heap.size,5,none⟩=some (.string m.d):=KG.cell 5 _ rfl
 have e12:W1.drew.cell? ⟨b,12,none⟩=some (.int .i64 (c.cn+1)):=hk1.cn;have HO:Hid (∀w2,Below W1.drew.heap.size W1.drew w2->CB w2 (w.heap.size+1) (oz dX)/\∀us:List Value,us.length=6->aV w (w2.setCells (w.heap.size+1) 0 us) B b a ca v ⟨c.t,c.pl,c.pe,c.cn+1⟩/\CB (w2.setCells (w.heap.size+1) 0 us) (w.heap.size+1) us):=aj (λw2 b2=>aV.out h b0 (by omega) rd (aV.trans (cW.mono (λ_ _ q=>.inl q)) (λ_ q=>.inl q) (aV.same hk1 (((Below.refl W1.heap.size W1).drew).trans b2))));have HSame:Hid (∀w2,Below W1.drew.heap.size W1.drew w2->w2.cell? ⟨w.heap.size,1,none⟩=some (.int .i64 m.q)/\w2.cell? ⟨w.heap.size,3,none⟩=some (.string m.s)/\w2.cell? ⟨w.heap.size,5,none⟩=some (.string m.d)/\w2.cell? ⟨b,12,none⟩=some (.int .i64 (c.cn+1))):=aj (λw2 b2=>⟨(b2.cell (p:=⟨w.heap.size,1,none⟩) (show w.heap.size<W1.heap.size by have:=cW.size;omega)).trans r1,(b2.cell (p:=⟨w.heap.size,3,none⟩) (show w.heap.size<W1.heap.size by have:=cW.size;omega)).trans r3,(b2.cell (p:=⟨w.heap.size,5,none⟩) (show w.heap.size<W1.heap.size by have:=cW.size;omega)).trans r5,(b2.cell (p:=⟨b,12,none⟩) (show b<W1.heap.size by have:=cW.size;omega)).trans e12⟩)
 obtain⟨L,hL⟩:∃L:Int,(bK c.t.f s.l c.pl:Int)=L:=⟨_,rfl⟩;rw[show(bK (⟨c.t,c.pl,c.pe,c.cn+1⟩:bJ).t.f s.l (⟨c.t,c.pl,c.pe,c.cn+1⟩:bJ).pl:Int)=L from hL] at PL;rw[hL];obtain⟨hc1,hc2⟩:=hcn;clear h h0 hs hk hF hf hz u1 hk1 hs1 rm KG rd cW hL;go_enter func102,ntmps102;go_upto_region 1 with fail
 rw[<-hW0];clear hW0;go_upto_region 2 with fail
 rw[<-hW1];clear hW1;have hn1:w.heap.size≠w.heap.size+1:=by omega
 have hn2:b≠w.heap.size+1:=by omega
 have k0:SN w.heap.size b m (c.cn+1) W1.drew:=⟨r1,r3,r5,e12⟩;clear r1 r3 r5 e12;go_region_held_law (SN w.heap.size b m (c.cn+1)) (first|with_reducible assumption|exact SN.sets (by assumption) (by assumption) [_,_,_,_,_,_] 0 _ (by assumption))
  (first
   | (
    go_at_call 141;with_reducible refine(ah PL).mono ?_;rintro e w2 ⟨rfl,b2⟩
    have k2:SN w.heap.size b m (c.cn+1) w2:=ah HSame _ b2
    have hz2:=(ah HO _ b2).1;have z0:=hz2.cell 0 _ rfl;have z1:=hz2.cell 1 _ rfl;have z2:=hz2.cell 2 _ rfl;have z3:=hz2.cell 3 _ rfl;have z4:=hz2.cell 4 _ rfl;have z5:=hz2.cell 5 _ rfl;have g0:=hz2.fr 0;have g1:=hz2.fr 1;have g2:=hz2.fr 2;have g3:=hz2.fr 3;have g4:=hz2.fr 4;have g5:=hz2.fr 5))
 all_goals
  have HF:=aj ((ah HO _ b2).2 (oz ⟨m.q,m.s,m.d,c.cn+1,nth,L⟩) rfl)
  clear z0 z1 z2 z3 z4 z5 g0 g1 g2 g3 g4 g5 hz2 b2 HO HSame PL
  go_wp2_with fail
  exact bodyPost_ret (BJ rfl rfl (ah HF).2) rfl ⟨rfl,(ah HF).1⟩
end
theorem NR (w:World)(l:List Rc)(T:TypeId):ug (w.alloc (.cells (aC l).toArray T)) (some ⟨w.heap.size,0,none⟩) l:=λk hk=>by
 refine⟨w.heap.size,0,rfl,?_⟩;have hat:=zA l k hk;refine⟨by simp,?_,?_,?_,?_,?_,?_⟩
 ·rw[cell_of_row _ w.heap.size _ _ _ _ (heap_alloc_new w _),Nat.zero_add];simpa using hat.1
 ·rw[cell_of_row _ w.heap.size _ _ _ _ (heap_alloc_new w _),Nat.zero_add];simpa using hat.2.1
 ·rw[cell_of_row _ w.heap.size _ _ _ _ (heap_alloc_new w _),Nat.zero_add];simpa using hat.2.2.1
 ·rw[cell_of_row _ w.heap.size _ _ _ _ (heap_alloc_new w _),Nat.zero_add];simpa using hat.2.2.2.1
 ·rw[cell_of_row _ w.heap.size _ _ _ _ (heap_alloc_new w _),Nat.zero_add];simpa using hat.2.2.2.2.1
 ·rw[cell_of_row _ w.heap.size _ _ _ _ (heap_alloc_new w _),Nat.zero_add];simpa using hat.2.2.2.2.2
def nD (n:Int):Rc:=⟨1,n,0,⟨#[97,46,98]⟩,⟨#[]⟩,⟨#[120]⟩⟩
def bn (n:Int)(f:ByteArray):Rc:=⟨3,n,0,f,⟨#[]⟩,⟨#[]⟩⟩
theorem Ul:(fG [nD 4,nD 7,bn 7 ⟨#[62]⟩]).l.length=1:=by decide +kernel
def Ic (E n:Int)(f:ByteArray)(x:Rc):Bool:=(E !=0)||(decide (n<=x.q)||!aF f x.s)
theorem Um {s:bD}(h:s.Ok)(n:Int)(f:ByteArray):(gV s (bn n f)).l=s.l.filter (Ic (dU s (bn n f)) n f)/\(gV s (bn n f)).last=s.last:=by
 by_cases h0:dU s (bn n f)=0
 ·rw[vJ h0 rfl,h0];refine⟨?_,rfl⟩;have hc:iG (bn n f)=0:=by rw[<-Jj (s:=s) (r:=bn n f) rfl];exact h0
  have hf:aB true f=0:=by
   have e:=nS (bn n f).k (bn n f).q (bn n f).t (bn n f).s (bn n f).h (bn n f).d;have e2:kT (bn n f).k (bn n f).q (bn n f).t (bn n f).s (bn n f).h (bn n f).d=0:=hc;rw[e2] at e;by_cases hb:Pk.inB (bn n f).k (bn n f).q (bn n f).t=false
   ·rw[if_pos hb] at e;cases e
   ·rw[if_neg hb,if_neg (show ¬(bn n f).k=1 by simp[bn]),if_pos (show(bn n f).k=3 from rfl)] at e;unfold zM at e;by_cases z:aB true (bn n f).s≠0
    ·rw[if_pos z] at e;exact e.symm
    ·exact Classical.byContradiction z
  show s.l.filter _=s.l.filter _;refine List.filter_congr (λx hx=>?_);have hx2:=h.msg x hx;have hs:aB false x.s=0:=by
   have e:=nS x.k x.q x.t x.s x.h x.d;have e2:kT x.k x.q x.t x.s x.h x.d=0:=hx2.2;rw[e2] at e;by_cases hb:Pk.inB x.k x.q x.t=false
   ·rw[if_pos hb] at e;cases e
   ·rw[if_neg hb,if_pos hx2.1] at e;unfold zL at e;by_cases z:aB false x.s≠0
    ·rw[if_pos z] at e;exact e.symm
    ·exact Classical.byContradiction z
  unfold Ic aF lJ;rw[hf,hs];show(!(decide (x.q<n)&&aP (Pl.toks f) (Pl.toks x.s)))=_;by_cases z:x.q<n
  ·rw[decide_eq_true z,decide_eq_false (show ¬n<=x.q by omega)];simp
  ·rw[decide_eq_false z,decide_eq_true (show n<=x.q by omega)];simp
 ·have e:gV s (bn n f)=s:=by unfold gV;rw[if_pos h0]
  rw[e];refine⟨?_,rfl⟩;have hb:(dU s (bn n f) !=0)=true:=by simpa using h0
  have:∀x,Ic (dU s (bn n f)) n f x=true:=λx=>by unfold Ic;rw[hb];rfl
  rw[List.filter_eq_self.2 (λx _=>this x)]
def Dx (SH:World->Nat->Nat->(Nat->Prop)->bD->Prop)(Cs:Nat->Prop)(w wr:World)(q:Nat)(s:bD):Prop:=∃F,SH wr w.heap.size q F s/\Below w.heap.size w wr/\∀k,Cs k->k<wr.heap.size/\¬F k
section
variable {SH:World->Nat->Nat->(Nat->Prop)->bD->Prop}{Cs:Nat->Prop}{w wr w':World}{q:Nat}{s s':bD}
theorem Made.all (H:aQ SH)(h:Made SH w wr q s)(hk:s.Ok) :
 Calls prog 29 #[.pointer (some ⟨q,0,none⟩)] wr λe w'=>∃a c,e=.returned (.slice a s.l.length c)/\(s.l.length<=c/\c<=maxLen)/\ug w' a s.l/\Dx SH (λk=>∃z,a=some z/\z.block=k) w w' q s/\Below wr.heap.size wr w':=by
 have hr:=h.room;obtain⟨F,h1,h2⟩:=h;refine(H.all h1 hk hr).mono ?_;rintro e w' ⟨v,he,hA,hb⟩;obtain⟨a,c,rfl,hc1,hc2,hs⟩:=hA.shape;have ha:∀z,a=some z->wr.heap.size<=z.block/\z.block<w'.heap.size:=λz hz=>World.ownsRow.lt hA z.block (by rw[hz];rfl)
 refine⟨a,c,he,⟨hc1,hc2⟩,hs,⟨F,H.aT (A:=λ_=>False) h1 (aA.of_below hb) (λ_ _ z=>z),h2.trans (hb.mono hr),λk hk=>?_⟩,hb⟩;obtain⟨z,hz,rfl⟩:=hk;exact⟨(ha z hz).2,λy=>by have:=(H.own h1 _ y).2;have:=(ha z hz).1;omega⟩
theorem Dx.made (h:Dx SH Cs w wr q s):Made SH w wr q s:=by obtain⟨F,h1,h2,_⟩:=h;exact⟨F,h1,h2⟩
theorem Dx.below (H:aQ SH)(h:Dx SH Cs w wr q s)(hb:Below wr.heap.size wr w'):Dx SH Cs w w' q s:=by
 have hr:=h.made.room;obtain⟨F,h1,h2,h3⟩:=h;exact⟨F,H.aT (A:=λ_=>False) h1 (aA.of_below hb) (λ_ _ z=>z),h2.trans (hb.mono hr),λk hk=>⟨Nat.lt_of_lt_of_le (h3 k hk).1 hb.size,(h3 k hk).2⟩⟩
theorem Dx.did (H:aQ SH)(h:Dx SH Cs w wr q s){fn:FuncId}{args:Array Value}{Q:Ending->World->Prop}
 (hc:∀F,SH wr w.heap.size q F s->Calls prog fn args wr λe w'=>Q e w'/\Mc SH wr w' w.heap.size q F s') :
 Calls prog fn args wr λe w'=>Q e w'/\Made SH w w' q s'/\∀k,Cs k->k<wr.heap.size/\w'.heap[k]?=wr.heap[k]?:=by
 have hr:=h.made.room;obtain⟨F,h1,h2,h3⟩:=h;refine(hc F h1).mono ?_;rintro e w' ⟨hq,F',a1,a2,_⟩;exact⟨hq,⟨F',a1,h2.trans (a2.below hr (λk hk z=>by have:=(H.own h1 k z).1;omega))⟩,λk hk=>⟨(h3 k hk).1,a2.block k (h3 k hk).1 (h3 k hk).2⟩⟩
theorem Made.sums (H:aQ SH)(h:Made SH w wr q s)(hk:s.Ok) :
 Calls prog 98 #[.pointer (some ⟨q,0,none⟩)] wr λe w'=>e=.returned (.agg #[.int .i64 (s.l.length:Int),.int .i64 (fF s.l:Int),.int .i64 (pF s.l),.int .i64 s.last])/\Below wr.heap.size wr w':=by
 have hr:=h.room;obtain⟨F,h1,_⟩:=h;exact H.sums h1 hk hr
end
theorem WY {w wr:World}{B:Nat}{ov:Value}{out:List Rc}(h:bY wr B ov out)(hb:Below B w wr)(r:Rc)(hl:out.length<=200000)(hB:B<=wr.heap.size)(T:TypeId)(hT:T=33) :
 ∃v8 w8,(Builtin.append_ #[25,25] 25 #[ov,.slice (some ⟨wr.heap.size,0,none⟩) 1 1]).run prog (wr.alloc (.cells #[.int .i64 r.k,.int .i64 r.q,.int .i64 r.t,.string r.s,.string r.h,.string r.d] T))=.ok v8 w8/\bY w8 B v8 (out++[r])/\Below B w w8:=by
 subst hT;have hb7:Below wr.heap.size wr (wr.alloc (.cells #[.int .i64 r.k,.int .i64 r.q,.int .i64 r.t,.string r.s,.string r.h,.string r.d] 33)):=(Below.refl _ _).alloc (Nat.le_refl _) _;have h7:=h.below hb7;obtain⟨v8,w8,hrun,A8,C8,_⟩:=kK _ B 25 ov out [r] h7 ⟨wr.heap.size,0,none⟩ 1 (uh wr r) (by simp;omega) (Nat.le_trans hB hb7.size);exact⟨v8,w8,hrun,A8,(hb.trans (hb7.mono hB)).trans (C8.below (Nat.le_trans hB hb7.size) (λk hk z=>by have:=(World.ownsRow.lt h7 k z).1;omega))⟩
theorem VI {p:Rc->Bool}{l:List Rc}{k:Nat}(h:k<l.length):(l.take (k+1)).filter p=(l.take k).filter p++(if p (rc l k) then [rc l k] else []):=by
 rw[List.take_succ_eq_append_getElem h,<-dF h,List.filter_append];simp only[List.filter_cons,List.filter_nil]
theorem WZ (x0 x1 x2 x3:Value)(W:World):(Instr.field 159 (.agg #[x0,x1,x2,x3]) 0).run prog W=.ok x0 W:=by kernel_rfl
theorem Xa (x0 x1 x2 x3:Value)(W:World):(Instr.field 159 (.agg #[x0,x1,x2,x3]) 3).run prog W=.ok x3 W:=by kernel_rfl
theorem yL {c:bJ}(h:c.Ok):(∀p∈c.pe,aJ c<p.q)/\aJ c<c.pl:=by
 unfold aJ
 cases hp:c.pe with
 | nil=>exact⟨λp hp=>(by cases hp),by show c.pl-1<c.pl;omega⟩
 | cons a r =>
  have hr:=h.rise;have hl:=(h.low a (by rw[hp];simp)).2;rw[hp] at hr;obtain⟨h1,_⟩:=List.pairwise_cons.1 hr;refine⟨λp hp=>?_,by show a.q-1<c.pl;omega⟩;rcases List.mem_cons.1 hp with rfl|hp
  ·show p.q-1<p.q;omega
  ·have:=h1 p hp;show a.q-1<p.q;omega
theorem floor_le {c c':bJ}(h:c.Ok)(h1:∀p∈c'.pe,(∃x∈c.pe,x.q=p.q)\/c.pl<=p.q)(h2:c.pl<=c'.pl):aJ c<=aJ c':=by
 obtain⟨l1,l2⟩:=yL h;show _<=(match c'.pe with
  | []=>c'.pl-1
  | p::_=>p.q-1)
 cases hp:c'.pe with
 | nil=>show _<=c'.pl-1;omega
 | cons a r =>
  show _<=a.q-1;rcases h1 a (by rw[hp];simp) with ⟨x,hx,e⟩|e
  ·have:=l1 x hx;omega
  ·omega
theorem E8 {c:bJ}(h:c.Ok):aJ c<=c.pl-1:=by have:=(yL h).2;omega
section
variable {c c':bJ}{W:uo}{s:bD}{now:Int}{m:Rc}{n E:Int}{N:Nat}
theorem Ie (s:bD)(now:Int):c.pl<=(aI c s.l now).1.pl/\∀p∈(aI c s.l now).1.pe,(∃x∈c.pe,x.q=p.q)\/c.pl<=p.q:=by
 have hag:∀p∈(dQ c.t s.l now c.pe).1,(∃x∈c.pe,x.q=p.q)\/c.pl<=p.q:=λp hp=>by
  obtain⟨x,hx,e,_⟩:=jL hp;exact .inl ⟨x,hx,e⟩
 unfold aI;split
 ·exact⟨Int.le_refl _,λp hp=>.inl ⟨p,hp,rfl⟩⟩
 ·split
  ·exact⟨Int.le_refl _,hag⟩
  ·split
   ·exact⟨Int.le_refl _,hag⟩
   ·split
    ·exact⟨Int.le_refl _,hag⟩
    ·rename_i m hm;have hm2:=(iw hm).2.1;refine⟨by show c.pl<=m.q+1;omega,λp hp=>?_⟩;simp only at hp;split at hp
     ·exact hag p hp
     ·rcases List.mem_append.1 hp with q|q
      ·exact hag p q
      ·rw[List.mem_singleton] at q;exact .inr (by rw[q];exact hm2)
theorem wG (h:c.Ok)(now:Int):aJ c<=aJ (aI c s.l now).1:=floor_le h (Ie s now).2 (Ie s now).1
theorem JL (h:c.Ok)(now q so n:Int):aJ c<=aJ (dJ c now q so n).1 :=
 floor_le h (λp hp=>.inl (by obtain⟨x,hx,e,_⟩:=Aa hp;exact⟨x,hx,e⟩)) (by rw[(MZ c now q so n).2];exact Int.le_refl _)
theorem Inv.err (h:Inv c W)(he:(aI c s.l now).2.2≠0):Inv (aI c s.l now).1 W:=by
 have hag:(dQ c.t s.l now c.pe).2=none->Inv ⟨c.t,c.pl,(dQ c.t s.l now c.pe).1,c.cn⟩ W:=λhn=>⟨h.cnt,λp hp=>h.pend p (qO hn p hp),h.seen,h.dn,h.last,λht=>by have h1:=h.full ht;have h2:=jd (t:=c.t) (l:=s.l) (now:=now) c.pe;show(((dQ c.t s.l now c.pe).1.length:Nat):Int)<=c.t.pe;have h3:(c.pe.length:Int)<=c.t.pe:=h1;omega⟩
 revert he
 unfold aI;split
 ·exact λ_=>h
 ·split
  ·exact λhe=>absurd rfl he
  ·rename_i hn;split
   ·exact λ_=>hag hn
   ·split
    ·exact λ_=>hag hn
    ·exact λhe=>absurd rfl he
theorem JM (he:(aI c s.l now).2.2=0):∃m n,(aI c s.l now).2.1=some (m,n):=by
 revert he
 unfold aI;split
 ·exact λhe=>absurd he (by simp)
 ·split
  ·rename_i m n _;exact λ_=>⟨m,n,rfl⟩
  ·split
   ·exact λhe=>absurd he (by simp)
   ·split
    ·exact λhe=>absurd he (by simp)
    ·rename_i m _;exact λ_=>⟨m,1,rfl⟩
def rX (c:bJ)(s:bD):Prop:=∀p∈c.pe,p.q<=s.last/\∀m∈s.l,m.q=p.q->lJ c.t.f m.s=true
theorem QT {r x:Rc}(hx:x∈(gV s r).l):x∈s.l\/s.last<x.q:=by
 unfold gV at hx;split at hx
 ·exact .inl hx
 ·rename_i h0;split at hx
  ·rename_i h1;rcases List.mem_append.1 hx with z|z
   ·exact .inl z
   ·rw[List.mem_singleton] at z;subst z;right;have h0:dU s x=0:=Classical.byContradiction h0;unfold dU at h0;split at h0
    ·rename_i z;exact absurd h0 z
    ·split at h0
     ·rename_i z;omega
     ·split at h0
      ·rename_i z;exact absurd h1 z
      ·split at h0
       ·cases h0
       ·omega
  ·split at hx
   ·exact .inl hx
   ·exact .inl (List.mem_filter.1 hx).1
theorem NS (r:Rc):s.last<=(gV s r).last:=by
 unfold gV;split
 ·exact Int.le_refl _
 ·rename_i h0;split
  ·rename_i h1;have h0:dU s r=0:=Classical.byContradiction h0;unfold dU at h0;split at h0
   ·rename_i z;exact absurd h0 z
   ·split at h0
    ·rename_i z;omega
    ·split at h0
     ·rename_i z;exact absurd h1 z
     ·split at h0
      ·cases h0
      ·show s.last<=r.q;omega
  ·split
   ·show s.last<=max s.last r.q;omega
   ·exact Int.le_refl _
theorem rX.apply (h:rX c s)(r:Rc):rX c (gV s r):=λp hp=>by
 obtain⟨h1,h2⟩:=h p hp;have:=NS (s:=s) r;refine⟨by omega,λm hm e=>?_⟩;rcases QT hm with z|z
 ·exact h2 m z e
 ·omega
theorem rX.ans (h:rX c s)(now q so n:Int):rX (dJ c now q so n).1 s:=λp hp=>by
 obtain⟨x,hx,e,_⟩:=Aa hp;have:=h x hx;rw[e] at this;rw[qM];exact this
theorem rX.next (h:rX c s)(hs:s.Ok)(now:Int):rX (aI c s.l now).1 s:=by
 have hag:∀p∈(dQ c.t s.l now c.pe).1,p.q<=s.last/\∀m∈s.l,m.q=p.q->lJ c.t.f m.s=true:=λp hp=>by
  obtain⟨x,hx,e,_⟩:=jL hp;have:=h x hx;rw[e] at this;exact this
 intro p hp;rw[ku];revert hp
 unfold aI;split
 ·exact h p
 ·split
  ·exact hag p
  ·split
   ·exact hag p
   ·split
    ·exact hag p
    ·rename_i m hm;intro hp;simp only at hp;split at hp
     ·exact hag p hp
     ·rcases List.mem_append.1 hp with q|q
      ·exact hag p q
      ·rw[List.mem_singleton] at q;obtain⟨m1,m2,m3⟩:=iw hm;subst q;refine⟨hs.low m m1,λx hx e=>?_⟩;have g1:=Af hs hx;have g2:=Af hs m1;have e':x.q=m.q:=e;rw[e',g2] at g1
       cases g1
       exact m3
theorem Inv.step (h:Inv c W)(hi:rX c s)(hg:c.Go N)(hs:s.Ok)(hr:(aI c s.l now).2.1=some (m,n)):Right c.t s W m n now/\Inv (aI c s.l now).1 (Nk c.t W m.q n now)/\(aI c s.l now).1.cn=W.cnt+1:=by
 have ho:=hg.ok;have hcnt:=h.cnt;revert hr
 unfold aI;split
 ·exact λhr=>absurd hr (by simp)
 ·split
  ·rename_i m' n' hag;intro hr;simp only[Option.some.injEq,Prod.mk.injEq] at hr;obtain⟨rfl,rfl⟩:=hr;obtain⟨p,hp,g1,g2,g3,g4,g5⟩:=vV ho.rise hag;obtain⟨gm,gq⟩:=mY g1;obtain⟨p1,p2,p3⟩:=h.pend p hp;have hpn:=ho.nth p hp;have hlow:=ho.low p hp;have ha:c.t.ack≠0:=λz=>by have:=ho.none0 z;rw[this] at hp;cases hp
   have hmo:c.t.mo=0\/p.n+1<=c.t.mo:=by
    unfold iq at g4;rw[Bool.and_eq_false_iff,decide_eq_false_iff_not,decide_eq_false_iff_not] at g4;rcases g4 with z|z
    ·exact .inl (Classical.byContradiction z)
    ·exact .inr (by omega)
   refine⟨⟨by rw[gq];exact g1,(hi p hp).2 _ gm gq,by rw[gq];exact p3,by rw[gq,p1];exact g2,by rw[g2];exact hmo,λz=>absurd z (by omega),λ_=>⟨by rw[gq,p2];exact g3,ha⟩⟩,⟨by show W.cnt+1=c.cn+1;omega,λx hx=>?_,λq hq=>?_,h.dn,?_,λht=>?_⟩,by show c.cn+1=_;omega⟩
   ·rcases g5 x hx with e|⟨e1,e2⟩
    ·subst e;show fK W.nth _ n' p.q=n'/\fK W.due _ _ p.q=_/\W.done p.q=false;rw[gq,upd_same,upd_same];exact⟨rfl,rfl,p3⟩
    ·show fK W.nth _ n' x.q=x.n/\fK W.due _ _ x.q=x.d/\W.done x.q=false;rw[gq,dh e2,dh e2];exact h.pend x e1
   ·by_cases z:q=m'.q
    ·rw[z,gq];exact hlow.2
    ·exact h.seen q (by have:fK W.nth m'.q n' q≠0:=hq;rwa [dh z] at this)
   ·show(if n'=1 then m'.q else W.last)<c.pl;rw[if_neg (by omega)];exact h.last
   ·have h1:(c.pe.length:Int)<=c.t.pe:=h.full ht;have h2:=jd (t:=c.t) (l:=s.l) (now:=now) c.pe;show(((dQ c.t s.l now c.pe).1.length:Nat):Int)<=c.t.pe;omega
  ·rename_i hag;split
   ·exact λhr=>absurd hr (by simp)
   ·rename_i YT;split
    ·exact λhr=>absurd hr (by simp)
    ·rename_i m' hm;intro hr;simp only[Option.some.injEq,Prod.mk.injEq] at hr;obtain⟨rfl,rfl⟩:=hr;obtain⟨m1,m2,m3⟩:=iw hm;have hn0:W.nth m'.q=0:=Classical.byContradiction λz=>by have:=h.seen _ z;omega
     have hd0:W.done m'.q=false:=by
      cases z:W.done m'.q with
      | false=>rfl
      | true=>have:=h.dn _ z;omega
     have hmo:c.t.mo=0\/1<=c.t.mo:=by
      have hk:=(Tk.iC hg.right).2.2.2.2;unfold Tk.tN at hk;split at hk
      ·simp only[Bool.and_eq_true,decide_eq_true_eq] at hk;omega
      ·split at hk
       ·unfold Tk.inB at hk;simp only[Bool.and_eq_true,decide_eq_true_eq] at hk;omega
       ·cases hk
     have hlast:=h.last;refine⟨⟨Af hs m1,m3,hd0,by rw[hn0];rfl,hmo,λ_=>by omega,λz=>absurd rfl z⟩,⟨by show W.cnt+1=c.cn+1;omega,λx hx=>?_,λq hq=>?_,λq hq=>by have:=h.dn q hq;show q<m'.q+1;omega,?_,λht=>?_⟩,by show c.cn+1=_;omega⟩
     ·have old:∀x∈(dQ c.t s.l now c.pe).1,fK W.nth m'.q 1 x.q=x.n/\fK W.due m'.q (now+Tk.aZ c.t 1) x.q=x.d/\W.done x.q=false:=λx hx=>by
       have hx2:=qO hag x hx;have:=(ho.low x hx2).2;rw[dh (by omega),dh (by omega)];exact h.pend x hx2
      show fK W.nth m'.q 1 x.q=x.n/\fK W.due m'.q (now+Tk.aZ c.t 1) x.q=x.d/\W.done x.q=false;simp only at hx;split at hx
      ·exact old x hx
      ·rcases List.mem_append.1 hx with q|q
       ·exact old x q
       ·rw[List.mem_singleton] at q;subst q;rw[upd_same,upd_same];exact⟨rfl,rfl,hd0⟩
     ·show q<m'.q+1;by_cases z:q=m'.q
      ·omega
      ·have:=h.seen q (by have:fK W.nth m'.q 1 q≠0:=hq;rwa [dh z] at this);omega
     ·show(if (1:Int)=1 then m'.q else W.last)<m'.q+1;rw[if_pos rfl];omega
     ·have h2:=jd (t:=c.t) (l:=s.l) (now:=now) c.pe;have ht':0<c.t.pe:=ht;have h1:(c.pe.length:Int)<=c.t.pe:=h.full ht';have h3:((dQ c.t s.l now c.pe).1.length:Int)<c.t.pe:=by
       by_cases z:c.t.pe<=((dQ c.t s.l now c.pe).1.length:Int)
       ·exact absurd ⟨by omega,z⟩ YT
       ·omega
      show(((if c.t.ack=0 then (dQ c.t s.l now c.pe).1 else (dQ c.t s.l now c.pe).1++[⟨m'.q,1,now+Tk.aZ c.t 1⟩]).length:Nat):Int)<=c.t.pe;split
      ·omega
      ·rw[List.length_append];simp only[List.length_singleton];omega
theorem Inv.ans (h:Inv c W)(hg:c.Go N)(q so:Int)(he:(dJ c now q so n).2=0):Inv (dJ c now q so n).1 (jw c.t W now q so n)/\∃p∈c.pe,p.q=q:=by
 have ho:=hg.ok;revert he
 unfold dJ;split
 ·exact λhe=>absurd he (by simp)
 ·rename_i hb;split
  ·exact λhe=>absurd he (by simp)
  ·rename_i hd;have hd:kW c.pe q=true:=by simpa using hd
   have hp:∃p∈c.pe,p.q=q:=by
    unfold kW at hd;obtain⟨p,hp,e⟩:=List.any_eq_true.1 hd;exact⟨p,hp,by simpa using e⟩
   obtain⟨p,hp,hpq⟩:=hp;have hlow:=ho.low p hp;rw[hpq] at hlow;have len:∀f:Dv->Bool,0<c.t.pe->(((c.pe.filter f).length:Nat):Int)<=c.t.pe:=λf ht=>by
    have h1:(c.pe.length:Int)<=c.t.pe:=h.full ht;have:=List.length_filter_le f c.pe;omega
   have lend:∀f:Dv->Int,0<c.t.pe->(((kX c.pe q f).length:Nat):Int)<=c.t.pe:=λf ht=>by
    have h1:(c.pe.length:Int)<=c.t.pe:=h.full ht;unfold kX;rw[List.length_map];exact h1
   have due:∀f:Dv->Int,∀v:Int,(∀x∈c.pe,x.q=q->f x=v)->∀x∈kX c.pe q f,W.nth x.q=x.n/\fK W.due q v x.q=x.d/\W.done x.q=false:=λf v hv x hx=>by
    obtain⟨y,hy,rfl⟩:=List.mem_map.1 hx;obtain⟨y1,y2,y3⟩:=h.pend y hy;by_cases z:y.q=q
    ·rw[if_pos z];refine⟨y1,?_,y3⟩;show fK W.due q v y.q=f y;rw[z,upd_same,hv y hy z]
    ·rw[if_neg z,dh z];exact⟨y1,y2,y3⟩
   split
   ·rename_i h1;intro _;have eW:jw c.t W now q so n=⟨W.nth,W.due,λx=>W.done x||(decide (W.nth x≠0)&&(decide (x=q)||(decide (c.t.ack=1)&&decide (x<q)))),W.last,W.cnt⟩:=by
     unfold jw;rw[if_neg (by omega),if_neg (by omega),if_neg (by omega)]
    rw[eW];refine⟨⟨h.cnt,λx hx=>?_,h.seen,λx hx=>?_,h.last,λht=>len _ ht⟩,p,hp,hpq⟩
    ·obtain⟨x1,x2⟩:=List.mem_filter.1 hx;obtain⟨y1,y2,y3⟩:=h.pend x x1;refine⟨y1,y2,?_⟩;show(W.done x.q||_)=false;rw[y3,Bool.false_or,Bool.and_eq_false_iff];right;split at x2
     ·rename_i ha;simp only[decide_eq_true_eq] at x2;rw[decide_eq_false (show ¬x.q=q by omega),decide_eq_false (show ¬x.q<q by omega),Bool.and_false];rfl
     ·rename_i ha;simp only[decide_eq_true_eq] at x2;rw[decide_eq_false x2,decide_eq_false ha];rfl
    ·have hx:(W.done x||(decide (W.nth x≠0)&&(decide (x=q)||(decide (c.t.ack=1)&&decide (x<q)))))=true:=hx;rw[Bool.or_eq_true,Bool.and_eq_true,decide_eq_true_eq] at hx;rcases hx with z|z
     ·exact h.dn x z
     ·exact h.seen x z.1
   ·split
    ·rename_i h1 h2;intro _;unfold jw;rw[if_pos h2];exact⟨⟨h.cnt,due _ _ (λ_ _ _=>rfl),h.seen,h.dn,h.last,λht=>lend _ ht⟩,p,hp,hpq⟩
    ·split
     ·rename_i h1 h2 h3;intro _;unfold jw;rw[if_neg h2,if_pos h3];refine⟨⟨h.cnt,due _ _ (λx hx e=>?_),h.seen,h.dn,h.last,λht=>lend _ ht⟩,p,hp,hpq⟩;rw[<-e,(h.pend x hx).1]
     ·rename_i h1 h2 h3;intro _;have h4:so=4:=by
       have ha:jW so n=true:=by
        rw[not_or] at hb;simpa using hb.2
       unfold jW at ha;rw[if_neg h2] at ha;simp only[Bool.and_eq_true,Bool.or_eq_true,decide_eq_true_eq] at ha;omega
      unfold jw;rw[if_neg h2,if_neg h3,if_pos h4];refine⟨⟨h.cnt,λx hx=>?_,h.seen,λx hx=>?_,h.last,λht=>len _ ht⟩,p,hp,hpq⟩
      ·obtain⟨x1,x2⟩:=List.mem_filter.1 hx;simp only[decide_eq_true_eq] at x2;obtain⟨y1,y2,y3⟩:=h.pend x x1;refine⟨y1,y2,?_⟩;show fK W.done q true x.q=false;rw[dh x2];exact y3
      ·by_cases z:x=q
       ·rw[z];exact hlow.2
       ·have hx:fK W.done q true x=true:=hx;rw[dh z] at hx;exact h.dn x hx
end
