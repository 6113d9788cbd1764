/- A part. -/
import Derived.Test.YtmhbobnfmncdbaaGreatDoorQ11
import Derived.Test.YtmhbobnfmncdbaaGreatDoorQ15
import Derived.Deep.DeepCutAuto
import Derived.Deep.RegionHeldLaw
set_option maxRecDepth 100000
set_option maxHeartbeats 8000000
namespace Go.Proofs.YtmhbobnfmncdbaaGreatDoor
open Go.RowKit Go.Proofs.Tryz
namespace Dk
theorem jP {r:Rc}(h:gZ r=0)(h1:r.k=1):aA false r.s=0:=by
 have e:=kJ r.k r.q r.t r.s r.h r.d;have e2:iW r.k r.q r.t r.s r.h r.d=0:=h;rw[e2] at e;by_cases hb:Pk.inB r.k r.q r.t=false
 ·rw[if_pos hb] at e;cases e
 ·rw[if_neg hb,if_pos h1] at e;unfold xZ at e;by_cases z:aA false r.s≠0
  ·rw[if_pos z] at e;exact e.symm
  ·exact Classical.byContradiction z
theorem aY.Ok.cnt {s:aY}(h:s.Ok):∃es,Cnt s.l es:=QK _ s.l rfl (λx hx=>⟨jP (h.msg x hx).2 (h.msg x hx).1,by have:=(h.small hx).1;omega⟩) h.names
abbrev nX (r:Rc):List Value:=[.int .i64 r.k,.int .i64 r.q,.int .i64 r.t,.string r.s,.string r.h,.string r.d]
def oR (o:Option Rc):Rc:=o.getD bY
def oE (o:Option Rc):Int:=match o with
 | some _=>0
 | none=>4
theorem kR (o:Option Rc):Nv o=.tuple #[.agg #[.int .i64 (oR o).k,.int .i64 (oR o).q,.int .i64 (oR o).t,.string (oR o).s,.string (oR o).h,.string (oR o).d],.int .i64 (oE o)]:=by
 cases o<;>rfl
abbrev zrO:Obj:=.cells #[.int .i64 0,.int .i64 0,.int .i64 0,.string ⟨#[]⟩,.string ⟨#[]⟩,.string ⟨#[]⟩] 33
theorem Jc {w w':World}(hb:Below (w.alloc zrO).drew.heap.size (w.alloc zrO).drew w'):CB w' w.heap.size (nX bY):=((CB.new w (nX bY) 33).next (Below.refl _ _).drew).next hb
abbrev O8 (g:Nat)(f:ByteArray)(n:Int)(w:World):Prop:=w.cell? ⟨g,1,none⟩=some (.string f)/\w.cell? ⟨g,10,none⟩=some (.int .i64 n)
theorem O8.alloc {g:Nat}{f:ByteArray}{n:Int}{W:World}{o:Obj}(h:O8 g f n W)(hg:g<W.heap.size):O8 g f n (W.alloc o):=⟨by rw[World.cell?_alloc_old _ _ _ (Nat.ne_of_lt hg)];exact h.1,by rw[World.cell?_alloc_old _ _ _ (Nat.ne_of_lt hg)];exact h.2⟩
theorem O8.abP {g:Nat}{f:ByteArray}{n:Int}{W:World}{o:Obj}(h:O8 g f n W.drew)(hg:g<W.heap.size):O8 g f n (W.alloc o).drew:=O8.alloc (o:=o) (W:=W) h hg
theorem O8.sets {g b:Nat}{f:ByteArray}{n:Int}(hg:g≠b):∀(vs:List Value) (o:Nat) (W:World),O8 g f n W->O8 g f n (W.setCells b o vs)
 | [],_,_,h=>h
 | v::r,o,W,h=>O8.sets hg r (o+1) _ ⟨by rw[World.cell?_setCell_other _ _ _ _ (by intro e;injection e;omega)];exact h.1,by rw[World.cell?_setCell_other _ _ _ _ (by intro e;injection e;omega)];exact h.2⟩
def tN (w wx:World)(bx:Nat)(o:Option Rc):Prop:=CB wx bx (nX (oR o))/\Below w.heap.size w wx/\w.heap.size<=bx
abbrev AY (r:Rc):Obj:=.cells #[.int .i64 r.k,.int .i64 r.q,.int .i64 r.t,.string r.s,.string r.h,.string r.d] 33
theorem yP {w w1:World}{o:Option Rc}(b1:Below w.drew.heap.size w.drew w1):tN w (w1.alloc (AY (oR o))) w1.heap.size o :=
 ⟨CB.new w1 (nX (oR o)) 33,((Below.refl w.heap.size w).drew.trans b1).alloc b1.size _,b1.size⟩
theorem yQ {w w1:World}{o:Option Rc}(hz:CB w1 w.heap.size (nX bY))(b1:Below (w.alloc zrO).drew.heap.size (w.alloc zrO).drew w1):tN w (w1.setCells w.heap.size 0 (nX (oR o))) w.heap.size o :=
 ⟨hz.dV (nX (oR o)) rfl,je (Nat.le_refl _) _ _ _ ((((Below.refl w.heap.size w).alloc (Nat.le_refl _) _).drew).trans (b1.mono (by simp))),Nat.le_refl _⟩
theorem tN.over {w wr w1:World}{bx:Nat}{o o':Option Rc}(h:tN w wr bx o)(b1:Below wr.heap.size wr w1):tN w (w1.setCells bx 0 (nX (oR o'))) bx o' :=
 ⟨(h.1.next b1).dV (nX (oR o')) rfl,je h.2.2 _ _ _ (h.2.1.trans (b1.mono h.2.1.size)),h.2.2⟩
theorem tN.cb {w wr w1:World}{bx:Nat}{o:Option Rc}(h:tN w wr bx o)(b1:Below wr.heap.size wr w1):CB w1 bx (nX (oR o)):=h.1.next b1
section
variable {SH:World->Nat->Nat->(Nat->Prop)->aY->Prop}
variable {w:World}{B b:Nat}{c:aV}{a:Option Addr}{ca:Nat}{v:Value}{B' q:Nat}{F:Nat->Prop}{s:aY}
theorem RI (H:aH SH)(h:Cm w B b c a ca v)(hs:SH w B' q F s)(hk:s.Ok)(hB:B'<=w.heap.size)(hf:aA true c.t.f=0)(hz:c.t.f.size<=140737488355328) :
 Calls prog 141 #[.pointer (some ⟨b,0,none⟩),.pointer (some ⟨q,0,none⟩)] w λe w'=>e=.returned (.int .i64 (bC c.t.f s.l c.pl:Int))/\Below w.heap.size w w':=by
 have PX:Hid (∀W n,Below w.heap.size w W->Calls prog 103 #[.pointer (some ⟨q,0,none⟩),.string c.t.f,.int .i64 n] W λe w'=>e=.returned (.tuple #[.agg #[.int .i64 (oR (aO c.t.f s.l n)).k,.int .i64 (oR (aO c.t.f s.l n)).q,.int .i64 (oR (aO c.t.f s.l n)).t,.string (oR (aO c.t.f s.l n)).s,.string (oR (aO c.t.f s.l n)).h,.string (oR (aO c.t.f s.l n)).d],.int .i64 (oE (aO c.t.f s.l n))])/\Below W.heap.size W w'):=aj (λW n hb=>by
  have:=H.next c.t.f n hz (H.bn (A:=λ_=>False) hs (aB.of_below hb) (λ_ _ z=>z)) hk (Nat.le_trans hB hb.size);unfold dh at this;rw[if_pos hf,kR] at this;exact this)
 have HC:Hid (∀W,Below w.heap.size w W->W.cell? ⟨b,1,none⟩=some (.string c.t.f)/\W.cell? ⟨b,10,none⟩=some (.int .i64 c.pl)):=aj (λW hb=>⟨(h.next hb).tb.c1,(h.next hb).pl⟩);obtain⟨y1,y10⟩:=ah HC w (Below.refl _ _);have hbl:=h.tb.lt;have HK:=aj hk;clear h hs hk hf;have k0:O8 b c.t.f c.pl w.drew:=⟨y1,y10⟩;obtain⟨f,KT⟩:∃f,c.t.f=f:=⟨_,rfl⟩;obtain⟨pl,hpl⟩:∃pl,c.pl=pl:=⟨_,rfl⟩;rw[KT,hpl] at k0 HC;rw[KT] at y1;rw[hpl] at y10;rw[KT] at PX hz;rw[KT,hpl];clear KT hpl;obtain⟨o,ho⟩:∃o,aO f s.l pl=o:=⟨_,rfl⟩;have XR:Hid (∀W,(W=w.drew\/∃o,W=(w.alloc o).drew)->_):=aj (λW hW=>ah PX W pl (by
  rcases hW with e|⟨o,e⟩
  ·rw[e];exact(Below.refl _ _).drew
  ·rw[e];exact((Below.refl _ _).alloc (Nat.le_refl _) _).drew))
 rw[ho] at XR;have HO:=aj ho;clear ho;go_enter func141,ntmps141;go_upto_region 2 with fail
 go_cut [6,7] (λv u wx=>∃bx,v=.pointer (some ⟨bx,0,none⟩)/\u=.int .i64 (oE o)/\Hid (tN w wx bx o))
 case first =>
  go_region_with (go_at_call 103;refine(ah XR _ (by first|(with_reducible exact .inl rfl)|(with_reducible exact .inr ⟨_,rfl⟩))).mono ?_;rintro e w1 ⟨rfl,b1⟩;first|(have hz1:CB w1 w.heap.size (nX bY):=(by with_reducible exact Jc b1);have z0:=hz1.cell 0 _ rfl;have z1:=hz1.cell 1 _ rfl;have z2:=hz1.cell 2 _ rfl;have z3:=hz1.cell 3 _ rfl;have z4:=hz1.cell 4 _ rfl;have z5:=hz1.cell 5 _ rfl;have f0:=hz1.fr 0;have f1:=hz1.fr 1;have f2:=hz1.fr 2;have f3:=hz1.fr 3;have f4:=hz1.fr 4;have f5:=hz1.fr 5)|skip)
  all_goals
   first
   | (
    have HL:=aj (yQ (o:=o) hz1 b1)
    clear z0 z1 z2 z3 z4 z5 f0 f1 f2 f3 f4 f5 hz1 b1
    go_wp2_with fail
    go_meet
    exact⟨_,rfl,rfl,HL⟩)
   | (
    have HL:=aj (yP (o:=o) b1)
    clear b1
    go_wp2_with fail
    go_meet
    exact⟨_,rfl,rfl,HL⟩)
 case rest =>
  obtain⟨bx,rfl,rfl,HA⟩:=hcut;have HR:Hid (vZ f s.l o=bC f s.l pl):=aj (by rw[<-ah HO];exact KW (ah HK).rise);have HQ:Hid (∀n m,aO f s.l n=some m->1<=m.q/\m.q<=1099511627776):=aj (λn m hm=>(ah HK).seq (lF hm).1);have HM:Hid (∀m,o=some m->1<=m.q/\m.q<=1099511627776):=aj (λm hm=>ah HQ pl m (by rw[ah HO];exact hm));have hfew:bC f s.l pl<=200:=Nat.le_trans Rf (ah HK).few;obtain⟨N,hN⟩:∃N,bC f s.l pl=N:=⟨_,rfl⟩;rw[hN] at HR hfew;have HN:=aj hN;clear hN XR;go_wp2_with fail;go_loopg [5,6,7] N (λgg s5 s6 s7 wr=>∃(n bx:Nat) (o:Option Rc),s5=.int .i64 n/\s6=.pointer (some ⟨bx,0,none⟩)/\s7=.int .i64 (oE o)/\Hid (tN w wr bx o)/\n+vZ f s.l o=N/\vZ f s.l o<=gg/\Hid (∀m,o=some m->1<=m.q/\m.q<=1099511627776))
  case atStart=>exact⟨0,bx,o,rfl,rfl,rfl,HA,by rw[ah HR];simp,by rw[ah HR];exact Nat.le_refl _,HM⟩
  case round =>
   obtain⟨n,bx,o,rfl,rfl,rfl,HA,hn,hg,HM⟩:=hrel
   cases o with
   | none =>
    rw[show oE none=4 from rfl];have hn0:n=N:=by simpa[vZ] using hn
    clear hn hg;subst hn0;go_wp2_with fail;go_ret;rw[ah HN];exact⟨rfl,(ah HA).2.1⟩
   | some m =>
    rw[show oE (some m)=0 from rfl];obtain⟨hm1,hm2⟩:=ah HM m rfl;have hw1:IntKind.i64.wrap (m.q+1)=m.q+1:=by rw[IntKind.wrap_i64];omega
    have c0:=(ah HA).1.cell 0 _ rfl;have c1:=(ah HA).1.cell 1 _ rfl;have c2:=(ah HA).1.cell 2 _ rfl;have c3:=(ah HA).1.cell 3 _ rfl;have c4:=(ah HA).1.cell 4 _ rfl;have c5:=(ah HA).1.cell 5 _ rfl;rw[show oR (some m)=m from rfl] at c0 c1 c2 c3 c4 c5;have bA:Below wr.heap.size wr (wr.alloc (AY m)):=(Below.refl _ _).alloc (Nat.le_refl _) _;have A2:Hid (tN w (wr.alloc (AY m)).drew wr.heap.size (some m)):=aj ⟨(CB.new wr (nX m) 33).next (Below.refl _ _).drew,((ah HA).2.1.trans (bA.mono (ah HA).2.1.size)).drew,(ah HA).2.1.size⟩;obtain⟨yf,ypl⟩:=ah HC _ (ah A2).2.1
    have d1:=(ah A2).1.cell 1 _ rfl;rw[show oR (some m)=m from rfl] at d1;have HCB:Hid (∀w1,Below (wr.alloc (AY m)).drew.heap.size (wr.alloc (AY m)).drew w1->CB w1 wr.heap.size (nX m)):=aj (λw1 b1=>tN.cb (ah A2) b1);have PN:=aj (ah PX (wr.alloc (AY m)).drew (m.q+1) (ah A2).2.1);have HR2:Hid (vZ f s.l (aO f s.l (m.q+1))=bC f s.l (m.q+1)):=aj (KW (ah HK).rise);have HM2:Hid (∀m',aO f s.l (m.q+1)=some m'->1<=m'.q/\m'.q<=1099511627776):=aj (λm' h=>ah HQ (m.q+1) m' h);obtain⟨o',ho'⟩:∃o',aO f s.l (m.q+1)=o':=⟨_,rfl⟩;rw[ho'] at PN HR2 HM2;have hrest:vZ f s.l (some m)=bC f s.l (m.q+1)+1:=rfl
    rw[hrest] at hn hg;have hn5:n<=200:=by omega
    clear ho' bA hrest HM;go_wp2_with fail;go_region_with (go_at_call 103;with_reducible refine(ah PN).mono ?_;rintro e w1 ⟨rfl,b1⟩;have hz1:=ah HCB _ b1;have z0:=hz1.cell 0 _ rfl;have z1:=hz1.cell 1 _ rfl;have z2:=hz1.cell 2 _ rfl;have z3:=hz1.cell 3 _ rfl;have z4:=hz1.cell 4 _ rfl;have z5:=hz1.cell 5 _ rfl;have f0:=hz1.fr 0;have f1:=hz1.fr 1;have f2:=hz1.fr 2;have f3:=hz1.fr 3;have f4:=hz1.fr 4;have f5:=hz1.fr 5)
    all_goals
     have HL:=aj (tN.over (o':=o') (ah A2) b1)
     clear z0 z1 z2 z3 z4 z5 f0 f1 f2 f3 f4 f5 hz1 b1 PN A2 HA c0 c1 c2 c3 c4 c5 d1 yf ypl
     go_wp2_with fail
     go_roundg (vZ f s.l o')
     case measure=>rw[ah HR2];omega
     case rel=>exact⟨n+1,wr.heap.size,o',by go_num,rfl,rfl,HL,by rw[ah HR2];omega,Nat.le_refl _,HM2⟩
end
theorem Oc {b:Nat}:∀(us:List Value) (o:Nat) (w:World),(w.setCells b o us).heap.size=w.heap.size
 | [],_,_=>rfl
 | u::r,o,w=>(Oc r (o+1) _).trans (by simp[World.setCell])
theorem tV {g:Nat}:∀(vs:List Value) (o:Nat) (w:World),aB (λk=>k=g) w (w.setCells g o vs)
 | [],_,_=>aB.refl _ _
 | v::r,o,_=>(aB.setCell (A:=λk=>k=g) (p:=⟨g,o,none⟩) (aB.refl _ _) (.inl rfl) v).trans (tV r (o+1) _)
abbrev Jd:Obj:=.cells #[.int .i64 0,.string ⟨#[]⟩,.string ⟨#[]⟩,.int .i64 0,.int .i64 0,.int .i64 0] 47
abbrev XT (g b:Nat)(m:Rc)(n:Int)(W:World):Prop:=W.cell? ⟨g,1,none⟩=some (.int .i64 m.q)/\W.cell? ⟨g,3,none⟩=some (.string m.s)/\W.cell? ⟨g,5,none⟩=some (.string m.d)/\W.cell? ⟨b,12,none⟩=some (.int .i64 n)
theorem XT.sets {g b x:Nat}{m:Rc}{n:Int}(h1:g≠x)(h2:b≠x):∀(vs:List Value) (o:Nat) (W:World),XT g b m n W->XT g b m n (W.setCells x o vs)
 | [],_,_,h=>h
 | v::r,o,W,h=>XT.sets h1 h2 r (o+1) _ ⟨by rw[World.cell?_setCell_other _ _ _ _ (by intro e;injection e;omega)];exact h.1,by rw[World.cell?_setCell_other _ _ _ _ (by intro e;injection e;omega)];exact h.2.1,by rw[World.cell?_setCell_other _ _ _ _ (by intro e;injection e;omega)];exact h.2.2.1,by rw[World.cell?_setCell_other _ _ _ _ (by intro e;injection e;omega)];exact h.2.2.2⟩
section
variable {w:World}{B b:Nat}{c c':aV}{a:Option Addr}{ca:Nat}{v:Value}
theorem bH.out {W0 w2:World}{bx:Nat}{vs:List Value}(h:Cm w B b c a ca v)(b0:Below w.heap.size w W0)(hbx:w.heap.size<=bx)(hr:CB W0 bx vs)(hu:bH W0 w2 B b a ca v c'):CB w2 bx vs/\∀us:List Value,us.length=vs.length->bH w (w2.setCells bx 0 us) B b a ca v c'/\CB (w2.setCells bx 0 us) bx us:=by
 obtain⟨v',k,ch,hg⟩:=hu;have hlt:=h.tb.lt;have hbb:bx≠b:=by omega
 have hvb:v.ownBlock≠some bx:=λq=>by have:=(h.row.lt _ q).2;omega
 have hr2:CB w2 bx vs:=hr.bn ch (λq=>by
  rcases q with q|q
  ·exact hbb q
  ·exact hvb q)
 refine⟨hr2,λus hl=>?_⟩;have cs:=tV (g:=bx) us 0 w2;have hv':v'.ownBlock≠some bx:=λq=>by
  rcases hg _ q with z|z
  ·exact hvb z
  ·have:=hr.lt;omega
 have hs0:=b0.size;refine⟨⟨v',k.bn cs (λq=>hbb q.symm) (λg hq z=>hv' (by rw[hq];exact congrArg some z)) (λz hz q=>by have:=(h.al z hz).2;omega),⟨cs.os.trans (ch.os.trans b0.os),cs.tape.trans (ch.tape.trans b0.tape),cs.output.trans (ch.output.trans b0.output),Nat.le_trans b0.size (Nat.le_trans ch.size cs.size),λi hi hn=>?_⟩,λg hq=>?_⟩,hr2.dV us hl⟩
 ·have:=ch.size;rw[cs.block i (by omega) (by omega),ch.block i (by omega) hn];exact b0.block i hi
 ·rcases hg g hq with z|z
  ·exact .inl z
  ·exact .inr (by omega)
variable {SH:World->Nat->Nat->(Nat->Prop)->aY->Prop}{B' q:Nat}{F:Nat->Prop}{s:aY}
theorem wB (H:aH SH)(h:Cm w B b c a ca v)(hs:SH w B' q F s)(hk:s.Ok)(hB:B'<=w.heap.size)(hF:∀k,F k->¬jF b v k)(hf:aA true c.t.f=0)(hz:c.t.f.size<=140737488355328)(hcn:0<=c.cn/\c.cn<=1000000000000)(m:Rc)(nth:Int) :
 Calls prog 102 #[.pointer (some ⟨b,0,none⟩),.pointer (some ⟨q,0,none⟩),.agg #[.int .i64 m.k,.int .i64 m.q,.int .i64 m.t,.string m.s,.string m.h,.string m.d],.int .i64 nth] w λe w'=>e=.returned (CO ⟨m.q,m.s,m.d,c.cn+1,nth,(bC c.t.f s.l c.pl:Int)⟩)/\bH w w' B b a ca v ⟨c.t,c.pl,c.pe,c.cn+1⟩:=by
 obtain⟨W0,hW0⟩:∃W0,W0=(w.alloc (AY m)).alloc Jd:=⟨_,rfl⟩;have b0:Below w.heap.size w W0:=by rw[hW0];exact((Below.refl _ _).alloc (Nat.le_refl _) _).alloc (by simp) _
 have hsz:W0.heap.size=w.heap.size+2:=by rw[hW0];simp
 have rm:CB W0 w.heap.size (nX m):=by rw[hW0];exact(CB.new w (nX m) 33).next ((Below.refl _ _).alloc (Nat.le_refl _) _)
 have rd:CB W0 (w.heap.size+1) (jo bJ):=by
  rw[hW0];have:=CB.new (w.alloc (AY m)) (jo bJ) 47;rw[World.size_alloc] at this;exact this
 have h0:=h.next b0;have c12:=h0.cn;have f12:=h0.fr 12;have hbl:=h0.tb.lt;have hlt:=h.tb.lt;have u1:=bH.put h0 (aB.refl _ W0) (j:=12) (u:=.int .i64 (c.cn+1)) (v':=v) (pl:=c.pl) (cn:=c.cn+1) (.inr (.inl ⟨rfl,rfl,rfl,rfl⟩)) h0.row (λ_ q=>.inl q);obtain⟨W1,hW1⟩:∃W1,W1=W0.setCell ⟨b,12,none⟩ (.int .i64 (c.cn+1)):=⟨_,rfl⟩;rw[<-hW1] at u1;have cW:aB (λk=>k=b) W0 W1:=by rw[hW1];exact aB.setCell (A:=λk=>k=b) (p:=⟨b,12,none⟩) (aB.refl _ _) (.inl rfl) _
 have hk1:Cm W1 B b ⟨c.t,c.pl,c.pe,c.cn+1⟩ a ca v:=by rw[hW1];exact h0.put (aB.refl _ W0) (.inr (.inl ⟨rfl,rfl,rfl,rfl⟩)) h0.row (λ_ q=>.inl q)
 have hs1:SH W1 B' q F s:=H.bn (H.bn (A:=λ_=>False) hs (aB.of_below b0) (λ_ _ z=>z)) cW (λk hq z=>hF k hq (.inl z));have PL:=aj (RI H (hk1.next (Below.refl _ _).drew) (H.bn (A:=λ_=>False) hs1 (aB.of_below (Below.refl _ _).drew) (λ_ _ z=>z)) hk (Nat.le_trans hB (Nat.le_trans b0.size cW.size)) hf hz);have zo:=rm.bn cW (by show ¬(w.heap.size=b);omega);have r1:W1.drew.cell? ⟨w.heap.size,1,none⟩=some (.int .i64 m.q):=zo.cell 1 _ rfl;have r3:W1.drew.cell? ⟨w.heap.size,3,none⟩=some (.string m.s):=zo.cell 3 _ rfl;have r5:W1.drew.cell? ⟨w.heap.size,5,none⟩=some (.string m.d):=zo.cell 5 _ rfl
 have e12:W1.drew.cell? ⟨b,12,none⟩=some (.int .i64 (c.cn+1)):=hk1.cn;have HO:Hid (∀w2,Below W1.drew.heap.size W1.drew w2->CB w2 (w.heap.size+1) (jo bJ)/\∀us:List Value,us.length=6->bH w (w2.setCells (w.heap.size+1) 0 us) B b a ca v ⟨c.t,c.pl,c.pe,c.cn+1⟩/\CB (w2.setCells (w.heap.size+1) 0 us) (w.heap.size+1) us):=aj (λw2 b2=>bH.out h b0 (by omega) rd (bH.trans (cW.mono (λ_ _ q=>.inl q)) (λ_ q=>.inl q) (bH.same hk1 (((Below.refl W1.heap.size W1).drew).trans b2))));have HSame:Hid (∀w2,Below W1.drew.heap.size W1.drew w2->w2.cell? ⟨w.heap.size,1,none⟩=some (.int .i64 m.q)/\w2.cell? ⟨w.heap.size,3,none⟩=some (.string m.s)/\w2.cell? ⟨w.heap.size,5,none⟩=some (.string m.d)/\w2.cell? ⟨b,12,none⟩=some (.int .i64 (c.cn+1))):=aj (λw2 b2=>⟨(b2.cell (p:=⟨w.heap.size,1,none⟩) (show w.heap.size<W1.heap.size by have:=cW.size;omega)).trans r1,(b2.cell (p:=⟨w.heap.size,3,none⟩) (show w.heap.size<W1.heap.size by have:=cW.size;omega)).trans r3,(b2.cell (p:=⟨w.heap.size,5,none⟩) (show w.heap.size<W1.heap.size by have:=cW.size;omega)).trans r5,(b2.cell (p:=⟨b,12,none⟩) (show b<W1.heap.size by have:=cW.size;omega)).trans e12⟩)
 obtain⟨L,hL⟩:∃L:Int,(bC c.t.f s.l c.pl:Int)=L:=⟨_,rfl⟩;rw[show(bC (⟨c.t,c.pl,c.pe,c.cn+1⟩:aV).t.f s.l (⟨c.t,c.pl,c.pe,c.cn+1⟩:aV).pl:Int)=L from hL] at PL;rw[hL];obtain⟨hc1,hc2⟩:=hcn;clear h h0 hs hk hF hf hz u1 hk1 hs1 rm zo rd cW hL;go_enter func102,ntmps102;go_upto_region 1 with fail
 rw[<-hW0];clear hW0;go_upto_region 2 with fail
 rw[<-hW1];clear hW1;have hn1:w.heap.size≠w.heap.size+1:=by omega
 have hn2:b≠w.heap.size+1:=by omega
 have k0:XT w.heap.size b m (c.cn+1) W1.drew:=⟨r1,r3,r5,e12⟩;clear r1 r3 r5 e12;go_region_held_law (XT w.heap.size b m (c.cn+1)) (first|with_reducible assumption|exact XT.sets (by assumption) (by assumption) [_,_,_,_,_,_] 0 _ (by assumption))
  (first
   | (
    go_at_call 141;with_reducible refine(ah PL).mono ?_;rintro e w2 ⟨rfl,b2⟩
    have k2:XT w.heap.size b m (c.cn+1) w2:=ah HSame _ b2
    have hz2:=(ah HO _ b2).1;have z0:=hz2.cell 0 _ rfl;have z1:=hz2.cell 1 _ rfl;have z2:=hz2.cell 2 _ rfl;have z3:=hz2.cell 3 _ rfl;have z4:=hz2.cell 4 _ rfl;have z5:=hz2.cell 5 _ rfl;have g0:=hz2.fr 0;have g1:=hz2.fr 1;have g2:=hz2.fr 2;have g3:=hz2.fr 3;have g4:=hz2.fr 4;have g5:=hz2.fr 5))
 all_goals
  have HF:=aj ((ah HO _ b2).2 (jo ⟨m.q,m.s,m.d,c.cn+1,nth,L⟩) rfl)
  clear z0 z1 z2 z3 z4 z5 g0 g1 g2 g3 g4 g5 hz2 b2 HO HSame PL
  go_wp2_with fail
  exact bodyPost_ret (vN rfl rfl (ah HF).2) rfl ⟨rfl,(ah HF).1⟩
end
theorem RJ (w:World)(l:List Rc)(T:TypeId):um (w.alloc (.cells (aC l).toArray T)) (some ⟨w.heap.size,0,none⟩) l:=λk hk=>by
 refine⟨w.heap.size,0,rfl,?_⟩;have hat:=Ci l k hk;refine⟨by simp,?_,?_,?_,?_,?_,?_⟩
 ·rw[cell_of_row _ w.heap.size _ _ _ _ (heap_alloc_new w _),Nat.zero_add];simpa using hat.1
 ·rw[cell_of_row _ w.heap.size _ _ _ _ (heap_alloc_new w _),Nat.zero_add];simpa using hat.2.1
 ·rw[cell_of_row _ w.heap.size _ _ _ _ (heap_alloc_new w _),Nat.zero_add];simpa using hat.2.2.1
 ·rw[cell_of_row _ w.heap.size _ _ _ _ (heap_alloc_new w _),Nat.zero_add];simpa using hat.2.2.2.1
 ·rw[cell_of_row _ w.heap.size _ _ _ _ (heap_alloc_new w _),Nat.zero_add];simpa using hat.2.2.2.2.1
 ·rw[cell_of_row _ w.heap.size _ _ _ _ (heap_alloc_new w _),Nat.zero_add];simpa using hat.2.2.2.2.2
def lM (n:Int):Rc:=⟨1,n,0,⟨#[97,46,98]⟩,⟨#[]⟩,⟨#[120]⟩⟩
def cu (n:Int)(f:ByteArray):Rc:=⟨3,n,0,f,⟨#[]⟩,⟨#[]⟩⟩
theorem YX:(fU [lM 4,lM 7,cu 7 ⟨#[62]⟩]).l.length=1:=by decide +kernel
def Lh (E n:Int)(f:ByteArray)(x:Rc):Bool:=(E !=0)||(decide (n<=x.q)||!aF f x.s)
theorem YZ {s:aY}(h:s.Ok)(n:Int)(f:ByteArray):(ig s (cu n f)).l=s.l.filter (Lh (bT s (cu n f)) n f)/\(ig s (cu n f)).last=s.last:=by
 by_cases h0:bT s (cu n f)=0
 ·rw[yu h0 rfl,h0];refine⟨?_,rfl⟩;have hc:gZ (cu n f)=0:=by rw[<-Nu (s:=s) (r:=cu n f) rfl];exact h0
  have hf:aA true f=0:=by
   have e:=kJ (cu n f).k (cu n f).q (cu n f).t (cu n f).s (cu n f).h (cu n f).d;have e2:iW (cu n f).k (cu n f).q (cu n f).t (cu n f).s (cu n f).h (cu n f).d=0:=hc;rw[e2] at e;by_cases hb:Pk.inB (cu n f).k (cu n f).q (cu n f).t=false
   ·rw[if_pos hb] at e;cases e
   ·rw[if_neg hb,if_neg (show ¬(cu n f).k=1 by simp[cu]),if_pos (show(cu n f).k=3 from rfl)] at e;unfold yg at e;by_cases z:aA true (cu n f).s≠0
    ·rw[if_pos z] at e;exact e.symm
    ·exact Classical.byContradiction z
  show s.l.filter _=s.l.filter _;refine List.filter_congr (λx hx=>?_);have hx2:=h.msg x hx;have hs:aA false x.s=0:=by
   have e:=kJ x.k x.q x.t x.s x.h x.d;have e2:iW x.k x.q x.t x.s x.h x.d=0:=hx2.2;rw[e2] at e;by_cases hb:Pk.inB x.k x.q x.t=false
   ·rw[if_pos hb] at e;cases e
   ·rw[if_neg hb,if_pos hx2.1] at e;unfold xZ at e;by_cases z:aA false x.s≠0
    ·rw[if_pos z] at e;exact e.symm
    ·exact Classical.byContradiction z
  unfold Lh aF iY;rw[hf,hs];show(!(decide (x.q<n)&&aU (Pl.toks f) (Pl.toks x.s)))=_;by_cases z:x.q<n
  ·rw[decide_eq_true z,decide_eq_false (show ¬n<=x.q by omega)];simp
  ·rw[decide_eq_false z,decide_eq_true (show n<=x.q by omega)];simp
 ·have e:ig s (cu n f)=s:=by unfold ig;rw[if_pos h0]
  rw[e];refine⟨?_,rfl⟩;have hb:(bT s (cu n f) !=0)=true:=by simpa using h0
  have:∀x,Lh (bT s (cu n f)) n f x=true:=λx=>by unfold Lh;rw[hb];rfl
  rw[List.filter_eq_self.2 (λx _=>this x)]
def Gh (SH:World->Nat->Nat->(Nat->Prop)->aY->Prop)(Cs:Nat->Prop)(w wr:World)(q:Nat)(s:aY):Prop:=∃F,SH wr w.heap.size q F s/\Below w.heap.size w wr/\∀k,Cs k->k<wr.heap.size/\¬F k
section
variable {SH:World->Nat->Nat->(Nat->Prop)->aY->Prop}{Cs:Nat->Prop}{w wr w':World}{q:Nat}{s s':aY}
theorem Made.all (H:aH SH)(h:Made SH w wr q s)(hk:s.Ok) :
 Calls prog 29 #[.pointer (some ⟨q,0,none⟩)] wr λe w'=>∃a c,e=.returned (.slice a s.l.length c)/\(s.l.length<=c/\c<=maxLen)/\um w' a s.l/\Gh SH (λk=>∃z,a=some z/\z.block=k) w w' q s/\Below wr.heap.size wr w':=by
 have hr:=h.room;obtain⟨F,h1,h2⟩:=h;refine(H.all h1 hk hr).mono ?_;rintro e w' ⟨v,he,hA,hb⟩;obtain⟨a,c,rfl,hc1,hc2,hs⟩:=hA.shape;have ha:∀z,a=some z->wr.heap.size<=z.block/\z.block<w'.heap.size:=λz hz=>World.ownsRow.lt hA z.block (by rw[hz];rfl)
 refine⟨a,c,he,⟨hc1,hc2⟩,hs,⟨F,H.bn (A:=λ_=>False) h1 (aB.of_below hb) (λ_ _ z=>z),h2.trans (hb.mono hr),λk hk=>?_⟩,hb⟩;obtain⟨z,hz,rfl⟩:=hk;exact⟨(ha z hz).2,λy=>by have:=(H.own h1 _ y).2;have:=(ha z hz).1;omega⟩
theorem Gh.made (h:Gh SH Cs w wr q s):Made SH w wr q s:=by obtain⟨F,h1,h2,_⟩:=h;exact⟨F,h1,h2⟩
theorem Gh.below (H:aH SH)(h:Gh SH Cs w wr q s)(hb:Below wr.heap.size wr w'):Gh SH Cs w w' q s:=by
 have hr:=h.made.room;obtain⟨F,h1,h2,h3⟩:=h;exact⟨F,H.bn (A:=λ_=>False) h1 (aB.of_below hb) (λ_ _ z=>z),h2.trans (hb.mono hr),λk hk=>⟨Nat.lt_of_lt_of_le (h3 k hk).1 hb.size,(h3 k hk).2⟩⟩
theorem Gh.did (H:aH SH)(h:Gh SH Cs w wr q s){fn:FuncId}{args:Array Value}{Q:Ending->World->Prop}
 (hc:∀F,SH wr w.heap.size q F s->Calls prog fn args wr λe w'=>Q e w'/\nS SH wr w' w.heap.size q F s') :
 Calls prog fn args wr λe w'=>Q e w'/\Made SH w w' q s'/\∀k,Cs k->k<wr.heap.size/\w'.heap[k]?=wr.heap[k]?:=by
 have hr:=h.made.room;obtain⟨F,h1,h2,h3⟩:=h;refine(hc F h1).mono ?_;rintro e w' ⟨hq,F',a1,a2,_⟩;exact⟨hq,⟨F',a1,h2.trans (a2.below hr (λk hk z=>by have:=(H.own h1 k z).1;omega))⟩,λk hk=>⟨(h3 k hk).1,a2.block k (h3 k hk).1 (h3 k hk).2⟩⟩
theorem Made.sums (H:aH SH)(h:Made SH w wr q s)(hk:s.Ok) :
 Calls prog 98 #[.pointer (some ⟨q,0,none⟩)] wr λe w'=>e=.returned (.agg #[.int .i64 (s.l.length:Int),.int .i64 (gG s.l:Int),.int .i64 (qV s.l),.int .i64 s.last])/\Below wr.heap.size wr w':=by
 have hr:=h.room;obtain⟨F,h1,_⟩:=h;exact H.sums h1 hk hr
end
theorem aaP {w wr:World}{B:Nat}{ov:Value}{out:List Rc}(h:bW wr B ov out)(hb:Below B w wr)(r:Rc)(hl:out.length<=200000)(hB:B<=wr.heap.size)(T:TypeId)(hT:T=33) :
 ∃v8 w8,(Builtin.append_ #[25,25] 25 #[ov,.slice (some ⟨wr.heap.size,0,none⟩) 1 1]).run prog (wr.alloc (.cells #[.int .i64 r.k,.int .i64 r.q,.int .i64 r.t,.string r.s,.string r.h,.string r.d] T))=.ok v8 w8/\bW w8 B v8 (out++[r])/\Below B w w8:=by
 subst hT;have hb7:Below wr.heap.size wr (wr.alloc (.cells #[.int .i64 r.k,.int .i64 r.q,.int .i64 r.t,.string r.s,.string r.h,.string r.d] 33)):=(Below.refl _ _).alloc (Nat.le_refl _) _;have h7:=h.below hb7;obtain⟨v8,w8,hrun,A8,C8,_⟩:=jd _ B 25 ov out [r] h7 ⟨wr.heap.size,0,none⟩ 1 (pY wr r) (by simp;omega) (Nat.le_trans hB hb7.size);exact⟨v8,w8,hrun,A8,(hb.trans (hb7.mono hB)).trans (C8.below (Nat.le_trans hB hb7.size) (λk hk z=>by have:=(World.ownsRow.lt h7 k z).1;omega))⟩
theorem Oe {p:Rc->Bool}{l:List Rc}{k:Nat}(h:k<l.length):(l.take (k+1)).filter p=(l.take k).filter p++(if p (rc l k) then [rc l k] else []):=by
 rw[List.take_succ_eq_append_getElem h,<-aW h,List.filter_append];simp only[List.filter_cons,List.filter_nil]
theorem aaQ (x0 x1 x2 x3:Value)(W:World):(Instr.field 159 (.agg #[x0,x1,x2,x3]) 0).run prog W=.ok x0 W:=by kernel_rfl
theorem aaR (x0 x1 x2 x3:Value)(W:World):(Instr.field 159 (.agg #[x0,x1,x2,x3]) 3).run prog W=.ok x3 W:=by kernel_rfl
