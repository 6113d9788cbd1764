/- A part. -/
import Derived.Test.YtebofkkfbkodiaaGreatDoorQ17
import Derived.Deep.DeepCutAuto
import Derived.Deep.RegionHeldLaw
set_option maxRecDepth 100000
set_option maxHeartbeats 8000000
namespace Go.Proofs.YtebofkkfbkodiaaGreatDoor
open Go.RowKit Go.Proofs.Tryz
namespace Dk
variable {w1 wr:I}{o:Option Rc}{bx:Nat}
abbrev FU (r:Rc):List Value:=[aa r.k,aa r.q,aa r.t,.string r.s,.string r.h,.string r.d]
def oR (o:Option Rc):Rc:=o.getD eU
def oE (o:Option Rc):Int:=match o with
 | some _=>0
 | none=>4
theorem DU (o:Option Rc):aep o=.tuple #[.agg #[aa (oR o).k,aa (oR o).q,aa (oR o).t,.string (oR o).s,.string (oR o).h,.string (oR o).d],aa (oE o)]:=by
 cases o<;>rfl
abbrev zrO:Obj:=.cells #[aa 0,aa 0,aa 0,.string ⟨#[]⟩,.string ⟨#[]⟩,.string ⟨#[]⟩] 46
theorem abP {w w':I}(hb:Below (w.alloc zrO).drew.heap.size (w.alloc zrO).drew w'):CB w' w.heap.size (FU eU):=((CB.new w (FU eU) 46).next (agP _ _).drew).next hb
abbrev TwC (g:Nat)(f:ad)(n:Int)(w:I):Prop:=w.cell? (aq g 1)=some (.string f)/\w.cell? (aq g 10)=some (aa n)
def Bo (w wx:I)(bx:Nat)(o:Option Rc):Prop:=CB wx bx (FU (oR o))/\ai w wx/\w.heap.size<=bx
abbrev ZY (r:Rc):Obj:=.cells #[aa r.k,aa r.q,aa r.t,.string r.s,.string r.h,.string r.d] 46
theorem Qm {w:I}(b1:Below w.drew.heap.size w.drew w1):Bo w (w1.alloc (ZY (oR o))) w1.heap.size o :=
 ⟨CB.new w1 (FU (oR o)) 46,((agP w.heap.size w).drew.trans b1).alloc b1.size _,b1.size⟩
theorem Qn {w:I}(hz:CB w1 w.heap.size (FU eU))(b1:Below (w.alloc zrO).drew.heap.size (w.alloc zrO).drew w1):Bo w (w1.setCells w.heap.size 0 (FU (oR o))) w.heap.size o :=
 ⟨hz.gG (FU (oR o)) rfl,oz (agH _) _ _ _ ((((agP w.heap.size w).alloc (agH _) _).drew).trans (b1.mono (by simp))),agH _⟩
theorem Bo.over {w:I}{o':Option Rc}(h:Bo w wr bx o)(b1:ai wr w1):Bo w (w1.setCells bx 0 (FU (oR o'))) bx o' :=
 ⟨(h.1.next b1).gG (FU (oR o')) rfl,oz h.2.2 _ _ _ (h.2.1.trans (b1.mono h.2.1.size)),h.2.2⟩
theorem Bo.cb {w:I}(h:Bo w wr bx o)(b1:ai wr w1):CB w1 bx (FU (oR o)):=h.1.next b1
section
variable {SH:I->Nat->Nat->af->aH->Prop}
variable {w:I}{B b:Nat}{c:bM}{a:Option Addr}{ca:Nat}{v:Value}{B' q:Nat}{F:af}{s:aH}
theorem abQ (H:jF SH)(h:Cm w B b c a ca v)(hs:SH w B' q F s)(hk:s.Ok)(hB:B'<=w.heap.size)(hf:aC true c.t.f=0)(hz:c.t.f.size<=140737488355328) :
 Calls prog 153 #[ae b,ae q] w λe w'=>e=.returned (aa (dN c.t.f s.l c.pl:Int))/\ai w w':=by
 have PX:Hid (∀W n,ai w W->Calls prog 113 #[ae q,.string c.t.f,aa n] W λe w'=>e=.returned (.tuple #[.agg #[aa (oR (aV c.t.f s.l n)).k,aa (oR (aV c.t.f s.l n)).q,aa (oR (aV c.t.f s.l n)).t,.string (oR (aV c.t.f s.l n)).s,.string (oR (aV c.t.f s.l n)).h,.string (oR (aV c.t.f s.l n)).d],aa (oE (aV c.t.f s.l n))])/\ai W w'):=aj (λW n hb=>by
  have:=H.next c.t.f n hz (H.aF (A:=λ_=>False) hs (aA.of_below hb) (λ_ _ z=>z)) hk (ajA hB hb.size);unfold jk at this;rw[if_pos hf,DU] at this;exact this)
 have HC:Hid (∀W,ai w W->W.cell? (aq b 1)=some (.string c.t.f)/\W.cell? (aq b 10)=some (aa c.pl)):=aj (λW hb=>⟨(h.next hb).tb.c1,(h.next hb).pl⟩);obtain⟨y1,y10⟩:=ah HC w (agP _ _);have hbl:=h.tb.lt;have HK:=aj hk;clear h hs hk hf;have k0:TwC b c.t.f c.pl w.drew:=⟨y1,y10⟩;obtain⟨f,YG⟩:∃f,c.t.f=f:=⟨_,rfl⟩;obtain⟨pl,hpl⟩:∃pl,c.pl=pl:=⟨_,rfl⟩;rw[YG,hpl] at k0 HC;rw[YG] at y1;rw[hpl] at y10;rw[YG] at PX hz;rw[YG,hpl];clear YG hpl;obtain⟨o,ho⟩:∃o,aV f s.l pl=o:=⟨_,rfl⟩;have PX0:Hid (∀W,(W=w.drew\/∃o,W=(w.alloc o).drew)->_):=aj (λW hW=>ah PX W pl (by
  rcases hW with e|⟨o,e⟩
  ·rw[e];exact(agP _ _).drew
  ·rw[e];exact(ax _ _).drew))
 rw[ho] at PX0;have HO:=aj ho;clear ho;go_enter func153,ntmps153;go_upto_region 2 with fail
 go_cut [6,7] (λv u wx=>∃bx,v=ae bx/\u=aa (oE o)/\Hid (Bo w wx bx o))
 case first =>
  go_region_with (go_at_call 113;refine(ah PX0 _ (by first|(with_reducible exact .inl rfl)|(with_reducible exact .inr ⟨_,rfl⟩))).mono ?_;rintro e w1 ⟨rfl,b1⟩;first|(have hz1:CB w1 w.heap.size (FU eU):=(by with_reducible exact abP b1);have z0:=hz1.cell 0 _ rfl;have z1:=hz1.cell 1 _ rfl;have z2:=hz1.cell 2 _ rfl;have z3:=hz1.cell 3 _ rfl;have z4:=hz1.cell 4 _ rfl;have z5:=hz1.cell 5 _ rfl;have f0:=hz1.fr 0;have f1:=hz1.fr 1;have f2:=hz1.fr 2;have f3:=hz1.fr 3;have f4:=hz1.fr 4;have f5:=hz1.fr 5)|skip)
  all_goals
   first
   | (
    have HL:=aj (Qn (o:=o) hz1 b1)
    clear z0 z1 z2 z3 z4 z5 f0 f1 f2 f3 f4 f5 hz1 b1
    go_wp2_with fail
    go_meet
    exact⟨_,rfl,rfl,HL⟩)
   | (
    have HL:=aj (Qm (o:=o) b1)
    clear b1
    go_wp2_with fail
    go_meet
    exact⟨_,rfl,rfl,HL⟩)
 case rest =>
  obtain⟨bx,rfl,rfl,HA⟩:=hcut;have HR:Hid (Ci f s.l o=dN f s.l pl):=aj (by rw[<-ah HO];exact WC (ah HK).rise);have HQ:Hid (∀n m,aV f s.l n=some m->1<=m.q/\m.q<=1099511627776):=aj (λn m hm=>(ah HK).seq (vP hm).1);have HM:Hid (∀m,o=some m->1<=m.q/\m.q<=1099511627776):=aj (λm hm=>ah HQ pl m (by rw[ah HO];exact hm));have hfew:dN f s.l pl<=200:=ajA abC (ah HK).few;obtain⟨N,hN⟩:∃N,dN f s.l pl=N:=⟨_,rfl⟩;rw[hN] at HR hfew;have HN:=aj hN;clear hN PX0;go_wp2_with fail;go_loopg [5,6,7] N (λgg s5 s6 s7 wr=>∃(n bx:Nat) (o:Option Rc),s5=aa n/\s6=ae bx/\s7=aa (oE o)/\Hid (Bo w wr bx o)/\n+Ci f s.l o=N/\Ci f s.l o<=gg/\Hid (∀m,o=some m->1<=m.q/\m.q<=1099511627776))
  case atStart=>exact⟨0,bx,o,rfl,rfl,rfl,HA,by rw[ah HR];simp,by rw[ah HR];exact agH _,HM⟩
  case round =>
   obtain⟨n,bx,o,rfl,rfl,rfl,HA,hn,hg,HM⟩:=hrel
   cases o with
   | none =>
    rw[show oE none=4 from rfl];have hn0:n=N:=by simpa[Ci] using hn
    clear hn hg;subst hn0;go_wp2_with fail;go_ret;rw[ah HN];exact⟨rfl,(ah HA).2.1⟩
   | some m =>
    rw[show oE (some m)=0 from rfl];obtain⟨hm1,hm2⟩:=ah HM m rfl;have hw1:IntKind.i64.wrap (m.q+1)=m.q+1:=by rw[akl];omega
    have c0:=(ah HA).1.cell 0 _ rfl;have c1:=(ah HA).1.cell 1 _ rfl;have c2:=(ah HA).1.cell 2 _ rfl;have c3:=(ah HA).1.cell 3 _ rfl;have c4:=(ah HA).1.cell 4 _ rfl;have c5:=(ah HA).1.cell 5 _ rfl;rw[show oR (some m)=m from rfl] at c0 c1 c2 c3 c4 c5;have bA:ai wr (wr.alloc (ZY m)):=ax _ _;have A2:Hid (Bo w (wr.alloc (ZY m)).drew wr.heap.size (some m)):=aj ⟨(CB.new wr (FU m) 46).next (agP _ _).drew,((ah HA).2.1.trans (bA.mono (ah HA).2.1.size)).drew,(ah HA).2.1.size⟩;obtain⟨yf,ypl⟩:=ah HC _ (ah A2).2.1
    have d1:=(ah A2).1.cell 1 _ rfl;rw[show oR (some m)=m from rfl] at d1;have Z7:Hid (∀w1,Below (wr.alloc (ZY m)).drew.heap.size (wr.alloc (ZY m)).drew w1->CB w1 wr.heap.size (FU m)):=aj (λw1 b1=>Bo.cb (ah A2) b1);have PN:=aj (ah PX (wr.alloc (ZY m)).drew (m.q+1) (ah A2).2.1);have HR2:Hid (Ci f s.l (aV f s.l (m.q+1))=dN f s.l (m.q+1)):=aj (WC (ah HK).rise);have YH:Hid (∀m',aV f s.l (m.q+1)=some m'->1<=m'.q/\m'.q<=1099511627776):=aj (λm' h=>ah HQ (m.q+1) m' h);obtain⟨o',ho'⟩:∃o',aV f s.l (m.q+1)=o':=⟨_,rfl⟩;rw[ho'] at PN HR2 YH;have hrest:Ci f s.l (some m)=dN f s.l (m.q+1)+1:=rfl
    rw[hrest] at hn hg;have hn5:n<=200:=by omega
    clear ho' bA hrest HM;go_wp2_with fail;go_region_with (go_at_call 113;with_reducible refine(ah PN).mono ?_;rintro e w1 ⟨rfl,b1⟩;have hz1:=ah Z7 _ b1;have z0:=hz1.cell 0 _ rfl;have z1:=hz1.cell 1 _ rfl;have z2:=hz1.cell 2 _ rfl;have z3:=hz1.cell 3 _ rfl;have z4:=hz1.cell 4 _ rfl;have z5:=hz1.cell 5 _ rfl;have f0:=hz1.fr 0;have f1:=hz1.fr 1;have f2:=hz1.fr 2;have f3:=hz1.fr 3;have f4:=hz1.fr 4;have f5:=hz1.fr 5)
    all_goals
     have HL:=aj (Bo.over (o':=o') (ah A2) b1)
     clear z0 z1 z2 z3 z4 z5 f0 f1 f2 f3 f4 f5 hz1 b1 PN A2 HA c0 c1 c2 c3 c4 c5 d1 yf ypl
     go_wp2_with fail
     go_roundg (Ci f s.l o')
     case measure=>rw[ah HR2];omega
     case rel=>exact⟨n+1,wr.heap.size,o',by go_num,rfl,rfl,HL,by rw[ah HR2];omega,agH _,YH⟩
end
theorem vV {b:Nat}:∀(us:List Value) (o:Nat) (w:I),(w.setCells b o us).heap.size=w.heap.size
 | [],_,_=>rfl
 | u::r,o,w=>(vV r (o+1) _).trans (by simp[World.setCell])
theorem jo {g:Nat}:∀(vs:List Value) (o:Nat) (w:I),aA (λk=>k=g) w (w.setCells g o vs)
 | [],_,_=>aA.refl _ _
 | v::r,o,_=>(aA.setCell (A:=λk=>k=g) (p:=aq g o) (aA.refl _ _) (.inl rfl) v).trans (jo r (o+1) _)
abbrev zdO:Obj:=.cells #[aa 0,.string ⟨#[]⟩,.string ⟨#[]⟩,aa 0,aa 0,aa 0] 35
abbrev FrC (g b:Nat)(m:Rc)(n:Int)(W:I):Prop:=W.cell? (aq g 1)=some (aa m.q)/\W.cell? (aq g 3)=some (.string m.s)/\W.cell? (aq g 5)=some (.string m.d)/\W.cell? (aq b 12)=some (aa n)
theorem FrC.sets {g b x:Nat}{m:Rc}{n:Int}(h1:g≠x)(h2:b≠x):∀(vs:List Value) (o:Nat) (W:I),FrC g b m n W->FrC g b m n (W.setCells x o vs)
 | [],_,_,h=>h
 | v::r,o,W,h=>FrC.sets h1 h2 r (o+1) _ ⟨by rw[ajD _ _ _ _ (by intro e;injection e;omega)];exact h.1,by rw[ajD _ _ _ _ (by intro e;injection e;omega)];exact h.2.1,by rw[ajD _ _ _ _ (by intro e;injection e;omega)];exact h.2.2.1,by rw[ajD _ _ _ _ (by intro e;injection e;omega)];exact h.2.2.2⟩
section
variable {w:I}{B b:Nat}{c c':bM}{a:Option Addr}{ca:Nat}{v:Value}
theorem bF.out {W0 w2:I}{vs:List Value}(h:Cm w B b c a ca v)(b0:ai w W0)(hbx:w.heap.size<=bx)(hr:CB W0 bx vs)(hu:bF W0 w2 B b a ca v c'):CB w2 bx vs/\∀us:List Value,us.length=vs.length->bF w (w2.setCells bx 0 us) B b a ca v c'/\CB (w2.setCells bx 0 us) bx us:=by
 obtain⟨v',k,ch,hg⟩:=hu;have hlt:=h.tb.lt;have hbb:bx≠b:=by omega
 have hvb:v.ownBlock≠some bx:=λq=>by have:=(h.row.lt _ q).2;omega
 have hr2:CB w2 bx vs:=hr.aF ch (λq=>by
  rcases q with q|q
  ·exact hbb q
  ·exact hvb q)
 refine⟨hr2,λus hl=>?_⟩;have cs:=jo (g:=bx) us 0 w2;have hv':v'.ownBlock≠some bx:=λq=>by
  rcases hg _ q with z|z
  ·exact hvb z
  ·have:=hr.lt;omega
 have hs0:=b0.size;refine⟨⟨v',k.aF cs (λq=>hbb q.symm) (λg hq z=>hv' (by rw[hq];exact congrArg some z)) (λz hz q=>by have:=(h.al z hz).2;omega),⟨cs.os.trans (ch.os.trans b0.os),cs.tape.trans (ch.tape.trans b0.tape),cs.output.trans (ch.output.trans b0.output),ajA b0.size (ajA ch.size cs.size),λi hi hn=>?_⟩,λg hq=>?_⟩,hr2.gG us hl⟩
 ·have:=ch.size;rw[cs.block i (by omega) (by omega),ch.block i (by omega) hn];exact b0.block i hi
 ·rcases hg g hq with z|z
  ·exact .inl z
  ·exact .inr (by omega)
variable {SH:I->Nat->Nat->af->aH->Prop}{B' q:Nat}{F:af}{s:aH}
theorem CJ (H:jF SH)(h:Cm w B b c a ca v)(hs:SH w B' q F s)(hk:s.Ok)(hB:B'<=w.heap.size)(hF:∀k,F k->¬ny b v k)(hf:aC true c.t.f=0)(hz:c.t.f.size<=140737488355328)(hcn:0<=c.cn/\c.cn<=1000000000000)(m:Rc)(nth:Int) :
 Calls prog 112 #[ae b,ae q,.agg #[aa m.k,aa m.q,aa m.t,.string m.s,.string m.h,.string m.d],aa nth] w λe w'=>e=.returned (NP ⟨m.q,m.s,m.d,c.cn+1,nth,(dN c.t.f s.l c.pl:Int)⟩)/\bF w w' B b a ca v ⟨c.t,c.pl,c.pe,c.cn+1⟩:=by
 obtain⟨W0,hW0⟩:∃W0,W0=(w.alloc (ZY m)).alloc zdO:=⟨_,rfl⟩;have b0:ai w W0:=by rw[hW0];exact(ax _ _).alloc (by simp) _
 have hsz:W0.heap.size=w.heap.size+2:=by rw[hW0];simp
 have rm:CB W0 w.heap.size (FU m):=by rw[hW0];exact(CB.new w (FU m) 46).next (ax _ _)
 have rd:CB W0 (w.heap.size+1) (sH dP):=by
  rw[hW0];have:=CB.new (w.alloc (ZY m)) (sH dP) 35;rw[alH] at this;exact this
 have h0:=h.next b0;have c12:=h0.cn;have f12:=h0.fr 12;have hbl:=h0.tb.lt;have hlt:=h.tb.lt;have u1:=bF.put h0 (aA.refl _ W0) (j:=12) (u:=aa (c.cn+1)) (v':=v) (pl:=c.pl) (cn:=c.cn+1) (.inr (.inl ⟨rfl,rfl,rfl,rfl⟩)) h0.row (λ_ q=>.inl q);obtain⟨W1,hW1⟩:∃W1,W1=W0.setCell (aq b 12) (aa (c.cn+1)):=⟨_,rfl⟩;rw[<-hW1] at u1;have cW:aA (λk=>k=b) W0 W1:=by rw[hW1];exact aA.setCell (A:=λk=>k=b) (p:=aq b 12) (aA.refl _ _) (.inl rfl) _
 have hk1:Cm W1 B b ⟨c.t,c.pl,c.pe,c.cn+1⟩ a ca v:=by rw[hW1];exact h0.put (aA.refl _ W0) (.inr (.inl ⟨rfl,rfl,rfl,rfl⟩)) h0.row (λ_ q=>.inl q)
 have hs1:SH W1 B' q F s:=H.aF (H.aF (A:=λ_=>False) hs (aA.of_below b0) (λ_ _ z=>z)) cW (λk hq z=>hF k hq (.inl z));have PL:=aj (abQ H (hk1.next (agP _ _).drew) (H.aF (A:=λ_=>False) hs1 (aA.of_below (agP _ _).drew) (λ_ _ z=>z)) hk (ajA hB (ajA b0.size cW.size)) hf hz);have Z8:=rm.aF cW (by show ¬(w.heap.size=b);omega);have r1:W1.drew.cell? (aq w.heap.size 1)=some (aa m.q):=Z8.cell 1 _ rfl;have r3:W1.drew.cell? (aq w.heap.size 3)=some (.string m.s):=Z8.cell 3 _ rfl;have r5:W1.drew.cell? (aq w.heap.size 5)=some (.string m.d):=Z8.cell 5 _ rfl
 have e12:W1.drew.cell? (aq b 12)=some (aa (c.cn+1)):=hk1.cn;have HO:Hid (∀w2,Below W1.drew.heap.size W1.drew w2->CB w2 (w.heap.size+1) (sH dP)/\∀us:List Value,us.length=6->bF w (w2.setCells (w.heap.size+1) 0 us) B b a ca v ⟨c.t,c.pl,c.pe,c.cn+1⟩/\CB (w2.setCells (w.heap.size+1) 0 us) (w.heap.size+1) us):=aj (λw2 b2=>bF.out h b0 (by omega) rd (bF.trans (cW.mono (λ_ _ q=>.inl q)) (λ_ q=>.inl q) (bF.same hk1 (((agP W1.heap.size W1).drew).trans b2))));have HSame:Hid (∀w2,Below W1.drew.heap.size W1.drew w2->w2.cell? (aq w.heap.size 1)=some (aa m.q)/\w2.cell? (aq w.heap.size 3)=some (.string m.s)/\w2.cell? (aq w.heap.size 5)=some (.string m.d)/\w2.cell? (aq b 12)=some (aa (c.cn+1))):=aj (λw2 b2=>⟨(b2.cell (p:=aq w.heap.size 1) (show w.heap.size<W1.heap.size by have:=cW.size;omega)).trans r1,(b2.cell (p:=aq w.heap.size 3) (show w.heap.size<W1.heap.size by have:=cW.size;omega)).trans r3,(b2.cell (p:=aq w.heap.size 5) (show w.heap.size<W1.heap.size by have:=cW.size;omega)).trans r5,(b2.cell (p:=aq b 12) (show b<W1.heap.size by have:=cW.size;omega)).trans e12⟩)
 obtain⟨L,hL⟩:∃L:Int,(dN c.t.f s.l c.pl:Int)=L:=⟨_,rfl⟩;rw[show(dN (⟨c.t,c.pl,c.pe,c.cn+1⟩:bM).t.f s.l (⟨c.t,c.pl,c.pe,c.cn+1⟩:bM).pl:Int)=L from hL] at PL;rw[hL];obtain⟨hc1,hc2⟩:=hcn;clear h h0 hs hk hF hf hz u1 hk1 hs1 rm Z8 rd cW hL;go_enter func112,ntmps112;go_upto_region 1 with fail
 rw[<-hW0];clear hW0;go_upto_region 2 with fail
 rw[<-hW1];clear hW1;have hn1:w.heap.size≠w.heap.size+1:=by omega
 have hn2:b≠w.heap.size+1:=by omega
 have k0:FrC w.heap.size b m (c.cn+1) W1.drew:=⟨r1,r3,r5,e12⟩;clear r1 r3 r5 e12;go_region_held_law (FrC w.heap.size b m (c.cn+1)) (first|with_reducible assumption|exact FrC.sets (by assumption) (by assumption) [_,_,_,_,_,_] 0 _ (by assumption))
  (first
   | (
    go_at_call 153;with_reducible refine(ah PL).mono ?_;rintro e w2 ⟨rfl,b2⟩
    have k2:FrC w.heap.size b m (c.cn+1) w2:=ah HSame _ b2
    have hz2:=(ah HO _ b2).1;have z0:=hz2.cell 0 _ rfl;have z1:=hz2.cell 1 _ rfl;have z2:=hz2.cell 2 _ rfl;have z3:=hz2.cell 3 _ rfl;have z4:=hz2.cell 4 _ rfl;have z5:=hz2.cell 5 _ rfl;have g0:=hz2.fr 0;have g1:=hz2.fr 1;have g2:=hz2.fr 2;have g3:=hz2.fr 3;have g4:=hz2.fr 4;have g5:=hz2.fr 5))
 all_goals
  have HF:=aj ((ah HO _ b2).2 (sH ⟨m.q,m.s,m.d,c.cn+1,nth,L⟩) rfl)
  clear z0 z1 z2 z3 z4 z5 g0 g1 g2 g3 g4 g5 hz2 b2 HO HSame PL
  go_wp2_with fail
  exact ajY (NQ rfl rfl (ah HF).2) rfl ⟨rfl,(ah HF).1⟩
end
