/- A part. -/
import Derived.Test.YtophdoapcdjnjaaGreatDoorQ11
import Derived.Deep.DeepCutAuto
import Derived.Deep.RegionHeldLaw
set_option maxRecDepth 100000
set_option maxHeartbeats 8000000
namespace Go.Proofs.YtophdoapcdjnjaaGreatDoor
open Go.RowKit Go.Proofs.Tryz
namespace Dk
abbrev yB (r:Rc):List Value:=[.int .i64 r.k,.int .i64 r.q,.int .i64 r.t,.string r.s,.string r.h,.string r.d]
def oR (o:Option Rc):Rc:=o.getD dH
def oE (o:Option Rc):Int:=match o with
 | some _=>0
 | none=>4
theorem vV (o:Option Rc):TG o=.tuple #[.agg #[.int .i64 (oR o).k,.int .i64 (oR o).q,.int .i64 (oR o).t,.string (oR o).s,.string (oR o).h,.string (oR o).d],.int .i64 (oE o)]:=by
 cases o<;>rfl
abbrev Y7:Obj:=.cells #[.int .i64 0,.int .i64 0,.int .i64 0,.string ⟨#[]⟩,.string ⟨#[]⟩,.string ⟨#[]⟩] 45
theorem Qr {w w':World}(hb:Below (w.alloc Y7).drew.heap.size (w.alloc Y7).drew w'):CB w' w.heap.size (yB dH):=((CB.new w (yB dH) 45).next (Below.refl _ _).drew).next hb
abbrev NJ (g:Nat)(f:ByteArray)(n:Int)(w:World):Prop:=w.cell? ⟨g,1,none⟩=some (.string f)/\w.cell? ⟨g,10,none⟩=some (.int .i64 n)
theorem NJ.alloc {g:Nat}{f:ByteArray}{n:Int}{W:World}{o:Obj}(h:NJ g f n W)(hg:g<W.heap.size):NJ g f n (W.alloc o):=⟨by rw[World.cell?_alloc_old _ _ _ (Nat.ne_of_lt hg)];exact h.1,by rw[World.cell?_alloc_old _ _ _ (Nat.ne_of_lt hg)];exact h.2⟩
theorem NJ.ZM {g:Nat}{f:ByteArray}{n:Int}{W:World}{o:Obj}(h:NJ g f n W.drew)(hg:g<W.heap.size):NJ g f n (W.alloc o).drew:=NJ.alloc (o:=o) (W:=W) h hg
theorem NJ.sets {g b:Nat}{f:ByteArray}{n:Int}(hg:g≠b):∀(vs:List Value) (o:Nat) (W:World),NJ g f n W->NJ g f n (W.setCells b o vs)
 | [],_,_,h=>h
 | v::r,o,W,h=>NJ.sets hg r (o+1) _ ⟨by rw[World.cell?_setCell_other _ _ _ _ (by intro e;injection e;omega)];exact h.1,by rw[World.cell?_setCell_other _ _ _ _ (by intro e;injection e;omega)];exact h.2⟩
def ug (w wx:World)(bx:Nat)(o:Option Rc):Prop:=CB wx bx (yB (oR o))/\Below w.heap.size w wx/\w.heap.size<=bx
abbrev NK (r:Rc):Obj:=.cells #[.int .i64 r.k,.int .i64 r.q,.int .i64 r.t,.string r.s,.string r.h,.string r.d] 45
theorem Fg {w w1:World}{o:Option Rc}(b1:Below w.drew.heap.size w.drew w1):ug w (w1.alloc (NK (oR o))) w1.heap.size o :=
 ⟨CB.new w1 (yB (oR o)) 45,((Below.refl w.heap.size w).drew.trans b1).alloc b1.size _,b1.size⟩
theorem Fh {w w1:World}{o:Option Rc}(hz:CB w1 w.heap.size (yB dH))(b1:Below (w.alloc Y7).drew.heap.size (w.alloc Y7).drew w1):ug w (w1.setCells w.heap.size 0 (yB (oR o))) w.heap.size o :=
 ⟨hz.jo (yB (oR o)) rfl,jR (Nat.le_refl _) _ _ _ ((((Below.refl w.heap.size w).alloc (Nat.le_refl _) _).drew).trans (b1.mono (by simp))),Nat.le_refl _⟩
theorem ug.over {w wr w1:World}{bx:Nat}{o o':Option Rc}(h:ug w wr bx o)(b1:Below wr.heap.size wr w1):ug w (w1.setCells bx 0 (yB (oR o'))) bx o' :=
 ⟨(h.1.next b1).jo (yB (oR o')) rfl,jR h.2.2 _ _ _ (h.2.1.trans (b1.mono h.2.1.size)),h.2.2⟩
theorem ug.cb {w wr w1:World}{bx:Nat}{o:Option Rc}(h:ug w wr bx o)(b1:Below wr.heap.size wr w1):CB w1 bx (yB (oR o)):=h.1.next b1
section
variable {SH:World->Nat->Nat->(Nat->Prop)->aX->Prop}
variable {w:World}{B b:Nat}{c:dM}{a:Option Addr}{ca:Nat}{v:Value}{B' q:Nat}{F:Nat->Prop}{s:aX}
theorem Qs (H:dX SH)(h:Cm w B b c a ca v)(hs:SH w B' q F s)(hk:s.Ok)(hB:B'<=w.heap.size)(hf:aB true c.t.f=0)(hz:c.t.f.size<=140737488355328) :
 Calls prog 94 #[.pointer (some ⟨b,0,none⟩),.pointer (some ⟨q,0,none⟩)] w λe w'=>e=.returned (.int .i64 (bP c.t.f s.l c.pl:Int))/\Below w.heap.size w w':=by
 have PX:Hid (∀W n,Below w.heap.size w W->Calls prog 64 #[.pointer (some ⟨q,0,none⟩),.string c.t.f,.int .i64 n] W λe w'=>e=.returned (.tuple #[.agg #[.int .i64 (oR (aT c.t.f s.l n)).k,.int .i64 (oR (aT c.t.f s.l n)).q,.int .i64 (oR (aT c.t.f s.l n)).t,.string (oR (aT c.t.f s.l n)).s,.string (oR (aT c.t.f s.l n)).h,.string (oR (aT c.t.f s.l n)).d],.int .i64 (oE (aT c.t.f s.l n))])/\Below W.heap.size W w'):=aj (λW n hb=>by
  have:=H.next c.t.f n hz (H.bW (A:=λ_=>False) hs (aF.of_below hb) (λ_ _ z=>z)) hk (Nat.le_trans hB hb.size);unfold gJ at this;rw[if_pos hf,vV] at this;exact this)
 have HC:Hid (∀W,Below w.heap.size w W->W.cell? ⟨b,1,none⟩=some (.string c.t.f)/\W.cell? ⟨b,10,none⟩=some (.int .i64 c.pl)):=aj (λW hb=>⟨(h.next hb).tb.c1,(h.next hb).pl⟩);obtain⟨y1,y10⟩:=ah HC w (Below.refl _ _);have hbl:=h.tb.lt;have HK:=aj hk;clear h hs hk hf;have k0:NJ b c.t.f c.pl w.drew:=⟨y1,y10⟩;obtain⟨f,Jq⟩:∃f,c.t.f=f:=⟨_,rfl⟩;obtain⟨pl,hpl⟩:∃pl,c.pl=pl:=⟨_,rfl⟩;rw[Jq,hpl] at k0 HC;rw[Jq] at y1;rw[hpl] at y10;rw[Jq] at PX hz;rw[Jq,hpl];clear Jq hpl;obtain⟨o,ho⟩:∃o,aT f s.l pl=o:=⟨_,rfl⟩;have Vw:Hid (∀W,(W=w.drew\/∃o,W=(w.alloc o).drew)->_):=aj (λW hW=>ah PX W pl (by
  rcases hW with e|⟨o,e⟩
  ·rw[e];exact(Below.refl _ _).drew
  ·rw[e];exact((Below.refl _ _).alloc (Nat.le_refl _) _).drew))
 rw[ho] at Vw;have HO:=aj ho;clear ho;go_enter func94,ntmps94;go_upto_region 2 with fail
 go_cut [6,7] (λv u wx=>∃bx,v=.pointer (some ⟨bx,0,none⟩)/\u=.int .i64 (oE o)/\Hid (ug w wx bx o))
 case first =>
  go_region_with (go_at_call 64;refine(ah Vw _ (by first|(with_reducible exact .inl rfl)|(with_reducible exact .inr ⟨_,rfl⟩))).mono ?_;rintro e w1 ⟨rfl,b1⟩;first|(have hz1:CB w1 w.heap.size (yB dH):=(by with_reducible exact Qr b1);have z0:=hz1.cell 0 _ rfl;have z1:=hz1.cell 1 _ rfl;have z2:=hz1.cell 2 _ rfl;have z3:=hz1.cell 3 _ rfl;have z4:=hz1.cell 4 _ rfl;have z5:=hz1.cell 5 _ rfl;have f0:=hz1.fr 0;have f1:=hz1.fr 1;have f2:=hz1.fr 2;have f3:=hz1.fr 3;have f4:=hz1.fr 4;have f5:=hz1.fr 5)|skip)
  all_goals
   first
   | (
    have HL:=aj (Fh (o:=o) hz1 b1)
    clear z0 z1 z2 z3 z4 z5 f0 f1 f2 f3 f4 f5 hz1 b1
    go_wp2_with fail
    go_meet
    exact⟨_,rfl,rfl,HL⟩)
   | (
    have HL:=aj (Fg (o:=o) b1)
    clear b1
    go_wp2_with fail
    go_meet
    exact⟨_,rfl,rfl,HL⟩)
 case rest =>
  obtain⟨bx,rfl,rfl,HA⟩:=hcut;have HR:Hid (uQ f s.l o=bP f s.l pl):=aj (by rw[<-ah HO];exact JE (ah HK).rise);have HQ:Hid (∀n m,aT f s.l n=some m->1<=m.q/\m.q<=1099511627776):=aj (λn m hm=>(ah HK).seq (oN hm).1);have HM:Hid (∀m,o=some m->1<=m.q/\m.q<=1099511627776):=aj (λm hm=>ah HQ pl m (by rw[ah HO];exact hm));have hfew:bP f s.l pl<=200:=Nat.le_trans Py (ah HK).few;obtain⟨N,hN⟩:∃N,bP f s.l pl=N:=⟨_,rfl⟩;rw[hN] at HR hfew;have HN:=aj hN;clear hN Vw;go_wp2_with fail;go_loopg [5,6,7] N (λgg s5 s6 s7 wr=>∃(n bx:Nat) (o:Option Rc),s5=.int .i64 n/\s6=.pointer (some ⟨bx,0,none⟩)/\s7=.int .i64 (oE o)/\Hid (ug w wr bx o)/\n+uQ f s.l o=N/\uQ f s.l o<=gg/\Hid (∀m,o=some m->1<=m.q/\m.q<=1099511627776))
  case atStart=>exact⟨0,bx,o,rfl,rfl,rfl,HA,by rw[ah HR];simp,by rw[ah HR];exact Nat.le_refl _,HM⟩
  case round =>
   obtain⟨n,bx,o,rfl,rfl,rfl,HA,hn,hg,HM⟩:=hrel
   cases o with
   | none =>
    rw[show oE none=4 from rfl];have hn0:n=N:=by simpa[uQ] using hn
    clear hn hg;subst hn0;go_wp2_with fail;go_ret;rw[ah HN];exact⟨rfl,(ah HA).2.1⟩
   | some m =>
    rw[show oE (some m)=0 from rfl];obtain⟨hm1,hm2⟩:=ah HM m rfl;have hw1:IntKind.i64.wrap (m.q+1)=m.q+1:=by rw[IntKind.wrap_i64];omega
    have c0:=(ah HA).1.cell 0 _ rfl;have c1:=(ah HA).1.cell 1 _ rfl;have c2:=(ah HA).1.cell 2 _ rfl;have c3:=(ah HA).1.cell 3 _ rfl;have c4:=(ah HA).1.cell 4 _ rfl;have c5:=(ah HA).1.cell 5 _ rfl;rw[show oR (some m)=m from rfl] at c0 c1 c2 c3 c4 c5;have bA:Below wr.heap.size wr (wr.alloc (NK m)):=(Below.refl _ _).alloc (Nat.le_refl _) _;have A2:Hid (ug w (wr.alloc (NK m)).drew wr.heap.size (some m)):=aj ⟨(CB.new wr (yB m) 45).next (Below.refl _ _).drew,((ah HA).2.1.trans (bA.mono (ah HA).2.1.size)).drew,(ah HA).2.1.size⟩;obtain⟨yf,ypl⟩:=ah HC _ (ah A2).2.1
    have d1:=(ah A2).1.cell 1 _ rfl;rw[show oR (some m)=m from rfl] at d1;have HCB:Hid (∀w1,Below (wr.alloc (NK m)).drew.heap.size (wr.alloc (NK m)).drew w1->CB w1 wr.heap.size (yB m)):=aj (λw1 b1=>ug.cb (ah A2) b1);have PN:=aj (ah PX (wr.alloc (NK m)).drew (m.q+1) (ah A2).2.1);have HR2:Hid (uQ f s.l (aT f s.l (m.q+1))=bP f s.l (m.q+1)):=aj (JE (ah HK).rise);have HM2:Hid (∀m',aT f s.l (m.q+1)=some m'->1<=m'.q/\m'.q<=1099511627776):=aj (λm' h=>ah HQ (m.q+1) m' h);obtain⟨o',ho'⟩:∃o',aT f s.l (m.q+1)=o':=⟨_,rfl⟩;rw[ho'] at PN HR2 HM2;have hrest:uQ f s.l (some m)=bP f s.l (m.q+1)+1:=rfl
    rw[hrest] at hn hg;have hn5:n<=200:=by omega
    clear ho' bA hrest HM;go_wp2_with fail;go_region_with (go_at_call 64;with_reducible refine(ah PN).mono ?_;rintro e w1 ⟨rfl,b1⟩;have hz1:=ah HCB _ b1;have z0:=hz1.cell 0 _ rfl;have z1:=hz1.cell 1 _ rfl;have z2:=hz1.cell 2 _ rfl;have z3:=hz1.cell 3 _ rfl;have z4:=hz1.cell 4 _ rfl;have z5:=hz1.cell 5 _ rfl;have f0:=hz1.fr 0;have f1:=hz1.fr 1;have f2:=hz1.fr 2;have f3:=hz1.fr 3;have f4:=hz1.fr 4;have f5:=hz1.fr 5)
    all_goals
     have HL:=aj (ug.over (o':=o') (ah A2) b1)
     clear z0 z1 z2 z3 z4 z5 f0 f1 f2 f3 f4 f5 hz1 b1 PN A2 HA c0 c1 c2 c3 c4 c5 d1 yf ypl
     go_wp2_with fail
     go_roundg (uQ f s.l o')
     case measure=>rw[ah HR2];omega
     case rel=>exact⟨n+1,wr.heap.size,o',by go_num,rfl,rfl,HL,by rw[ah HR2];omega,Nat.le_refl _,HM2⟩
end
theorem MC {b:Nat}:∀(us:List Value) (o:Nat) (w:World),(w.setCells b o us).heap.size=w.heap.size
 | [],_,_=>rfl
 | u::r,o,w=>(MC r (o+1) _).trans (by simp[World.setCell])
theorem yC {g:Nat}:∀(vs:List Value) (o:Nat) (w:World),aF (λk=>k=g) w (w.setCells g o vs)
 | [],_,_=>aF.refl _ _
 | v::r,o,_=>(aF.setCell (A:=λk=>k=g) (p:=⟨g,o,none⟩) (aF.refl _ _) (.inl rfl) v).trans (yC r (o+1) _)
abbrev Ru:Obj:=.cells #[.int .i64 0,.string ⟨#[]⟩,.string ⟨#[]⟩,.int .i64 0,.int .i64 0,.int .i64 0] 37
abbrev Vx (g b:Nat)(m:Rc)(n:Int)(W:World):Prop:=W.cell? ⟨g,1,none⟩=some (.int .i64 m.q)/\W.cell? ⟨g,3,none⟩=some (.string m.s)/\W.cell? ⟨g,5,none⟩=some (.string m.d)/\W.cell? ⟨b,12,none⟩=some (.int .i64 n)
theorem Vx.sets {g b x:Nat}{m:Rc}{n:Int}(h1:g≠x)(h2:b≠x):∀(vs:List Value) (o:Nat) (W:World),Vx g b m n W->Vx g b m n (W.setCells x o vs)
 | [],_,_,h=>h
 | v::r,o,W,h=>Vx.sets h1 h2 r (o+1) _ ⟨by rw[World.cell?_setCell_other _ _ _ _ (by intro e;injection e;omega)];exact h.1,by rw[World.cell?_setCell_other _ _ _ _ (by intro e;injection e;omega)];exact h.2.1,by rw[World.cell?_setCell_other _ _ _ _ (by intro e;injection e;omega)];exact h.2.2.1,by rw[World.cell?_setCell_other _ _ _ _ (by intro e;injection e;omega)];exact h.2.2.2⟩
section
variable {w:World}{B b:Nat}{c c':dM}{a:Option Addr}{ca:Nat}{v:Value}
theorem aQ.out {W0 w2:World}{bx:Nat}{vs:List Value}(h:Cm w B b c a ca v)(b0:Below w.heap.size w W0)(hbx:w.heap.size<=bx)(hr:CB W0 bx vs)(hu:aQ W0 w2 B b a ca v c'):CB w2 bx vs/\∀us:List Value,us.length=vs.length->aQ w (w2.setCells bx 0 us) B b a ca v c'/\CB (w2.setCells bx 0 us) bx us:=by
 obtain⟨v',k,ch,hg⟩:=hu;have hlt:=h.tb.lt;have hbb:bx≠b:=by omega
 have hvb:v.ownBlock≠some bx:=λq=>by have:=(h.row.lt _ q).2;omega
 have hr2:CB w2 bx vs:=hr.bW ch (λq=>by
  rcases q with q|q
  ·exact hbb q
  ·exact hvb q)
 refine⟨hr2,λus hl=>?_⟩;have cs:=yC (g:=bx) us 0 w2;have hv':v'.ownBlock≠some bx:=λq=>by
  rcases hg _ q with z|z
  ·exact hvb z
  ·have:=hr.lt;omega
 have hs0:=b0.size;refine⟨⟨v',k.bW cs (λq=>hbb q.symm) (λg hq z=>hv' (by rw[hq];exact congrArg some z)) (λz hz q=>by have:=(h.al z hz).2;omega),⟨cs.os.trans (ch.os.trans b0.os),cs.tape.trans (ch.tape.trans b0.tape),cs.output.trans (ch.output.trans b0.output),Nat.le_trans b0.size (Nat.le_trans ch.size cs.size),λi hi hn=>?_⟩,λg hq=>?_⟩,hr2.jo us hl⟩
 ·have:=ch.size;rw[cs.block i (by omega) (by omega),ch.block i (by omega) hn];exact b0.block i hi
 ·rcases hg g hq with z|z
  ·exact .inl z
  ·exact .inr (by omega)
variable {SH:World->Nat->Nat->(Nat->Prop)->aX->Prop}{B' q:Nat}{F:Nat->Prop}{s:aX}
theorem uX (H:dX SH)(h:Cm w B b c a ca v)(hs:SH w B' q F s)(hk:s.Ok)(hB:B'<=w.heap.size)(hF:∀k,F k->¬jC b v k)(hf:aB true c.t.f=0)(hz:c.t.f.size<=140737488355328)(hcn:0<=c.cn/\c.cn<=1000000000000)(m:Rc)(nth:Int) :
 Calls prog 63 #[.pointer (some ⟨b,0,none⟩),.pointer (some ⟨q,0,none⟩),.agg #[.int .i64 m.k,.int .i64 m.q,.int .i64 m.t,.string m.s,.string m.h,.string m.d],.int .i64 nth] w λe w'=>e=.returned (Rj ⟨m.q,m.s,m.d,c.cn+1,nth,(bP c.t.f s.l c.pl:Int)⟩)/\aQ w w' B b a ca v ⟨c.t,c.pl,c.pe,c.cn+1⟩:=by
 obtain⟨W0,hW0⟩:∃W0,W0=(w.alloc (NK m)).alloc Ru:=⟨_,rfl⟩;have b0:Below w.heap.size w W0:=by rw[hW0];exact((Below.refl _ _).alloc (Nat.le_refl _) _).alloc (by simp) _
 have hsz:W0.heap.size=w.heap.size+2:=by rw[hW0];simp
 have rm:CB W0 w.heap.size (yB m):=by rw[hW0];exact(CB.new w (yB m) 45).next ((Below.refl _ _).alloc (Nat.le_refl _) _)
 have rd:CB W0 (w.heap.size+1) (vw fB):=by
  rw[hW0];have:=CB.new (w.alloc (NK m)) (vw fB) 37;rw[World.size_alloc] at this;exact this
 have h0:=h.next b0;have c12:=h0.cn;have f12:=h0.fr 12;have hbl:=h0.tb.lt;have hlt:=h.tb.lt;have u1:=aQ.put h0 (aF.refl _ W0) (j:=12) (u:=.int .i64 (c.cn+1)) (v':=v) (pl:=c.pl) (cn:=c.cn+1) (.inr (.inl ⟨rfl,rfl,rfl,rfl⟩)) h0.row (λ_ q=>.inl q);obtain⟨W1,hW1⟩:∃W1,W1=W0.setCell ⟨b,12,none⟩ (.int .i64 (c.cn+1)):=⟨_,rfl⟩;rw[<-hW1] at u1;have cW:aF (λk=>k=b) W0 W1:=by rw[hW1];exact aF.setCell (A:=λk=>k=b) (p:=⟨b,12,none⟩) (aF.refl _ _) (.inl rfl) _
 have hk1:Cm W1 B b ⟨c.t,c.pl,c.pe,c.cn+1⟩ a ca v:=by rw[hW1];exact h0.put (aF.refl _ W0) (.inr (.inl ⟨rfl,rfl,rfl,rfl⟩)) h0.row (λ_ q=>.inl q)
 have hs1:SH W1 B' q F s:=H.bW (H.bW (A:=λ_=>False) hs (aF.of_below b0) (λ_ _ z=>z)) cW (λk hq z=>hF k hq (.inl z));have PL:=aj (Qs H (hk1.next (Below.refl _ _).drew) (H.bW (A:=λ_=>False) hs1 (aF.of_below (Below.refl _ _).drew) (λ_ _ z=>z)) hk (Nat.le_trans hB (Nat.le_trans b0.size cW.size)) hf hz);have NM:=rm.bW cW (by show ¬(w.heap.size=b);omega);have r1:W1.drew.cell? ⟨w.heap.size,1,none⟩=some (.int .i64 m.q):=NM.cell 1 _ rfl;have r3:W1.drew.cell? ⟨w.heap.size,3,none⟩=some (.string m.s):=NM.cell 3 _ rfl;have r5:W1.drew.cell? ⟨w.heap.size,5,none⟩=some (.string m.d):=NM.cell 5 _ rfl
 have e12:W1.drew.cell? ⟨b,12,none⟩=some (.int .i64 (c.cn+1)):=hk1.cn;have HO:Hid (∀w2,Below W1.drew.heap.size W1.drew w2->CB w2 (w.heap.size+1) (vw fB)/\∀us:List Value,us.length=6->aQ w (w2.setCells (w.heap.size+1) 0 us) B b a ca v ⟨c.t,c.pl,c.pe,c.cn+1⟩/\CB (w2.setCells (w.heap.size+1) 0 us) (w.heap.size+1) us):=aj (λw2 b2=>aQ.out h b0 (by omega) rd (aQ.trans (cW.mono (λ_ _ q=>.inl q)) (λ_ q=>.inl q) (aQ.same hk1 (((Below.refl W1.heap.size W1).drew).trans b2))));have HSame:Hid (∀w2,Below W1.drew.heap.size W1.drew w2->w2.cell? ⟨w.heap.size,1,none⟩=some (.int .i64 m.q)/\w2.cell? ⟨w.heap.size,3,none⟩=some (.string m.s)/\w2.cell? ⟨w.heap.size,5,none⟩=some (.string m.d)/\w2.cell? ⟨b,12,none⟩=some (.int .i64 (c.cn+1))):=aj (λw2 b2=>⟨(b2.cell (p:=⟨w.heap.size,1,none⟩) (show w.heap.size<W1.heap.size by have:=cW.size;omega)).trans r1,(b2.cell (p:=⟨w.heap.size,3,none⟩) (show w.heap.size<W1.heap.size by have:=cW.size;omega)).trans r3,(b2.cell (p:=⟨w.heap.size,5,none⟩) (show w.heap.size<W1.heap.size by have:=cW.size;omega)).trans r5,(b2.cell (p:=⟨b,12,none⟩) (show b<W1.heap.size by have:=cW.size;omega)).trans e12⟩)
 obtain⟨L,hL⟩:∃L:Int,(bP c.t.f s.l c.pl:Int)=L:=⟨_,rfl⟩;rw[show(bP (⟨c.t,c.pl,c.pe,c.cn+1⟩:dM).t.f s.l (⟨c.t,c.pl,c.pe,c.cn+1⟩:dM).pl:Int)=L from hL] at PL;rw[hL];obtain⟨hc1,hc2⟩:=hcn;clear h h0 hs hk hF hf hz u1 hk1 hs1 rm NM rd cW hL;go_enter func63,ntmps63;go_upto_region 1 with fail
 rw[<-hW0];clear hW0;go_upto_region 2 with fail
 rw[<-hW1];clear hW1;have hn1:w.heap.size≠w.heap.size+1:=by omega
 have hn2:b≠w.heap.size+1:=by omega
 have k0:Vx w.heap.size b m (c.cn+1) W1.drew:=⟨r1,r3,r5,e12⟩;clear r1 r3 r5 e12;go_region_held_law (Vx w.heap.size b m (c.cn+1)) (first|with_reducible assumption|exact Vx.sets (by assumption) (by assumption) [_,_,_,_,_,_] 0 _ (by assumption))
  (first
   | (
    go_at_call 94;with_reducible refine(ah PL).mono ?_;rintro e w2 ⟨rfl,b2⟩
    have k2:Vx w.heap.size b m (c.cn+1) w2:=ah HSame _ b2
    have hz2:=(ah HO _ b2).1;have z0:=hz2.cell 0 _ rfl;have z1:=hz2.cell 1 _ rfl;have z2:=hz2.cell 2 _ rfl;have z3:=hz2.cell 3 _ rfl;have z4:=hz2.cell 4 _ rfl;have z5:=hz2.cell 5 _ rfl;have g0:=hz2.fr 0;have g1:=hz2.fr 1;have g2:=hz2.fr 2;have g3:=hz2.fr 3;have g4:=hz2.fr 4;have g5:=hz2.fr 5))
 all_goals
  have HF:=aj ((ah HO _ b2).2 (vw ⟨m.q,m.s,m.d,c.cn+1,nth,L⟩) rfl)
  clear z0 z1 z2 z3 z4 z5 g0 g1 g2 g3 g4 g5 hz2 b2 HO HSame PL
  go_wp2_with fail
  exact bodyPost_ret (D9 rfl rfl (ah HF).2) rfl ⟨rfl,(ah HF).1⟩
end
