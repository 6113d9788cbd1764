/- A part. -/
import Derived.Test.YtmhbobnfmncdbaaGreatDoorQ12
import Derived.Test.YtmhbobnfmncdbaaGreatDoorQ18
import Derived.Test.YtmhbobnfmncdbaaGreatDoorQ24
set_option maxRecDepth 100000
set_option maxHeartbeats 8000000
namespace Go.Proofs.YtmhbobnfmncdbaaGreatDoor
open Go.RowKit Go.Proofs.Tryz
namespace Dk
abbrev Gm (g b:Nat)(m:Rc)(n:Int)(W:World):Prop:=W.cell? ⟨g,1,none⟩=some (.int .i64 m.q)/\W.cell? ⟨g,3,none⟩=some (.string m.s)/\W.cell? ⟨g,5,none⟩=some (.string m.d)/\W.cell? ⟨b,11,none⟩=some (.int .i64 n)
theorem Gm.sets {g b x:Nat}{m:Rc}{n:Int}(h1:g≠x)(h2:b≠x):∀(vs:List Value) (o:Nat) (W:World),Gm g b m n W->Gm g b m n (W.setCells x o vs)
 | [],_,_,h=>h
 | v::r,o,W,h=>Gm.sets h1 h2 r (o+1) _ ⟨by rw[World.cell?_setCell_other _ _ _ _ (by intro e;injection e;omega)];exact h.1,by rw[World.cell?_setCell_other _ _ _ _ (by intro e;injection e;omega)];exact h.2.1,by rw[World.cell?_setCell_other _ _ _ _ (by intro e;injection e;omega)];exact h.2.2.1,by rw[World.cell?_setCell_other _ _ _ _ (by intro e;injection e;omega)];exact h.2.2.2⟩
theorem Gm.drew {g b:Nat}{m:Rc}{n:Int}{W:World}(h:Gm g b m n W):Gm g b m n W.drew:=h
theorem Gm.six {g b x:Nat}{m:Rc}{n:Int}(h1:g≠x)(h2:b≠x){W:World}(h:Gm g b m n W)(u0 u1 u2 u3 u4 u5:Value):Gm g b m n ((((((W.setCell ⟨x,0,none⟩ u0).setCell ⟨x,1,none⟩ u1).setCell ⟨x,2,none⟩ u2).setCell ⟨x,3,none⟩ u3).setCell ⟨x,4,none⟩ u4).setCell ⟨x,5,none⟩ u5).drew:=(Gm.sets h1 h2 [u0,u1,u2,u3,u4,u5] 0 W h).drew
theorem I9 {f:ByteArray}{l:List Rc}{pl:Int}{k:Nat}(h:k<l.length):aU f (l.take (k+1)) pl=aU f (l.take k) pl+if jr f (rc l k).s=true/\pl<=(rc l k).q then 1 else 0:=by
 unfold aU;rw[List.take_succ_eq_append_getElem h,List.filter_append,List.length_append,bG h];congr 1
 by_cases h1:jr f l[k].s=true/\pl<=l[k].q
 ·rw[if_pos h1,List.filter_cons_of_pos (by rw[Bool.and_eq_true,decide_eq_true_eq];exact h1)];rfl
 ·rw[if_neg h1,List.filter_cons_of_neg (by rw[Bool.and_eq_true,decide_eq_true_eq];exact h1)];rfl
abbrev CtH (b c ga o k:Nat)(f:ByteArray)(pl:Int)(y:Rc)(a:Option Addr)(n cap:Nat)(W:World):Prop:=W.cell? ⟨c,0,none⟩=some (.slice a n cap)/\W.cell? ⟨ga,o+k*6+1,none⟩=some (.int .i64 y.q)/\W.cell? ⟨ga,o+k*6+3,none⟩=some (.string y.s)/\W.cell? ⟨b,10,none⟩=some (.int .i64 pl)/\W.cell? ⟨b,1,none⟩=some (.string f)
theorem aF.next {w w1 w':World}{B b:Nat}{a:Option Addr}{ca:Nat}{v:Value}{c':aV}(h:aF w w1 B b a ca v c')(hb:Below w1.heap.size w1 w'):aF w w' B b a ca v c':=by
 obtain⟨v',k,c,hg⟩:=h;have cb:=aB.of_below (A:=λ_=>False) hb;exact⟨v',k.next hb,⟨cb.os.trans c.os,cb.tape.trans c.tape,cb.output.trans c.output,Nat.le_trans c.size cb.size,λi hi hn=>(cb.block i (Nat.lt_of_lt_of_le hi c.size) (λz=>z)).trans (c.block i hi hn)⟩,hg⟩
section
variable {w:World}{B b:Nat}{c c':aV}{a:Option Addr}{ca:Nat}{v:Value}
theorem aF.out {W0 w2:World}{bx:Nat}{vs:List Value}(hct:c'.t=c.t)(h:Hm w B b c a ca v)(b0:Below w.heap.size w W0)(hbx:w.heap.size<=bx)(hr:CB W0 bx vs)(hu:aF W0 w2 B b a ca v c'):CB w2 bx vs/\∀us:List Value,us.length=vs.length->aF w (w2.setCells bx 0 us) B b a ca v c'/\CB (w2.setCells bx 0 us) bx us:=by
 obtain⟨v',k,ch,hg⟩:=hu;have hlt:=h.tb.lt;have hbb:bx≠b:=by omega
 have hvb:v.ownBlock≠some bx:=λq=>by have:=(h.row.lt _ q).2;omega
 have hr2:CB w2 bx vs:=hr.aW ch (λq=>by
  rcases q with q|q
  ·exact hbb q
  ·exact hvb q)
 refine⟨hr2,λus hl=>?_⟩;have cs:=sJ (g:=bx) us 0 w2;have hv':v'.ownBlock≠some bx:=λq=>by
  rcases hg _ q with z|z
  ·exact hvb z
  ·have:=hr.lt;omega
 have hs0:=b0.size;refine⟨⟨v',k.aW cs (λq=>hbb q.symm) (λg hq z=>hv' (by rw[hq];exact congrArg some z)) (λn z hz q=>by have:=h.al (by rw[hct] at n;exact n) z hz;omega),⟨cs.os.trans (ch.os.trans b0.os),cs.tape.trans (ch.tape.trans b0.tape),cs.output.trans (ch.output.trans b0.output),Nat.le_trans b0.size (Nat.le_trans ch.size cs.size),λi hi hn=>?_⟩,λg hq=>?_⟩,hr2.dZ us hl⟩
 ·have:=ch.size;rw[cs.block i (by omega) (by omega),ch.block i (by omega) hn];exact b0.block i hi
 ·rcases hg g hq with z|z
  ·exact .inl z
  ·exact .inr (by omega)
variable {B' q:Nat}{F:Nat->Prop}{s:bD}
theorem uJ (h:Hm w B b c a ca v)(hs:jm w B' q F s)(hk:s.Ok)(hF:∀k,F k->¬gu b v k)(hf:aA true c.t.f=0)(hz:c.t.f.size<=140737488355328)(hcn:0<=c.cn/\c.cn<=1000000000000)(m:Rc)(nth:Int) :
 Calls prog 61 #[.pointer (some ⟨b,0,none⟩),.pointer (some ⟨q,0,none⟩),.agg #[.int .i64 m.k,.int .i64 m.q,.int .i64 m.t,.string m.s,.string m.h,.string m.d],.int .i64 nth] w λe w'=>e=.returned (Bv ⟨m.q,m.s,m.d,c.cn+1,nth,(aU c.t.f s.l c.pl:Int)⟩)/\aF w w' B b a ca v ⟨c.t,c.pl,c.pe,c.cn+1⟩:=by
 obtain⟨W0,hW0⟩:∃W0,W0=(w.alloc (Aa m)).alloc Ip:=⟨_,rfl⟩;have b0:Below w.heap.size w W0:=by rw[hW0];exact((Below.refl _ _).alloc (Nat.le_refl _) _).alloc (by simp) _
 have hsz:W0.heap.size=w.heap.size+2:=by rw[hW0];simp
 have rm:CB W0 w.heap.size (nH m):=by rw[hW0];exact(CB.new w (nH m) 33).next ((Below.refl _ _).alloc (Nat.le_refl _) _)
 have rd:CB W0 (w.heap.size+1) (jh bI):=by
  rw[hW0];have:=CB.new (w.alloc (Aa m)) (jh bI) 47;rw[World.size_alloc] at this;exact this
 have h0:=h.next b0;have c11:=h0.cn;have f11:=h0.fr 11;have hbl:=h0.tb.lt;have hlt:=h.tb.lt;obtain⟨W1,hW1⟩:∃W1,W1=W0.setCell ⟨b,11,none⟩ (.int .i64 (c.cn+1)):=⟨_,rfl⟩;have cW:aB (λk=>k=b) W0 W1:=by rw[hW1];exact aB.setCell (A:=λk=>k=b) (p:=⟨b,11,none⟩) (aB.refl _ _) (.inl rfl) _
 have hk1:Hm W1 B b ⟨c.t,c.pl,c.pe,c.cn+1⟩ a ca v:=by rw[hW1];exact h0.put (aB.refl _ W0) (.inr (.inl ⟨rfl,rfl,rfl,rfl⟩)) h0.row (λ_ q=>.inl q)
 have hs1:jm W1 B' q F s:=(hs.below b0).aW cW (λk hq z=>hF k hq (.inl z));have yF:=rm.aW cW (by show ¬(w.heap.size=b);omega);have hfew:=hk.few;obtain⟨sa,cap,s0,_,hcap,hcm,hsl,hcl⟩:=hs1.read;have HM:Hid (∀x∈s.l,aA false x.s=0/\x.s.size<=140737488355328):=aj (λx hx=>⟨CX (hk.msg x hx).2 (hk.msg x hx).1,by have:=(hk.small hx).1;omega⟩);have HO:Hid (∀w2,Below W1.heap.size W1 w2->CB w2 (w.heap.size+1) (jh bI)/\∀us:List Value,us.length=6->aF w (w2.setCells (w.heap.size+1) 0 us) B b a ca v ⟨c.t,c.pl,c.pe,c.cn+1⟩/\CB (w2.setCells (w.heap.size+1) 0 us) (w.heap.size+1) us):=aj (λw2 b2=>aF.out (c:=c) (c':=⟨c.t,c.pl,c.pe,c.cn+1⟩) rfl h b0 (by omega) rd (aF.trans (cW.mono (λ_ _ q=>.inl q)) (λ_ q=>.inl q) (aF.same hk1 b2)))
 have hwW:w.heap.size+2<=W1.heap.size:=by have:=cW.size;omega
 have HSame:Hid (∀w2,Below W1.heap.size W1 w2->Gm w.heap.size b m (c.cn+1) w2):=aj (λw2 b2=>⟨(b2.cell (p:=⟨w.heap.size,1,none⟩) (by show w.heap.size<_;omega)).trans (yF.cell 1 _ rfl),(b2.cell (p:=⟨w.heap.size,3,none⟩) (by show w.heap.size<_;omega)).trans (yF.cell 3 _ rfl),(b2.cell (p:=⟨w.heap.size,5,none⟩) (by show w.heap.size<_;omega)).trans (yF.cell 5 _ rfl),(b2.cell (p:=⟨b,11,none⟩) hk1.tb.lt).trans hk1.cn⟩);have HK1:=aj hk1;have zZ:=aj hsl;have HFe:=aj hf;unfold maxLen at hcm;obtain⟨hc1,hc2⟩:=hcn;clear h h0 hs hk hF hf hk1 hs1 rm yF rd cW hsl;go_enter func61,ntmps61
 go_upto_region 1 with fail
 rw[<-hW0];clear hW0;go_upto_region 2 with fail
 rw[<-hW1];clear hW1;go_wp2_with fail;go_loopw [9,10] (λnv iv wr=>∃k:Nat,nv=.int .i64 (aU c.t.f (s.l.take k) c.pl:Int)/\iv=.int .i64 k/\k<=s.l.length/\Hid (Below W1.heap.size W1 wr)) (λ_ iv _=>s.l.length-(intOf iv).toNat)
 case atStart=>exact⟨0,rfl,rfl,Nat.zero_le _,aj (Below.refl _ _)⟩
 case round =>
  obtain⟨k,rfl,rfl,hk,BW⟩:=hrel;have c0:=((ah BW).cell (p:=⟨q,0,none⟩) hcl).trans s0;have hkr:=(ah HK1).next (ah BW);by_cases hlt2:k<s.l.length
  ·obtain⟨ga,oo,rfl,s6⟩:=ah zZ k hlt2;have hst:=I9 (f:=c.t.f) (pl:=c.pl) hlt2;have hm:=ah HM (rc s.l k) (by rw[bG hlt2];exact List.getElem_mem hlt2);have hlow:aU c.t.f (s.l.take k) c.pl<=k:=Nat.le_trans (List.length_filter_le _ _) (by rw[List.length_take];omega);obtain⟨y,hy⟩:∃y,y=rc s.l k:=⟨_,rfl⟩;have s7:=s6.below (ah BW) s6.lt;rw[<-hy] at s7 hm hst;have sN:=aj hst;obtain⟨_,y0,y1,y2,y3,y4,y5⟩:=s7;have hgl:ga<wr.heap.size:=Nat.lt_of_lt_of_le s6.lt (ah BW).size;have z1:=hkr.tb.c1;have z10:=hkr.pl;have hbr:=hkr.tb.lt;obtain⟨X,hX⟩:∃X,aU c.t.f (s.l.take k) c.pl=X:=⟨_,rfl⟩
   rw[hX] at sN hlow;rw[hX];clear hy hst s6 hkr hX;by_cases hq:c.pl<=y.q
   ·have eq1:decide (c.pl<=y.q)=true:=decide_eq_true hq;have eq2:decide (y.q>=c.pl)=true:=eq1;have PK:=aj (qE c.t.f y.s wr.drew hz hm.2 (lF (ah HFe)) (lF hm.1));rw[yw hm.1] at PK;have K0:CtH b q ga oo k c.t.f c.pl y (some ⟨ga,oo,none⟩) s.l.length cap wr.drew:=⟨c0,y1,y3,z10,z1⟩;have HT:Hid (∀w3,Below wr.drew.heap.size wr.drew w3->CtH b q ga oo k c.t.f c.pl y (some ⟨ga,oo,none⟩) s.l.length cap w3):=aj (λw3 b3=>⟨(b3.cell (p:=⟨q,0,none⟩) (Nat.lt_of_lt_of_le hcl (ah BW).size)).trans c0,(b3.cell (p:=⟨ga,oo+k*6+1,none⟩) hgl).trans y1,(b3.cell (p:=⟨ga,oo+k*6+3,none⟩) hgl).trans y3,(b3.cell (p:=⟨b,10,none⟩) hbr).trans z10,(b3.cell (p:=⟨b,1,none⟩) hbr).trans z1⟩)
    clear y0 y2 y4 y5;go_wp2_with fail;go_region_held_law (CtH b q ga oo k c.t.f c.pl y (some ⟨ga,oo,none⟩) s.l.length cap) (first|with_reducible assumption)
     (first|(go_at_call 48;with_reducible refine(ah PK).mono ?_;rintro e w3 ⟨rfl,b3⟩;have k3:=ah HT w3 b3))
    all_goals
     have B3:=aj (ay (ah BW) (((Below.refl wr.heap.size wr).drew).trans b3))
     clear PK K0 HT b3 c0 y1 y3 z1 z10
     cases htk:jr c.t.f y.s with
     | false =>
      have HE:Hid (aU c.t.f (s.l.take (k+1)) c.pl=X):=aj (by rw[ah sN,htk,if_neg (by simp)];rfl);clear htk sN BW;go_wp2_with fail;refine⟨⟨k+1,by rw[ah HE],by go_num,by omega,B3⟩,?_⟩;simp[intOf];omega
     | true =>
      have HE:Hid (aU c.t.f (s.l.take (k+1)) c.pl=X+1):=aj (by rw[ah sN,htk,if_pos ⟨rfl,hq⟩]);clear htk sN BW;go_wp2_with fail;refine⟨⟨k+1,by rw[ah HE];go_num,by go_num,by omega,B3⟩,?_⟩;simp[intOf];omega
   ·have eq1:decide (c.pl<=y.q)=false:=decide_eq_false hq;have HE:Hid (aU c.t.f (s.l.take (k+1)) c.pl=X):=aj (by rw[ah sN,if_neg (λz=>hq z.2)];rfl);have B3:=aj (λn=>below_drewN (ah BW) n);clear sN BW y0 y2 y4 y5 hq;go_wp2_with fail;go_quiet (fail)
    go_wp2_with fail;refine⟨⟨k+1,by rw[ah HE],by go_num,by omega,aj (ah B3 _)⟩,?_⟩;simp[intOf];omega
  ·obtain rfl:k=s.l.length:=by omega
   rw[List.take_length];obtain⟨L,hL⟩:∃L:Int,(aU c.t.f s.l c.pl:Int)=L:=⟨_,rfl⟩;rw[hL];have k0:Gm w.heap.size b m (c.cn+1) wr.drew:=ah HSame wr (ah BW);have HF:=aj (ah HO wr (ah BW));have hz2:=(ah HF).1;have z0:=hz2.cell 0 _ rfl;have z1:=hz2.cell 1 _ rfl;have z2:=hz2.cell 2 _ rfl;have z3:=hz2.cell 3 _ rfl;have z4:=hz2.cell 4 _ rfl;have z5:=hz2.cell 5 _ rfl;have g0:=hz2.fr 0;have g1:=hz2.fr 1;have g2:=hz2.fr 2;have g3:=hz2.fr 3;have g4:=hz2.fr 4;have g5:=hz2.fr 5;have hn1:w.heap.size≠w.heap.size+1:=by omega
   have hn2:b≠w.heap.size+1:=by omega
   have HFr:Hid (∀u0 u1 u2 u3 u4 u5:Value,Gm w.heap.size b m (c.cn+1) ((((((wr.setCell ⟨w.heap.size+1,0,none⟩ u0).setCell ⟨w.heap.size+1,1,none⟩ u1).setCell ⟨w.heap.size+1,2,none⟩ u2).setCell ⟨w.heap.size+1,3,none⟩ u3).setCell ⟨w.heap.size+1,4,none⟩ u4).setCell ⟨w.heap.size+1,5,none⟩ u5).drew):=aj (Gm.six hn1 hn2 (ah HSame wr (ah BW)));have hbr:=hkr.tb.lt;have HLL:=aj hL;clear hz2 hkr hL zZ;go_wp2_with fail;clear c0;go_region_held_law (Gm w.heap.size b m (c.cn+1)) (first|with_reducible assumption|with_reducible exact ah HFr _ _ _ _ _ _) (fail)
   all_goals
    have HR:=aj ((ah HF).2 (jh ⟨m.q,m.s,m.d,c.cn+1,nth,L⟩) rfl)
    have HR2:Hid (aF w (wr.setCells (w.heap.size+1) 0 (jh ⟨m.q,m.s,m.d,c.cn+1,nth,L⟩)).drew B b a ca v ⟨c.t,c.pl,c.pe,c.cn+1⟩/\CB (wr.setCells (w.heap.size+1) 0 (jh ⟨m.q,m.s,m.d,c.cn+1,nth,L⟩)).drew (w.heap.size+1) (jh ⟨m.q,m.s,m.d,c.cn+1,nth,L⟩)):=aj ⟨(ah HR).1.next (Below.refl _ _).drew,(ah HR).2.next (Below.refl _ _).drew⟩
    clear HR
    clear z0 z1 z2 z3 z4 z5 g0 g1 g2 g3 g4 g5 k0 HF HO HSame BW HK1
    go_wp2_with fail
    exact bodyPost_ret (uP rfl rfl (ah HR2).2) rfl ⟨by rw[ah HLL],(ah HR2).1⟩
end
abbrev hmL (t:Tk.bY)(a:Option Addr)(c:Nat)(pl:Int):List Value:=[.string t.n,.string t.f,.int .i64 t.fr,.int .i64 t.st,.int .i64 t.ack,.int .i64 t.wait,.slice a t.bo.length c,.int .i64 t.mo,.int .i64 t.pe,.bool t.pu,.int .i64 pl,.int .i64 0,.slice none 0 0]
theorem CB.hm {w:World}{B b:Nat}{t:Tk.bY}{a:Option Addr}{c:Nat}{pl:Int}(h:CB w b (hmL t a c pl))(hsl:jV w a t.bo)(hB:B<=b)(ha:t.bo≠[]->∀z,a=some z->z.block≠b/\z.block<w.heap.size):Hm w B b ⟨t,pl,[],0⟩ a c (.slice none 0 0) :=
 ⟨⟨h.lt,h.cell 0 _ rfl,h.cell 1 _ rfl,h.cell 2 _ rfl,h.cell 3 _ rfl,h.cell 4 _ rfl,h.cell 5 _ rfl,h.cell 6 _ rfl,h.cell 7 _ rfl,h.cell 8 _ rfl,h.cell 9 _ rfl⟩,h.cell 10 _ rfl,h.cell 11 _ rfl,h.cell 12 _ rfl,aO.empty _ _ _,hsl,h.fr,hB,by simp[Value.ownBlock],λn z hz=>⟨(ha n z hz).1,by simp[Value.ownBlock]⟩,λn z hz=>(ha n z hz).2⟩
theorem jV.al {w:World}{a:Option Addr}{l:List Int}(h:jV w a l)(hn:l≠[]):∀z,a=some z->z.block<w.heap.size:=λz hz=>by
 cases l with
 | nil=>exact absurd rfl hn
 | cons x r =>
  obtain⟨b,o,e,hb,_⟩:=h 0 (by simp);rw[e] at hz
  cases hz
  exact hb
section
variable {w:World}{B' q:Nat}{F:Nat->Prop}{s:bD}
theorem F5 (t:Tk.bY)(a:Option Addr)(c:Nat)(hz:t.f.size<=140737488355328)(hsl:jV w a t.bo)(he:aA true t.f=0)(h:jm w B' q F s)(hk:s.Ok) :
 Calls prog 12 #[pF t a c,.pointer (some ⟨q,0,none⟩)] w λe w'=>(∃b,e=.returned (.pointer (some ⟨b,0,none⟩))/\Hm w' w.heap.size b ⟨t,bC t s,[],0⟩ a c (.slice none 0 0))/\Below w.heap.size w w':=by
 obtain⟨W0,hW0⟩:∃W0,W0=w.alloc (qY t a c):=⟨_,rfl⟩;have b0:Below w.heap.size w W0:=by rw[hW0];exact(Below.refl _ _).alloc (Nat.le_refl _) _
 have hs0:W0.heap.size=w.heap.size+1:=by rw[hW0];simp
 have x0:CB W0 w.heap.size (gU t a c):=by rw[hW0];exact CB.new w (gU t a c) 24
 obtain⟨W1,hW1⟩:∃W1,W1=W0.alloc (.cells (hmL t a c 1).toArray 109):=⟨_,rfl⟩;have b1:Below W0.heap.size W0 W1:=by rw[hW1];exact(Below.refl _ _).alloc (Nat.le_refl _) _
 have y1:CB W1 (w.heap.size+1) (hmL t a c 1):=by
  have:=CB.new W0 (hmL t a c 1) 109;rw[hs0,<-hW1] at this;exact this
 have B1:Hid (Below w.heap.size w W1):=aj (ay b0 b1);have x1:=x0.next b1;have Yu:=(h.below b0).below b1;obtain⟨sa,cap,_,q1,_,_,_,Ou⟩:=Yu.read;obtain⟨l0,l1⟩:=hk.last;have PS0:=(λ(n:Int)=>Af t.f 0 true hz (Yu.aW (A:=λk=>k=w.heap.size+1) (aB.setCell (A:=λk=>k=w.heap.size+1) (p:=⟨w.heap.size+1,10,none⟩) (aB.refl _ _) (.inl rfl) (.int .i64 n)) (λk hk' z=>by have:=(h.own k hk').2;omega)) hk);rw[Ns hk] at PS0;unfold dS at PS0;rw[if_pos he,kK] at PS0;have PS:=aj PS0;have HE:Hid (∀(W:World) (pl:Int),Below w.heap.size w W->CB W (w.heap.size+1) (hmL t a c pl)->bC t s=pl->(∃b,Ending.returned (.pointer (some ⟨w.heap.size+1,0,none⟩))=.returned (.pointer (some ⟨b,0,none⟩))/\Hm W w.heap.size b ⟨t,bC t s,[],0⟩ a c (.slice none 0 0))/\Below w.heap.size w W):=aj (λW pl hb hc e=>⟨⟨_,rfl,by rw[e];exact hc.hm (bK hsl hb) (Nat.le_succ _) (λn z hz'=>by have:=jV.al hsl n z hz';have:=hb.size;omega)⟩,hb⟩)
 have HY:=aj y1;have HS:Hid (∀n,CB (W1.setCell ⟨w.heap.size+1,10,none⟩ (.int .i64 n)) (w.heap.size+1) (hmL t a c n)/\Below w.heap.size w (W1.setCell ⟨w.heap.size+1,10,none⟩ (.int .i64 n))):=aj (λn=>⟨y1.put (j:=10) (by simp) (.int .i64 n),(ah B1).setCell (Nat.le_succ _) _⟩);obtain⟨_,t0,t1,t2,t3,t4,t5,t6,t7,t8,t9⟩:=TB.of x0;have u1:=x1.cell 1 _ rfl;have u2:=x1.cell 2 _ rfl;have u3:=x1.cell 3 _ rfl;have v10:=y1.cell 10 _ rfl;have f10:=y1.fr 10;have hne:q≠w.heap.size+1:=λz=>by
  obtain⟨_,g,_,_,_,_,_,_,g8⟩:=h;have:=g.2;omega
 have hl1:w.heap.size+1<W1.heap.size:=y1.lt;have hlx:w.heap.size<W1.heap.size:=by omega
 clear h hk b0 b1 x0 x1 y1 Yu hsl he PS0;have g0:t.fr=3\/t.fr=2\/t.fr=1\/(t.fr≠3/\t.fr≠2/\t.fr≠1):=by omega
 rcases g0 with h3|h2|h1|⟨n3,n2,n1⟩
 ·have HP:Hid (bC t s=t.st):=aj (by unfold bC;rw[if_neg (by omega),if_neg (by omega),if_pos h3]);have g3:(t.fr==3)=true:=by rw[h3];rfl
  have R:=aj (ah HE _ t.st (ah HS t.st).2 (ah HS t.st).1 (ah HP));clear HE HS HY B1 PS h3;go_enter func12,ntmps12;go_upto_region 1 with fail
  rw[<-hW0];clear hW0;go_upto_region 2 with fail
  rw[show W0.alloc (.cells #[.string t.n,.string t.f,.int .i64 t.fr,.int .i64 t.st,.int .i64 t.ack,.int .i64 t.wait,.slice a t.bo.length c,.int .i64 t.mo,.int .i64 t.pe,.bool t.pu,.int .i64 1,.int .i64 0,.slice none 0 0] 109)=W1 from hW1.symm];clear hW1 t0 t1 t2 t3 t4 t5 t6 t7 t8 t9;go_wp2_with fail;go_ret;exact ah R
 ·have HP:Hid (bC t s=s.last+1):=aj (by unfold bC;rw[if_neg (by omega),if_pos h2]);have g3:(t.fr==3)=false:=by rw[h2];rfl
  have g2:(t.fr==2)=true:=by rw[h2];rfl
  have R:=aj (ah HE _ (s.last+1) (ah HS (s.last+1)).2 (ah HS (s.last+1)).1 (ah HP));clear HE HS HY B1 PS h2;go_enter func12,ntmps12;go_upto_region 1 with fail
  rw[<-hW0];clear hW0;go_upto_region 2 with fail
  rw[show W0.alloc (.cells #[.string t.n,.string t.f,.int .i64 t.fr,.int .i64 t.st,.int .i64 t.ack,.int .i64 t.wait,.slice a t.bo.length c,.int .i64 t.mo,.int .i64 t.pe,.bool t.pu,.int .i64 1,.int .i64 0,.slice none 0 0] 109)=W1 from hW1.symm];clear hW1 t0 t1 t2 t3 t4 t5 t6 t7 t8 t9;go_wp2_with fail;go_ret;exact ah R
 ·have g3:(t.fr==3)=false:=by rw[h1];rfl
  have g2:(t.fr==2)=false:=by rw[h1];rfl
  have g1:(t.fr==1)=true:=by rw[h1];rfl
  have Yv:=aj (ah PS (s.last+1));obtain⟨W2,hW2⟩:∃W2,W2=W1.setCell ⟨w.heap.size+1,10,none⟩ (.int .i64 (s.last+1)):=⟨_,rfl⟩;have S2:=aj (ah HS (s.last+1));rw[<-hW2] at Yv S2;have r1:W2.cell? ⟨w.heap.size,1,none⟩=some (.string t.f):=by rw[hW2,World.cell?_setCell_other _ _ _ _ (by intro e;injection e;omega)];exact u1
  have hs2:W2.heap.size=W1.heap.size:=by rw[hW2];simp[World.setCell]
  cases ho:iL t.f s.l with
  | some m =>
   have HP:Hid (bC t s=m.q):=aj (by unfold bC;rw[if_pos h1,ho]);rw[ho,show oE (some m)=0 from rfl,show oR (some m)=m from rfl] at Yv;clear HS HY B1 PS h1 ho;go_enter func12,ntmps12;go_upto_region 1 with fail
   rw[<-hW0];clear hW0;go_upto_region 2 with fail
   rw[show W0.alloc (.cells #[.string t.n,.string t.f,.int .i64 t.fr,.int .i64 t.st,.int .i64 t.ack,.int .i64 t.wait,.slice a t.bo.length c,.int .i64 t.mo,.int .i64 t.pe,.bool t.pu,.int .i64 1,.int .i64 0,.slice none 0 0] 109)=W1 from hW1.symm];clear hW1 t0 t1 t2 t3 t4 t5 t6 t7 t8 t9;go_upto_region 9 with fail
   rw[<-hW2];clear hW2 u1 u2 u3 v10 f10 q1;go_wp2_with fail;refine(ah Yv).mono ?_;rintro e w3 ⟨rfl,b3⟩;have C3:=(ah S2).1.next b3;have ba:Below w3.heap.size w3 (w3.alloc (Aa m)):=(Below.refl _ _).alloc (Nat.le_refl _) _;have C4:=C3.next ba;have z10:=C4.cell 10 _ rfl;have zf:=C4.fr 10;have hz3:=C4.lt;have R:=aj (ah HE ((w3.alloc (Aa m)).setCell ⟨w.heap.size+1,10,none⟩ (.int .i64 m.q)) m.q ((ay (ay (ah S2).2 b3) ba).setCell (Nat.le_succ _) _) (C4.put (j:=10) (by simp) (.int .i64 m.q)) (ah HP));have abO:w3.heap.size≠w.heap.size+1:=by have:=C3.lt;omega
   clear C3 C4 ba b3 Yv S2 HE HP;go_wp2_with fail;go_ret;exact ah R
  | none =>
   have HP:Hid (bC t s=s.last+1):=aj (by unfold bC;rw[if_pos h1,ho]);rw[ho,show oE none=4 from rfl,show oR none=cu from rfl] at Yv;clear HS HY B1 PS h1 ho;go_enter func12,ntmps12;go_upto_region 1 with fail
   rw[<-hW0];clear hW0;go_upto_region 2 with fail
   rw[show W0.alloc (.cells #[.string t.n,.string t.f,.int .i64 t.fr,.int .i64 t.st,.int .i64 t.ack,.int .i64 t.wait,.slice a t.bo.length c,.int .i64 t.mo,.int .i64 t.pe,.bool t.pu,.int .i64 1,.int .i64 0,.slice none 0 0] 109)=W1 from hW1.symm];clear hW1 t0 t1 t2 t3 t4 t5 t6 t7 t8 t9;go_upto_region 9 with fail
   rw[<-hW2];clear hW2 u1 u2 u3 v10 f10 q1;go_wp2_with fail;refine(ah Yv).mono ?_;rintro e w3 ⟨rfl,b3⟩;have ba:Below w3.heap.size w3 (w3.alloc (Aa cu)):=(Below.refl _ _).alloc (Nat.le_refl _) _;have R:=aj (ah HE (w3.alloc (Aa cu)) (s.last+1) (ay (ay (ah S2).2 b3) ba) (((ah S2).1.next b3).next ba) (ah HP));clear ba b3 Yv S2 HE HP;go_wp2_with fail;go_ret;exact ah R
 ·have HP:Hid (bC t s=1):=aj (by unfold bC;rw[if_neg n1,if_neg n2,if_neg n3]);have g3:(t.fr==3)=false:=by simpa using n3
  have g2:(t.fr==2)=false:=by simpa using n2
  have g1:(t.fr==1)=false:=by simpa using n1
  have R:=aj (ah HE _ 1 (ah B1) (ah HY) (ah HP));clear HE HS HY B1 PS n1 n2 n3;go_enter func12,ntmps12;go_upto_region 1 with fail
  rw[<-hW0];clear hW0;go_upto_region 2 with fail
  rw[show W0.alloc (.cells #[.string t.n,.string t.f,.int .i64 t.fr,.int .i64 t.st,.int .i64 t.ack,.int .i64 t.wait,.slice a t.bo.length c,.int .i64 t.mo,.int .i64 t.pe,.bool t.pu,.int .i64 1,.int .i64 0,.slice none 0 0] 109)=W1 from hW1.symm];clear hW1 t0 t1 t2 t3 t4 t5 t6 t7 t8 t9;go_wp2_with fail;go_ret;exact ah R
end
