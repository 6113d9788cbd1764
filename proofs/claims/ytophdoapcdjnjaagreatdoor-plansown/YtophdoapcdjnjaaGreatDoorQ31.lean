/- A part. -/
import Derived.Test.YtophdoapcdjnjaaGreatDoorQ10
import Derived.Test.YtophdoapcdjnjaaGreatDoorQ28
set_option maxRecDepth 100000
set_option maxHeartbeats 8000000
namespace Go.Proofs.YtophdoapcdjnjaaGreatDoor
open Go.RowKit Go.Proofs.Tryz
namespace Dk
theorem lT {r:Rc}(h:dJ r=0)(h1:r.k=1):aB false r.s=0:=by
 have e:=vN r.k r.q r.t r.s r.h r.d;have e2:qB r.k r.q r.t r.s r.h r.d=0:=h;rw[e2] at e;by_cases hb:Pk.inB r.k r.q r.t=false
 ·rw[if_pos hb] at e;cases e
 ·rw[if_neg hb,if_pos h1] at e;unfold Et at e;by_cases z:aB false r.s≠0
  ·rw[if_pos z] at e;exact e.symm
  ·exact Classical.byContradiction z
theorem aX.Ok.cnt {s:aX}(h:s.Ok):∃es,Cnt s.l es:=O7 _ s.l rfl (λx hx=>⟨lT (h.msg x hx).2 (h.msg x hx).1,by have:=(h.small hx).1;omega⟩) h.names
theorem Nj {r:Rc}(h:dJ r=0)(h1:r.k=3):aB true r.s=0:=by
 have e:=vN r.k r.q r.t r.s r.h r.d;have e2:qB r.k r.q r.t r.s r.h r.d=0:=h;rw[e2] at e;by_cases hb:Pk.inB r.k r.q r.t=false
 ·rw[if_pos hb] at e;cases e
 ·rw[if_neg hb,if_neg (by omega),if_pos h1] at e;unfold Eu at e;by_cases z:aB true r.s≠0
  ·rw[if_pos z] at e;exact e.symm
  ·exact Classical.byContradiction z
def Nk (l:List Rc)(last:Int)(r:Rc):Int:=if r.q<=last then 9 else if 200<=l.length\/(dP l r.s=false/\100<=eH l) then 8 else 0
theorem WJ {l:List Rc}{last:Int}{r:Rc}(h:r.q<=last):Nk l last r=9:=if_pos h
theorem UH {l:List Rc}{last:Int}{r:Rc}(h:¬r.q<=last)(h2:200<=l.length):Nk l last r=8:=by unfold Nk;rw[if_neg h,if_pos (.inl h2)]
theorem UJ {l:List Rc}{last:Int}{r:Rc}(h:¬r.q<=last)(h2:dP l r.s=false)(h3:100<=eH l):Nk l last r=8:=by unfold Nk;rw[if_neg h,if_pos (.inr ⟨h2,h3⟩)]
theorem WL {l:List Rc}{last:Int}{r:Rc}(h:¬r.q<=last)(h1:¬200<=l.length)(h2:dP l r.s=true):Nk l last r=0:=by
 unfold Nk;rw[if_neg h,if_neg (λz=>by rcases z with z|z;exact h1 z;rw[h2] at z;cases z.1)]
theorem UK {l:List Rc}{last:Int}{r:Rc}(h:¬r.q<=last)(h1:¬200<=l.length)(h2:¬100<=eH l):Nk l last r=0:=by
 unfold Nk;rw[if_neg h,if_neg (λz=>by rcases z with z|z;exact h1 z;exact h2 z.2)]
theorem Nl {w:World}{B q:Nat}{v u:Value}{l:List Rc}{es:List aJ}{last:Int}(r:Rc)(h:kD w B q v u l es last)(hc:Cnt l es)(hr:aB false r.s=0)(hs:r.s.size<=140737488355328)(fA:l.length<=200) :
 Calls prog 77 #[.pointer (some ⟨q,0,none⟩),.agg #[.int .i64 r.k,.int .i64 r.q,.int .i64 r.t,.string r.s,.string r.h,.string r.d]] w λe w'=>e=.returned (.int .i64 (Nk l last r))/\Below w.heap.size w w':=by
 have hb0:Below w.heap.size w (w.alloc (.cells #[.int .i64 r.k,.int .i64 r.q,.int .i64 r.t,.string r.s,.string r.h,.string r.d] 45)):=(Below.refl _ _).alloc (Nat.le_refl _) _;have Hb0:=aj hb0;obtain⟨a,cap,rfl,_⟩:=h.msgs.shape;have c0:=h.c0;have c2:=h.c2;have QD:=h.lt;have g1:(iJ es r.s:Int)=(eY l r.s:Int):=hc.get hr;have g2:(es.length:Int)=(eH l:Int):=by rw[hc.len]
 have g3:=nT l r.s;have HS:=aj h;have HC:=aj hc.good;have P:Hid (∀m,Calls prog 80 #[.pointer (some ⟨q,0,none⟩),.string r.s] ((w.alloc (.cells #[.int .i64 r.k,.int .i64 r.q,.int .i64 r.t,.string r.s,.string r.h,.string r.d] 45)).drewN m) λe w'=>e=.returned (.int .i64 (iJ es r.s))/\Below w.heap.size w w'):=aj (λm=>by
  have b:=below_drewN hb0 m;refine(mP r.s (h.below b) hc.good hs).mono ?_;rintro e w' ⟨he,hb⟩;exact⟨he,aA b hb⟩)
 clear h hb0 hc;by_cases h1:r.q<=last
 ·have R:=aj (WJ (l:=l) h1);clear g1 g2 g3;go_enter func77,ntmps77;go_wp2_with fail;go_quiet (fail)
  go_wp2_with fail;go_ret;exact⟨fQ (ah R),below_drewN (ah Hb0) _⟩
 ·by_cases h2:200<=l.length
  ·have R:=aj (UH h1 h2);clear g1 g2 g3;go_enter func77,ntmps77;go_wp2_with fail;go_quiet (fail)
   go_wp2_with fail;go_ret;exact⟨fQ (ah R),below_drewN (ah Hb0) _⟩
  ·obtain⟨n,en⟩:∃n,n=iJ es r.s:=⟨_,rfl⟩;rw[<-en] at g1;have EN:=aj en;clear en;by_cases h3:n=0
   ·subst h3;have hz:dP l r.s=false:=by rw[g3];exact decide_eq_false (by omega)
    by_cases h4:100<=es.length
    ·have R:=aj (UJ (r:=r) h1 hz (by omega));clear g1 g2 g3 hz;go_enter func77,ntmps77;go_wp2_with fail;go_quiet (fail)
     go_wp2_with fail;refine(ah P _).mono ?_;rintro e w1 ⟨rfl,b1⟩;rw[<-ah EN];have P2:=aj (count_any B q u es w1 ((ah HS).below b1).keeps);have B1:=aj b1;clear b1 P c0 c2;go_wp2_with fail;refine(ah P2).mono ?_;rintro e w2 ⟨rfl,rfl⟩;go_wp2_with fail;go_ret;exact⟨fQ (ah R),ah B1⟩
    ·have R:=aj (UK (r:=r) h1 h2 (by omega));clear g1 g2 g3 hz;go_enter func77,ntmps77;go_wp2_with fail;go_quiet (fail)
     go_wp2_with fail;refine(ah P _).mono ?_;rintro e w1 ⟨rfl,b1⟩;rw[<-ah EN];have P2:=aj (count_any B q u es w1 ((ah HS).below b1).keeps);have B1:=aj b1;clear b1 P c0 c2;go_wp2_with fail;refine(ah P2).mono ?_;rintro e w2 ⟨rfl,rfl⟩;go_wp2_with fail;go_ret;exact⟨fQ (ah R),ah B1⟩
   ·have R:=aj (WL (r:=r) h1 h2 (by rw[g3];exact decide_eq_true (by omega)));clear g1 g2 g3;go_enter func77,ntmps77;go_wp2_with fail;go_quiet (fail)
    go_wp2_with fail;refine(ah P _).mono ?_;rintro e w1 ⟨rfl,b1⟩;rw[<-ah EN];have B1:=aj b1;clear b1 P c0 c2;go_wp2_with fail;go_ret;exact⟨fQ (ah R),ah B1⟩
def Yx (l:List Rc)(n:Int):Int:=if seqB l n=false then 4 else 0
theorem Np {w:World}{B q:Nat}{v u:Value}{l:List Rc}{es:List aJ}{last:Int}(n:Int)(h:kD w B q v u l es last)(hr:gK l)(fA:l.length<=200) :
 Calls prog 78 #[.pointer (some ⟨q,0,none⟩),.int .i64 n] w λe w'=>e=.returned (.int .i64 (Yx l n))/\Below w.heap.size w w':=by
 cases hs:seqB l n
 all_goals
  have hE:Yx l n=(if seqB l n=false then 4 else 0):=rfl
  rw[hs] at hE
  have HE:=aj hE
  clear hE
  go_enter func78,ntmps78
  go_wp2_with fail
  refine(jX n h hr fA).mono ?_
  rintro e w1 ⟨rfl,hb⟩
  rw[hs]
  go_wp2_with fail
  go_ret
  exact⟨fQ (by rw[ah HE];rfl),hb⟩
theorem JY {s:aX}{r:Rc}(h:¬dJ r=0):dG s r=dJ r:=by unfold dG;rw[if_pos h]
theorem JZ {s:aX}{r:Rc}(h:dJ r=0)(h1:r.k=1):dG s r=Nk s.l s.last r:=by
 unfold dG Nk;rw[if_neg (by rw[h];simp),if_neg (by omega),if_neg (by omega)]
theorem J4 {s:aX}{r:Rc}(h:dJ r=0)(h1:r.k=2):dG s r=Yx s.l r.q:=by
 unfold dG Yx;rw[if_neg (by rw[h];simp)];by_cases z:seqB s.l r.q=false
 ·rw[if_pos ⟨h1,z⟩,if_pos z]
 ·rw[if_neg (λy=>z y.2),if_pos (by omega),if_neg z]
theorem QN {s:aX}{r:Rc}(h:dJ r=0)(h1:¬r.k=1)(h2:¬r.k=2):dG s r=0:=by
 unfold dG;rw[if_neg (by rw[h];simp),if_neg (λz=>h2 z.1),if_pos h1]
theorem FV {w:World}{B q:Nat}{v u:Value}{s:aX}{es:List aJ}(r:Rc)(hm:Small r)(h:kD w B q v u s.l es s.last)(hc:Cnt s.l es)(hk:s.Ok) :
 Calls prog 50 #[.pointer (some ⟨q,0,none⟩),.agg #[.int .i64 r.k,.int .i64 r.q,.int .i64 r.t,.string r.s,.string r.h,.string r.d]] w λe w'=>e=.returned (.int .i64 (dG s r))/\Below w.heap.size w w':=by
 have hr:gK s.l:=hk.rise;have fA:=hk.few;have hb0:Below w.heap.size w (w.alloc (.cells #[.int .i64 r.k,.int .i64 r.q,.int .i64 r.t,.string r.s,.string r.h,.string r.d] 45)):=(Below.refl _ _).alloc (Nat.le_refl _) _;have H0:=aj (h.below hb0);have HR:=aj (RB.new w r.k r.q r.t r.s r.h r.d 45);have Hb0:=aj hb0;have PC:=aj (check_any r.k r.q r.t r.s r.h r.d (w.alloc (.cells #[.int .i64 r.k,.int .i64 r.q,.int .i64 r.t,.string r.s,.string r.h,.string r.d] 45)) hm.s hm.h hm.d);have hz:=hm.s;have HC:=aj hc;have Hr:=aj hr;clear h hb0 hm hk hc hr;by_cases hg:dJ r=0
 ·have HZ:Hid (qB r.k r.q r.t r.s r.h r.d=0):=aj hg;have F1:=lT hg;have T1:=JZ (s:=s) hg;have T2:=J4 (s:=s) hg;have T3:=QN (s:=s) hg;clear hg;rcases r with ⟨k,n,t,s',h',d'⟩;by_cases hk1:k=1
  ·subst hk1;have HRt:=aj (F1 rfl);have TT:=aj (T1 rfl);clear T1 T2 T3 F1;dsimp only at H0 HR Hb0 PC hz HZ ⊢;go_enter func50,ntmps50;go_wp2_with fail;refine(ah PC).mono ?_;rintro e w1 ⟨rfl,b1⟩;rw[ah HZ];obtain⟨_,x0,x1,x2,x3,x4,x5⟩:=(ah HR).next b1;have P:=aj (Nl ⟨1,n,t,s',h',d'⟩ ((ah H0).below b1) (ah HC) (ah HRt) hz fA);have B1:=aj (aA (ah Hb0) b1);clear b1;go_wp2_with fail;refine(ah P).mono ?_;rintro e w2 ⟨rfl,b2⟩;go_wp2_with fail;go_ret;exact⟨fQ (ah TT),aA (ah B1) b2⟩
  ·by_cases hk2:k=2
   ·subst hk2;have TT:=aj (T2 rfl);clear T1 T2 T3 F1;dsimp only at H0 HR Hb0 PC hz HZ ⊢;go_enter func50,ntmps50;go_wp2_with fail;refine(ah PC).mono ?_;rintro e w1 ⟨rfl,b1⟩;rw[ah HZ];obtain⟨_,x0,x1,x2,x3,x4,x5⟩:=(ah HR).next b1;have P:=aj (Np n ((ah H0).below b1) (ah Hr) fA);have B1:=aj (aA (ah Hb0) b1);clear b1;go_wp2_with fail;refine(ah P).mono ?_;rintro e w2 ⟨rfl,b2⟩;go_wp2_with fail;go_ret;exact⟨fQ (ah TT),aA (ah B1) b2⟩
   ·have T4:=aj (T3 hk1 hk2);clear T1 T2 T3 F1;dsimp only at H0 HR Hb0 PC hz HZ ⊢;go_enter func50,ntmps50;go_wp2_with fail;refine(ah PC).mono ?_;rintro e w1 ⟨rfl,b1⟩;rw[ah HZ];obtain⟨_,x0,x1,x2,x3,x4,x5⟩:=(ah HR).next b1;have B1:=aj (aA (ah Hb0) b1);clear b1;go_wp2_with fail;go_ret;exact⟨fQ (ah T4),ah B1⟩
 ·have R:=aj (JY (s:=s) hg);obtain⟨E,hE⟩:∃E,E=dJ r:=⟨_,rfl⟩;have HE:Hid (qB r.k r.q r.t r.s r.h r.d=E):=aj hE.symm;rw[<-hE] at hg R;clear hE;go_enter func50,ntmps50;go_wp2_with fail;refine(ah PC).mono ?_;rintro e w1 ⟨rfl,b1⟩;rw[ah HE];go_wp2_with fail;go_ret;exact⟨fQ (ah R),aA (ah Hb0) b1⟩
theorem dA.six {w:World}{B g cap:Nat}{l:List Rc}(h:dA w B (.slice (some ⟨g,0,none⟩) l.length cap) l){k:Nat}(hk:k<l.length):Six w g (k*6) (rc l k):=by
 obtain⟨a,c,e,_,_,hs⟩:=h.shape;obtain⟨rfl,_,_⟩:=Value.slice.inj e;obtain⟨b,o,e2,s6⟩:=hs k hk
 cases e2
 rw[Nat.zero_add] at s6;exact s6
theorem Iu {w w':World}{b:Nat}{k q t:Int}{s h d:ByteArray}{A:Nat->Prop}(r:RB w b k q t s h d)(hc:aF A w w')(hn:¬A b):RB w' b k q t s h d :=
 ⟨Nat.lt_of_lt_of_le r.lt hc.size,by rw[hc.cell (p:=⟨b,0,none⟩) r.lt hn];exact r.c0,by rw[hc.cell (p:=⟨b,1,none⟩) r.lt hn];exact r.c1,by rw[hc.cell (p:=⟨b,2,none⟩) r.lt hn];exact r.c2,by rw[hc.cell (p:=⟨b,3,none⟩) r.lt hn];exact r.c3,by rw[hc.cell (p:=⟨b,4,none⟩) r.lt hn];exact r.c4,by rw[hc.cell (p:=⟨b,5,none⟩) r.lt hn];exact r.c5,λj=>by rw[hc.frozen (p:=⟨b,j,none⟩) r.lt hn];exact r.fr j⟩
theorem kD.more {w:World}{B q:Nat}{a:Option Addr}{n cap:Nat}{u:Value}{l:List Rc}{es:List aJ}{last:Int}(r:Rc)(h:kD w B q (.slice a n cap) u l es last)(fA:l.length<=200)(hB:B<=w.heap.size)(w3:World)(b3:Below w.heap.size w w3) :
 ∃a' m' c' w8,(Builtin.append_ #[25,25] 25 #[.slice a n cap,.slice (some ⟨w3.heap.size,0,none⟩) 1 1]).run prog (w3.alloc (.cells #[.int .i64 r.k,.int .i64 r.q,.int .i64 r.t,.string r.s,.string r.h,.string r.d] 45))=.ok (.slice a' m' c') w8/\w8.cell? ⟨q,0,none⟩=some (.slice a n cap)/\w8.frozen? ⟨q,0,none⟩=false/\Hid (Moves w (w8.setCell ⟨q,0,none⟩ (.slice a' m' c')) B q (.slice a n cap) u (l++[r]) es last):=by
 have b4:Below w3.heap.size w3 (w3.alloc (.cells #[.int .i64 r.k,.int .i64 r.q,.int .i64 r.t,.string r.s,.string r.h,.string r.d] 45)):=(Below.refl _ _).alloc (Nat.le_refl _) _;have h4:=(h.below b3).below b4;obtain⟨v8,w8,hr,A8,C8,L8⟩:=qj _ B 25 _ l [r] h4.msgs ⟨w3.heap.size,0,none⟩ 1 (Bj w3 r) (by simp;omega) (by have:=b3.size;have:=b4.size;omega);obtain⟨a',c',rfl,_⟩:=A8.shape;refine⟨a',_,c',w8,hr,?_,?_,aj (Moves.behind (aA b3 b4) (Moves.store h4 C8 A8 L8))⟩
 ·rw[C8.cell (p:=⟨q,0,none⟩) h4.lt h4.av];exact h4.c0
 ·rw[C8.frozen (p:=⟨q,0,none⟩) h4.lt h4.av];exact h4.free 0
theorem QO {w:World}{B q:Nat}{v u:Value}{l:List Rc}{es:List aJ}{last:Int}(r:Rc)(hm:Small r)(h:kD w B q v u l es last)(hg:Go.Proofs.YtophdoapcdjnjaaGreatDoor.dW es)(fA:l.length<=200)(hB:B<=w.heap.size)(hn:iJ es r.s<=200)(hn0:0<=iJ es r.s) :
 Calls prog 51 #[.pointer (some ⟨q,0,none⟩),.agg #[.int .i64 r.k,.int .i64 r.q,.int .i64 r.t,.string r.s,.string r.h,.string r.d]] w λe w'=>e=.returned (.tuple #[])/\Moves w w' B q v u (l++[r]) (lK es r.s (iJ es r.s+1)) r.q:=by
 obtain⟨w0,hw0⟩:∃w0,w0=w.alloc (.cells #[.int .i64 r.k,.int .i64 r.q,.int .i64 r.t,.string r.s,.string r.h,.string r.d] 45):=⟨_,rfl⟩;have hb0:Below w.heap.size w w0:=by rw[hw0];exact(Below.refl _ _).alloc (Nat.le_refl _) _
 have R0:RB w0 w.heap.size r.k r.q r.t r.s r.h r.d:=by rw[hw0];exact RB.new w r.k r.q r.t r.s r.h r.d 45
 have h0:=h.below hb0;obtain⟨a,cap,rfl,_⟩:=h.msgs.shape;have c0:=h0.c0;have QD:=h0.lt;have hbl:=R0.lt;have oD:w.heap.size<w0.heap.size:=R0.lt;have hnf:¬jW q (.slice a l.length cap) u w.heap.size:=λz=>by have:=(h.own _ z).2;omega
 have HR0:=aj R0;obtain⟨_,x0,x1,x2,x3,x4,x5,_⟩:=R0;have PC:Hid (∀X,Calls prog 40 #[.agg #[.int .i64 r.k,.int .i64 r.q,.int .i64 r.t,.string r.s,.string r.h,.string r.d]] X λe w'=>e=.returned (.agg #[.int .i64 r.k,.int .i64 r.q,.int .i64 r.t,.string r.s,.string r.h,.string r.d])/\Below X.heap.size X w'):=aj (λX=>oU r hm X);have PA:=aj (h0.more r fA (by have:=hb0.size;omega));have Hb0:=aj hb0;have HN:=aj hnf;have HG:=aj hg;have hz:=hm.s;have hB0:B<=w0.heap.size:=by have:=hb0.size;omega
 clear h h0 hb0 hg hnf hm;go_enter func51,ntmps51;go_wp2_with fail;rw[<-hw0];clear hw0;go_region_law (first
  | (refine qY rfl _ _ 25 25 rfl (.slice a l.length cap) _ (by first|(simp[Act.eval];done)|(simp[Act.eval,Act.put];done)) (by first|(simp[Act.eval];done)|(simp[Act.eval,Act.put];done)) hrun ?_)
  | (go_simp;go_at_call 40;refine(ah PC _).mono ?_;rintro e w3 ⟨rfl,b3⟩;have d2:=(b3.cell (p:=⟨q,0,none⟩) QD).trans c0;have hp3:=Nat.lt_of_lt_of_le QD b3.size;obtain⟨a',m',c',w8,hrun,e0,f0,HM⟩:=ah PA w3 (((Below.refl w0.heap.size w0).drew).trans b3);dsimp only))
 all_goals
  obtain⟨v1,u1,s1,Zg,o1⟩:=ah HM
  have R1:=Iu (ah HR0) Zg (ah HN)
  generalize w8.setCell ⟨q,0,none⟩ (.slice a' m' c')=W1 at *
  clear PC PA HR0 x0 x1 x2 x3 x4 x5 e0 f0 d2 hp3 b3 hrun HM c0 hbl
  have HS1:=aj s1
  have HR1:=aj R1
  have hq1:=s1.lt
  have hl1:=R1.lt
  obtain⟨_,x0,x1,x2,x3,x4,x5,_⟩:=R1
  have HC1:=aj (And.intro Zg o1)
  have HNf:Hid (¬foot q u1 w.heap.size):=aj (λz=>by
   have hf:jW q v1 u1 w.heap.size:=by
    rcases z with z|z
    ·exact .inl z
    ·exact .inr (.inr z)
   rcases o1 _ hf with y|y
   ·exact ah HN y
   ·have:=oD;omega)
  have hB1:B<=W1.heap.size:=by have:=Zg.size;omega
  have hsd:=s1.below (Below.refl _ W1).drew
  have PN:=aj (mP r.s hsd (ah HG) hz)
  obtain⟨n,en⟩:∃n,n=iJ es r.s:=⟨_,rfl⟩
  rw[<-en] at PN hn hn0
  have HE:=aj en
  have hw1:IntKind.i64.wrap (n+1)=n+1:=by rw[IntKind.wrap_i64];omega
  clear s1 Zg o1 en hsd
  go_wp2_with fail
  go_region_held3 (λw'=>w'.cell? ⟨w.heap.size,3,none⟩=some (.string r.s)) (first|assumption|go_keep)
   (first
    | (go_at_call 80;refine(ah PN).mono ?_;rintro e w5 ⟨rfl,b5⟩;have B5:=aj (((Below.refl W1.heap.size W1).drew).trans b5);have y3:=((ah HR1).next (ah B5)).c3)
    | (go_at_call 79;refine(yI B q u1 es r.s (n+1) w5 ((ah HS1).below (ah B5)).keeps (ah HG) hz (Nat.le_trans hB1 (ah B5).size)).mono ?_;rintro e w6 ⟨rfl,hu⟩;have R6:=Iu ((ah HR1).next (ah B5)) (QF (jl.bW hu)) (ah HNf);have z3:=R6.c3))
  have s5:=(ah HS1).below (ah B5)
  have M6:=Moves.behind (ah B5) (Moves.upd s5 hu)
  have HM6:=aj M6
  obtain⟨v6,u6,s6,c6,o6⟩:=M6
  have k2:=s6.c2
  have kf:=s6.free 2
  have kl:=s6.lt
  have x1:=R6.c1
  have HF:=aj (Moves.seq c6 o6 (Moves.number s6 r.q))
  have HC:=aj (Moves.behind (ah Hb0) (Moves.seq (ah HC1).1 (ah HC1).2 (ah HF)))
  clear HF s6 c6 o6 s5 hu HM6 y3 z3 R6
  go_wp2_with fail
  go_end0
  refine⟨rfl,?_⟩
  rw[<-ah HE]
  exact ah HC
theorem QS {w:World}{B q:Nat}{v u:Value}{l:List Rc}{es:List aJ}{last:Int}(n:Int)(h:kD w B q v u l es last)(hr:gK l)(hs:seqB l n=true)(hg:Go.Proofs.YtophdoapcdjnjaaGreatDoor.dW es)(fA:l.length<=200)(hB:B<=w.heap.size)(hz:(rc l (pq l n)).s.size<=140737488355328)(hn:iJ es (rc l (pq l n)).s<=200) :
 Calls prog 52 #[.pointer (some ⟨q,0,none⟩),.int .i64 n] w λe w'=>e=.returned (.tuple #[])/\Moves w w' B q v u (yQ l (pq l n)) (GY es (iJ es (rc l (pq l n)).s) (rc l (pq l n)).s) last:=by
 obtain⟨p1,p2⟩:=rZ hr hs;have PP:=aj (jX n h hr fA);obtain⟨p,hp⟩:∃p,p=pq l n:=⟨_,rfl⟩;rw[<-hp] at p1 p2 PP hz hn ⊢;clear hp p2;obtain⟨g,cap,rfl,c1,c2,c3,c4⟩:=h.msgs.there (by omega);unfold maxLen at c2;have HH:=aj h;have HG:=aj hg;clear h hg hr hs;go_enter func52,ntmps52;go_wp2_with fail;refine(ah PP).mono ?_;rintro e w1 ⟨rfl,b1⟩;have h1:=(ah HH).below b1;have d0:=h1.c0;obtain⟨_,x0,x1,x2,x3,x4,x5⟩:=h1.msgs.six p1;have P:=aj (JV (rc l p).s h1 (ah HG) hz (by have:=b1.size;omega) hn);have B1:=aj b1;clear b1 h1 x0 x1 x2 x4 x5;go_wp2_with fail;refine(ah P).mono ?_
 rintro e w2 ⟨rfl,k2⟩;obtain⟨u2,h2,ch2,o2⟩:=Counts.behind (ah B1) k2;have F2:=aj (Counts.jW (v:=.slice (some ⟨g,0,none⟩) l.length cap) ch2 o2);have e0:=h2.c0;have PD:=aj (FK B _ l p w2 h2.msgs p1 fA);have H2:=aj h2;clear h2 ch2 o2 P x3 d0 k2;go_wp2_with fail;refine(ah PD).mono ?_;rintro e w3 ⟨v3,rfl,i1,i2,i3⟩;obtain⟨a3,cp3,rfl,_⟩:=i1.shape;have d4:w3.cell? ⟨q,0,none⟩=some (.slice (some ⟨g,0,none⟩) l.length cap):=by rw[i2.cell (p:=⟨q,0,none⟩) (ah H2).lt (ah H2).av];exact e0
 have d5:w3.frozen? ⟨q,0,none⟩=false:=by rw[i2.frozen (p:=⟨q,0,none⟩) (ah H2).lt (ah H2).av];exact(ah H2).free 0
 have HM:=aj (Moves.store (ah H2) i2 i1 i3);clear i1 i2 i3 e0 PD;go_wp2_with fail;go_end0
 exact⟨rfl,Moves.seq (ah F2).1 (ah F2).2 (ah HM)⟩
theorem QT {f s:ByteArray}(hf:aB true f=0)(hs:aB false s=0):aI f s=lM f s:=by
 unfold aI lM;rw[hf,hs];simp
structure lq (w wr:World)(B q:Nat)(v u:Value)(l:List Rc)(last:Int)(f:ByteArray)(k:Nat)(sv:Value):Prop where
 ex:∃u' es',kD wr B q v u' l es' last/\Cnt (gQ f (l.take k)++l.drop k) es'/\aF (jW q v u) w wr/\(∀g,jW q v u' g->jW q v u g\/w.heap.size<=g)/\dA wr w.heap.size sv (gQ f (l.take k))/\∀g,sv.ownBlock=some g->u'.ownBlock≠some g
 hq:q<w.heap.size
 hv:∀g,v.ownBlock=some g->g<w.heap.size
theorem Df (l:List Rc)(s:ByteArray):eY l s<=l.length:=List.length_filter_le _ _
section
variable {w wr w':World}{B q:Nat}{v u sv:Value}{l:List Rc}{last:Int}{f:ByteArray}{k:Nat}
theorem lq.below (h:lq w wr B q v u l last f k sv)(hb:Below wr.heap.size wr w'):lq w w' B q v u l last f k sv:=by
 obtain⟨u',es',s,cn,ch,o,ar,ap⟩:=h.ex;exact⟨⟨u',es',s.below hb,cn,ch.trans (aF.of_below hb),o,ar.below hb,ap⟩,h.hq,h.hv⟩
theorem lq.room (h:lq w wr B q v u l last f k sv):w.heap.size<=wr.heap.size:=by
 obtain⟨u',es',s,cn,ch,o,ar,ap⟩:=h.ex;exact ch.size
theorem lq.show (h:lq w wr B q v u l last f k sv)(hk:k<l.length){a:Option Addr}{n c:Nat}(hv:v=.slice a n c):∃b o,a=some ⟨b,o,none⟩/\Six wr b (o+k*6) (rc l k):=by
 obtain⟨u',es',s,cn,ch,o,ar,ap⟩:=h.ex;obtain⟨a',c',e,_,_,hs⟩:=s.msgs.shape;rw[hv] at e;obtain⟨rfl,_,_⟩:=Value.slice.inj e;exact hs k hk
theorem lq.shape (h:lq w wr B q v u l last f k sv):∃a n c,sv=.slice a n c:=by
 obtain⟨u',es',s,cn,ch,o,ar,ap⟩:=h.ex;obtain⟨a',c',e,_⟩:=ar.shape;exact⟨_,_,_,e⟩
theorem lq.count (h:lq w wr B q v u l last f k sv)(hk:k<l.length)(ht:lM f (rc l k).s=true)(hB:B<=w.heap.size)(fA:l.length<=200)(hm:∀x∈l,aB false x.s=0/\x.s.size<=135) :
 Calls prog 82 #[.pointer (some ⟨q,0,none⟩),.string (rc l k).s] wr λe w'=>e=.returned (.tuple #[])/\lq w w' B q v u l last f (k+1) sv:=by
 obtain⟨u',es',s,cn,ch,o,ar,ap⟩:=h.ex;obtain⟨m1,m2⟩:=hm _ (nX hk);have hsp:gQ f (l.take k)++l.drop k=gQ f (l.take k)++rc l k::l.drop (k+1):=by rw[dU hk,<-List.drop_eq_getElem_cons hk]
 have hnl:(gQ f (l.take k)++l.drop k).length<=200:=by
  have:=xR f (l.take k);rw[List.length_take] at this;rw[List.length_append,List.length_drop];omega
 have hgn:iJ es' (rc l k).s<=200:=by
  rw[cn.get m1];have:=Df (gQ f (l.take k)++l.drop k) (rc l k).s;omega
 refine(JV (rc l k).s s cn.good (by omega) (Nat.le_trans hB ch.size) hgn).mono ?_;rintro e w' ⟨he,u2,s2,c2,o2⟩;obtain⟨F1,F2⟩:=Counts.jW (v:=v) c2 o2;refine⟨he,⟨⟨u2,_,s2,?_,?_,?_,?_,?_⟩,h.hq,h.hv⟩⟩
 ·rw[hsp] at cn;have:=Cnt.off cn m1 (by omega);rw[tN hk,ht,if_pos rfl,List.append_nil];exact this
 ·refine⟨F1.os.trans ch.os,F1.tape.trans ch.tape,F1.output.trans ch.output,Nat.le_trans ch.size F1.size,λi hi hn=>?_⟩;rw[F1.block i (by have:=ch.size;omega) (λz=>?_)]
  ·exact ch.block i hi hn
  ·rcases o i z with y|y
   ·exact hn y
   ·omega
 ·intro g hg;rcases F2 g hg with y|y
  ·exact o g y
  ·right;have:=ch.size;omega
 ·rw[tN hk,ht,if_pos rfl,List.append_nil];refine ar.bW c2 (λg hg z=>?_);rcases z with z|z
  ·have:=(ar.lt g hg).1;have:=h.hq;omega
  ·exact ap g hg z
 ·intro g hg z;rcases o2 g z with y|y
  ·exact ap g hg y
  ·have:=(ar.lt g hg).2;omega
theorem lq.more (h:lq w wr B q v u l last f k sv)(hk:k<l.length)(ht:lM f (rc l k).s=false)(fA:l.length<=200) :
 ∃a' n' c' w',(Builtin.append_ #[25,25] 25 #[sv,.slice (some ⟨wr.heap.size,0,none⟩) 1 1]).run prog (wr.alloc (.cells #[.int .i64 (rc l k).k,.int .i64 (rc l k).q,.int .i64 (rc l k).t,.string (rc l k).s,.string (rc l k).h,.string (rc l k).d] 45))=.ok (.slice a' n' c') w'/\lq w w' B q v u l last f (k+1) (.slice a' n' c'):=by
 have b4:Below wr.heap.size wr (wr.alloc (.cells #[.int .i64 (rc l k).k,.int .i64 (rc l k).q,.int .i64 (rc l k).t,.string (rc l k).s,.string (rc l k).h,.string (rc l k).d] 45)):=(Below.refl _ _).alloc (Nat.le_refl _) _;obtain⟨u',es',s,cn,ch,o,ar,ap⟩:=(h.below b4).ex;have hnl:(gQ f (l.take k)).length<=200:=by
  have:=xR f (l.take k);rw[List.length_take] at this;omega
 obtain⟨v8,w8,hr,A8,C8,L8⟩:=qj _ w.heap.size 25 sv _ [rc l k] ar ⟨wr.heap.size,0,none⟩ 1 (Bj wr (rc l k)) (by simp;omega) ch.size;obtain⟨a',c',rfl,_⟩:=A8.shape;have hsp:l.drop k=rc l k::l.drop (k+1):=by rw[dU hk,<-List.drop_eq_getElem_cons hk]
 have hlt:gQ f (l.take (k+1))=gQ f (l.take k)++[rc l k]:=by rw[tN hk,ht];rfl
 have hown:∀g,sv.ownBlock=some g->¬jW q v u' g:=λg hg z=>by
  have h1:=(ar.lt g hg).1;rcases z with z|z|z
  ·have:=h.hq;omega
  ·have:=h.hv g z;omega
  ·exact ap g hg z
 refine⟨a',_,c',w8,hr,⟨⟨u',es',s.bW C8 (λg hg z=>hown g z hg),?_,?_,o,by rw[hlt];exact A8,?_⟩,h.hq,h.hv⟩⟩
 ·rw[hlt,List.append_assoc,List.singleton_append,<-hsp];exact cn
 ·refine⟨C8.os.trans ch.os,C8.tape.trans ch.tape,C8.output.trans ch.output,Nat.le_trans ch.size C8.size,λi hi hn=>?_⟩;rw[C8.block i (by have:=ch.size;omega) (λz=>by have:=(ar.lt i z).1;omega)];exact ch.block i hi hn
 ·intro g hg z;rcases L8 g hg with y|y
  ·exact ap g y z
  ·have:=(s.cnts.lt g z).2;omega
theorem lq.fin {a:Option Addr}{n c:Nat}(h:lq w wr B q (.slice a n c) u l last f k sv)(hk:k<=l.length)(fA:l.length<=200) :
 Calls prog 85 #[.slice a n c,.int .i64 0,.int .i64 k,sv] wr λe w'=>∃a' n' c',e=.returned (.slice a' n' c')/\w'.cell? ⟨q,0,none⟩=some (.slice a n c)/\w'.frozen? ⟨q,0,none⟩=false/\Hid (∃es',Moves w (w'.setCell ⟨q,0,none⟩ (.slice a' n' c')) B q (.slice a n c) u (gQ f (l.take k)++l.drop k) es' last/\Cnt (gQ f (l.take k)++l.drop k) es'):=by
 obtain⟨u',es',s,cn,ch,o,ar,ap⟩:=h.ex;refine(FT s.msgs ar (by have:=xR f (l.take k);rw[List.length_take] at this;omega) hk fA (λg hg z=>by have:=h.hv g hg;have:=(ar.lt g z).1;omega)).mono ?_;rintro e w' ⟨v',rfl,A8,C8,L8⟩;obtain⟨a',c',rfl,_⟩:=A8.shape;refine⟨a',_,c',rfl,?_,?_,aj ⟨es',Moves.seq ch o (Moves.store s C8 A8 L8),cn⟩⟩
 ·rw[C8.cell (p:=⟨q,0,none⟩) s.lt s.av];exact s.c0
 ·rw[C8.frozen (p:=⟨q,0,none⟩) s.lt s.av];exact s.free 0
end
theorem QU {w:World}{B q:Nat}{v u:Value}{l:List Rc}{es:List aJ}{last:Int}(f:ByteArray)(n:Int)(hf:aB true f=0)(hfz:f.size<=140737488355328)(h:kD w B q v u l es last)(hr:gK l)(hc:Cnt l es)(fA:l.length<=200)(hm:∀x∈l,aB false x.s=0/\x.s.size<=135)(hB:B<=w.heap.size) :
 Calls prog 53 #[.pointer (some ⟨q,0,none⟩),.string f,.int .i64 n] w λe w'=>e=.returned (.tuple #[])/\∃es',Moves w w' B q v u (gQ f (l.take (pq l n))++l.drop (pq l n)) es' last/\Cnt (gQ f (l.take (pq l n))++l.drop (pq l n)) es':=by
 have PP:=aj (jX n h hr fA);have hpl:=Ju l n;obtain⟨p,hp⟩:∃p,p=pq l n:=⟨_,rfl⟩;rw[<-hp] at PP hpl ⊢;clear hp;obtain⟨a,cap,rfl,c1,c2,hsl⟩:=h.msgs.shape;unfold maxLen at c2;have HH:=aj h;have HC:=aj hc;have HM:=aj hm;clear h hc hr hm;go_enter func53,ntmps53;go_wp2_with fail;refine(ah PP).mono ?_;rintro e w1 ⟨rfl,b1⟩;have h1:=(ah HH).below b1;have d0:=h1.c0;have e0:(0:Int)<=(p:Int):=by omega
 have e1:(p:Int)<=(l.length:Int):=by omega
 have e2:p<=cap:=by omega
 clear PP;have HP:Hid (lq w w1 B q (.slice a l.length cap) u l last f 0 (.slice none 0 0)):=aj ⟨⟨u,es,h1,by simpa[gQ] using ah HC,aF.of_below b1,λg hg=>.inl hg,dA.empty _ _,λg hg=>by simp[Value.ownBlock] at hg⟩,(ah HH).lt,λg hg=>((ah HH).msgs.lt g hg).2⟩;have PT:Hid (∀k,k<l.length->∀X,Calls prog 84 #[.string f,.agg #[.int .i64 (rc l k).k,.int .i64 (rc l k).q,.int .i64 (rc l k).t,.string (rc l k).s,.string (rc l k).h,.string (rc l k).d]] X λe w'=>e=.returned (.bool (lM f (rc l k).s))/\Below X.heap.size X w'):=aj (λk hk X=>by
  obtain⟨m1,m2⟩:=ah HM _ (nX hk);have:=Am f (rc l k) hfz (by omega) X;rw[QT hf m1] at this;exact this)
 clear h1 b1 hsl hf;go_wp2_with fail;clear d0;go_loopw [8,24] (λsv kv wr=>∃(k:Nat),kv=.int .i64 k/\k<=p/\Hid (lq w wr B q (.slice a l.length cap) u l last f k sv)) (λ_ kv _=>p-(intOf kv).toNat)
 case atStart=>exact⟨0,rfl,Nat.zero_le _,HP⟩
 case round =>
  clear HP;obtain⟨k,rfl,hk,HP⟩:=hrel;obtain⟨sa,sn,sc,rfl⟩:=(ah HP).shape;by_cases hlt:k<p
  ·obtain⟨b,o,rfl,s6⟩:=(ah HP).show (by omega) rfl;have hkl:k<l.length:=by omega
   have T:=aj (ah PT k hkl);have K1:Hid (∀w5,Below wr.heap.size wr w5->lM f (rc l k).s=true->Calls prog 82 #[.pointer (some ⟨q,0,none⟩),.string (rc l k).s] w5 λe w'=>e=.returned (.tuple #[])/\lq w w' B q (.slice (some ⟨b,o,none⟩) l.length cap) u l last f (k+1) (.slice sa sn sc)):=aj (λw5 b5 ht=>((ah HP).below b5).count hkl ht hB fA (ah HM));have K2:Hid (∀w5,Below wr.heap.size wr w5->lM f (rc l k).s=false->∃a' n' c' w',(Builtin.append_ #[25,25] 25 #[.slice sa sn sc,.slice (some ⟨w5.heap.size,0,none⟩) 1 1]).run prog (w5.alloc (.cells #[.int .i64 (rc l k).k,.int .i64 (rc l k).q,.int .i64 (rc l k).t,.string (rc l k).s,.string (rc l k).h,.string (rc l k).d] 45))=.ok (.slice a' n' c') w'/\lq w w' B q (.slice (some ⟨b,o,none⟩) l.length cap) u l last f (k+1) (.slice a' n' c')):=aj (λw5 b5 ht=>((ah HP).below b5).more hkl ht fA)
   generalize rc l k=y at *;obtain⟨_,x0,x1,x2,x3,x4,x5⟩:=s6;have hb0:Below wr.heap.size wr (wr.alloc (.cells #[.int .i64 y.k,.int .i64 y.q,.int .i64 y.t,.string y.s,.string y.h,.string y.d] 45)):=(Below.refl _ _).alloc (Nat.le_refl _) _;have R0:=aj (RB.new wr y.k y.q y.t y.s y.h y.d 45);have Hb0:=aj hb0;clear hb0 PT;go_wp2_with fail;refine(ah T _).mono ?_;rintro e w5 ⟨rfl,b5⟩;have B5:=aj (aA (ah Hb0) b5);obtain⟨_,y0,y1,y2,y3,y4,y5,_⟩:=(ah R0).next b5;clear x0 x1 x2 x3 x4 x5 b5 T R0 Hb0
   cases ht:lM f y.s with
   | true =>
    have C:=aj (ah K1 w5 (ah B5) ht);clear K1 K2 ht;go_wp2_with fail;refine(ah C).mono ?_;rintro e w6 ⟨rfl,p6⟩;have P6:=aj p6;clear p6 C;go_wp2_with fail;refine⟨⟨k+1,by go_num,by omega,P6⟩,?_⟩;simp[intOf];omega
   | false =>
    obtain⟨a',n',c',w6,hrun,p6⟩:=ah K2 w5 (ah B5) ht;have P6:=aj p6;clear K1 K2 ht p6;go_wp2_with (at_builtin;refine Lib.wpList_append_run _ rfl _ _ _ _ rfl _ _ rfl rfl _ _ hrun ?_);refine⟨⟨k+1,by go_num,by omega,P6⟩,?_⟩;simp[intOf];omega
  ·obtain rfl:k=p:=by omega
   have PF:=aj ((ah HP).fin hpl fA);have d0:wr.cell? ⟨q,0,none⟩=some (.slice a l.length cap):=by
    obtain⟨u',es',s,_⟩:=(ah HP).ex;exact s.c0
   clear HP;go_wp2_with fail;refine(ah PF).mono ?_;rintro e w6 ⟨a',n',c',rfl,f0,f1,HF⟩;clear PF d0;go_wp2_with fail;go_end0
   exact⟨rfl,ah HF⟩
theorem Dh {s:aX}{r:Rc}(h:dG s r=0):dJ r=0:=by
 apply Classical.byContradiction;intro z;rw[JY z] at h;exact z h
theorem UL {s:aX}{r:Rc}(h:¬dG s r=0):jF s r=s:=by unfold jF;rw[if_pos h]
theorem UM {s:aX}{r:Rc}(h:dG s r=0)(h1:r.k=1):jF s r=⟨s.l++[r],r.q⟩:=by
 unfold jF;rw[if_neg (by rw[h];simp),if_pos h1]
theorem QV {s:aX}{r:Rc}(h:dG s r=0)(h1:r.k=4):jF s r=⟨s.l,max s.last r.q⟩:=by
 unfold jF;rw[if_neg (by rw[h];simp),if_neg (by omega),if_pos h1]
theorem UN {s:aX}{r:Rc}(h:dG s r=0)(h1:r.k=2)(hr:gK s.l)(hs:seqB s.l r.q=true):jF s r=⟨yQ s.l (pq s.l r.q),s.last⟩:=by
 unfold jF;rw[if_neg (by rw[h];simp),if_neg (by omega),if_neg (by omega),<-Pe hr hs];unfold Jr;rw[h1];simp
theorem UO {s:aX}{r:Rc}(h:dG s r=0)(h1:r.k=3)(hr:gK s.l):jF s r=⟨gQ r.s (s.l.take (pq s.l r.q))++s.l.drop (pq s.l r.q),s.last⟩:=by
 rw[xQ h h1,Pg hr]
theorem J5 {s:aX}{r:Rc}(h:dG s r=0)(h1:r.k=2):seqB s.l r.q=true:=by
 rw[J4 (Dh h) h1] at h;unfold Yx at h
 cases z:seqB s.l r.q
 ·rw[z] at h;cases h
 ·rfl
theorem QW {s:aX}{r:Rc}{es:List aJ}(hc:Cnt s.l es)(h:dG s r=0)(h1:r.k=1):0<eY s.l r.s\/es.length<100:=by
 rw[JZ (Dh h) h1] at h;unfold Nk at h;split at h
 ·cases h
 ·split at h
  ·cases h
  ·rename_i z y;rw[hc.len];by_cases q:eH s.l<100
   ·exact .inr q
   ·left;have hh:dP s.l r.s=true:=by
     cases x:dP s.l r.s
     ·exact absurd (.inr ⟨x,by omega⟩) y
     ·rfl
    rw[nT] at hh;exact of_decide_eq_true hh
theorem Moves.drew {w w':World}{B q:Nat}{v u:Value}{l:List Rc}{es:List aJ}{last:Int}(h:Moves w w' B q v u l es last):Moves w w'.drew B q v u l es last:=by
 obtain⟨v',u',s,c,o⟩:=h;exact⟨v',u',s.below (Below.refl _ _).drew,c.trans (aF.of_below (Below.refl _ _).drew),o⟩
def Done (w w':World)(B q:Nat)(v u:Value)(s':aX):Prop:=∃es',Moves w w' B q v u s'.l es' s'.last/\Cnt s'.l es'
theorem Done.behind {w w1 w':World}{B q:Nat}{v u:Value}{s':aX}(hb:Below w.heap.size w w1)(h:Done w1 w' B q v u s'):Done w w' B q v u s':=by
 obtain⟨es',m,c⟩:=h;exact⟨es',m.behind hb,c⟩
theorem Iw {w:World}{B q:Nat}{v u:Value}{s:aX}{es:List aJ}(r:Rc)(hm:Small r)(h:kD w B q v u s.l es s.last)(hc:Cnt s.l es)(hk:s.Ok)(hB:B<=w.heap.size) :
 Calls prog 29 #[.pointer (some ⟨q,0,none⟩),.agg #[.int .i64 r.k,.int .i64 r.q,.int .i64 r.t,.string r.s,.string r.h,.string r.d]] w λe w'=>e=.returned (.int .i64 (dG s r))/\Done w w' B q v u (jF s r):=by
 have hb0:Below w.heap.size w (w.alloc (.cells #[.int .i64 r.k,.int .i64 r.q,.int .i64 r.t,.string r.s,.string r.h,.string r.d] 45)):=(Below.refl _ _).alloc (Nat.le_refl _) _;have h0:=h.below hb0;have PT:=aj (FV r hm h0 hc hk);have HR:=aj (RB.new w r.k r.q r.t r.s r.h r.d 45);have Hb0:=aj hb0;have H0:=aj h0;have hr:gK s.l:=hk.rise;have fA:=hk.few;have HMs:Hid (∀x∈s.l,aB false x.s=0/\x.s.size<=135):=aj (λx hx=>⟨lT (hk.msg x hx).2 (hk.msg x hx).1,(hk.small hx).1⟩);have hl:=hk.last;have HC:=aj hc;have Hr:=aj hr;clear hk;by_cases ht:dG s r=0
 ·have hg:=Dh ht;have hq:=Cc hg;have HT:=aj ht;have A1:=UM ht;have A2:=λh1=>UN ht h1 hr (J5 ht h1)
  have A3:=λh1=>UO ht h1 hr
  have A4:=QV ht;have S2:=J5 ht;have Rm:=lT hg;have Rp:=Nj hg;have Ro:=QW hc ht;have K4:r.k=1\/r.k=2\/r.k=3\/r.k=4:=by
   obtain⟨z1,z2,_⟩:=Pk.oI (r:=r.pk) hg;have z1:1<=r.k:=z1;have z2:r.k<=4:=z2;omega
  clear h hb0 h0 hc hr ht hg;rcases r with ⟨k,n,t,s',h',d'⟩;dsimp only at HR Hb0 H0 PT HT hq K4 ⊢;have hz:s'.size<=140737488355328:=hm.s;rcases K4 with rfl|rfl|rfl|rfl
  ·have AA:=aj (A1 rfl);have G0:iJ es s'=(eY s.l s':Int):=(ah HC).get (Rm rfl);have G1:=Df s.l s';have hn1:iJ es s'<=200:=by omega
   have hn0:0<=iJ es s':=by omega
   have CC:Hid (Cnt (s.l++[⟨1,n,t,s',h',d'⟩]) (lK es s' (iJ es s'+1))):=aj (by rw[G0];exact(ah HC).put ⟨1,n,t,s',h',d'⟩ (Rm rfl) hz (Ro rfl));clear A1 A2 A3 A4 S2 Rm Rp Ro G0 G1;go_enter func29,ntmps29;go_wp2_with fail;refine(ah PT).mono ?_;rintro e w1 ⟨rfl,b1⟩;rw[ah HT];obtain⟨_,x0,x1,x2,x3,x4,x5,_⟩:=(ah HR).next b1;have B1:=aj (aA (ah Hb0) b1);have H1:=aj ((ah H0).below b1);have hB1:B<=w1.heap.size:=Nat.le_trans hB (ah B1).size;clear b1;have P:=aj (QO ⟨1,n,t,s',h',d'⟩ hm (ah H1) (ah HC).good fA hB1 hn1 hn0);go_wp2_with fail;refine(ah P).mono ?_
   rintro e w2 ⟨rfl,m2⟩;have M2:=aj m2;clear P m2 x0 x1 x2 x3 x4 x5;go_wp2_with fail;go_ret;refine⟨fQ (ah HT),?_⟩;rw[ah AA];exact Done.behind (ah B1) ⟨_,ah M2,ah CC⟩
  ·have AA:=aj (A2 rfl);have hs0:seqB s.l n=true:=S2 rfl;obtain⟨p1,p2⟩:=rZ (ah Hr) hs0;have hs:=aj hs0;obtain⟨m1,m2⟩:=ah HMs _ (nX p1);have G0:iJ es (rc s.l (pq s.l n)).s=(eY s.l (rc s.l (pq s.l n)).s:Int):=(ah HC).get m1;have G1:=Df s.l (rc s.l (pq s.l n)).s;have hn1:Hid (iJ es (rc s.l (pq s.l n)).s<=200):=aj (by omega);have CC:Hid (Cnt (yQ s.l (pq s.l n)) (GY es (iJ es (rc s.l (pq s.l n)).s) (rc s.l (pq s.l n)).s)):=aj (by
    have c:=ah HC;rw[EL p1] at c;exact Cnt.off c m1 (by omega))
   have hm2:Hid ((rc s.l (pq s.l n)).s.size<=140737488355328):=aj (by omega);clear A1 A2 A3 A4 S2 Rm Rp Ro G0 G1 p1 p2 m1 m2 hs0;go_enter func29,ntmps29;go_wp2_with fail;refine(ah PT).mono ?_;rintro e w1 ⟨rfl,b1⟩;rw[ah HT];obtain⟨_,x0,x1,x2,x3,x4,x5,_⟩:=(ah HR).next b1;have B1:=aj (aA (ah Hb0) b1);have H1:=aj ((ah H0).below b1);have hB1:B<=w1.heap.size:=Nat.le_trans hB (ah B1).size;clear b1;have P:=aj (QS n (ah H1) (ah Hr) (ah hs) (ah HC).good fA hB1 (ah hm2) (ah hn1));go_wp2_with fail;refine(ah P).mono ?_;rintro e w2 ⟨rfl,m2⟩
   have M2:=aj m2;clear P m2 x0 x1 x2 x3 x4 x5;go_wp2_with fail;go_ret;refine⟨fQ (ah HT),?_⟩;rw[ah AA];exact Done.behind (ah B1) ⟨_,ah M2,ah CC⟩
  ·have AA:=aj (A3 rfl);have hf:=aj (Rp rfl);clear A1 A2 A3 A4 S2 Rm Rp Ro;go_enter func29,ntmps29;go_wp2_with fail;refine(ah PT).mono ?_;rintro e w1 ⟨rfl,b1⟩;rw[ah HT];obtain⟨_,x0,x1,x2,x3,x4,x5,_⟩:=(ah HR).next b1;have B1:=aj (aA (ah Hb0) b1);have H1:=aj ((ah H0).below b1);have hB1:B<=w1.heap.size:=Nat.le_trans hB (ah B1).size;clear b1;have P:=aj (QU s' n (ah hf) hz (ah H1) (ah Hr) (ah HC) fA (ah HMs) hB1);go_wp2_with fail;refine(ah P).mono ?_;rintro e w2 ⟨rfl,m2⟩;have M2:=aj m2;clear P m2 x0 x1 x2 x3 x4 x5;go_wp2_with fail
   go_ret;refine⟨fQ (ah HT),?_⟩;rw[ah AA];exact Done.behind (ah B1) (ah M2)
  ·have AA:=aj (A4 rfl);clear A1 A2 A3 A4 S2 Rm Rp Ro;go_enter func29,ntmps29;go_wp2_with fail;refine(ah PT).mono ?_;rintro e w1 ⟨rfl,b1⟩;rw[ah HT];obtain⟨_,x0,x1,x2,x3,x4,x5,_⟩:=(ah HR).next b1;have B1:=aj (aA (ah Hb0) b1);have H1:=aj ((ah H0).below b1);have hB1:B<=w1.heap.size:=Nat.le_trans hB (ah B1).size;clear b1;have k2:=(ah H1).c2;have kf:=(ah H1).free 2;have kl:=(ah H1).lt;have M2:=aj (Moves.number (ah H1) (max s.last n));go_wp2_with fail;go_region
   all_goals go_wp2_with fail
   all_goals go_ret
   all_goals refine⟨fQ (ah HT),?_⟩
   all_goals rw[ah AA]
   all_goals exact Done.behind (ah B1) ⟨es,(ah M2).drew,ah HC⟩
 ·have R:=aj (UL ht);obtain⟨E,hE⟩:∃E,E=dG s r:=⟨_,rfl⟩;rw[<-hE] at ht PT ⊢;clear hE h hb0 h0 hc hr;go_enter func29,ntmps29;go_wp2_with fail;refine(ah PT).mono ?_;rintro e w1 ⟨rfl,b1⟩;go_wp2_with fail;go_ret;refine⟨rfl,?_⟩;rw[ah R];exact Done.behind (ah Hb0) ⟨es,Moves.same (ah H0) b1,ah HC⟩
theorem QX (w:World) :
 Calls prog 20 #[] w λe w'=>e=.returned (.pointer (some ⟨w.heap.size,0,none⟩))/\kD w' w.heap.size w.heap.size (.slice none 0 0) (.slice none 0 0) [] [] 0/\Below w.heap.size w w':=by
 go_enter func20,ntmps20;go_wp2_with fail;go_ret;refine⟨rfl,⟨by simp,by simp,by simp,λj=>by simp,Nat.le_refl _,by simp,dA.empty _ _,ku.empty _ _,by simp[Value.ownBlock],by simp[Value.ownBlock],λg hg=>by simp[Value.ownBlock] at hg⟩,(Below.refl _ _).alloc (Nat.le_refl _) _⟩
theorem QY {w wr:World}{sv:Value}{l:List Rc}{k:Nat}(h:dA wr w.heap.size sv (l.take k))(hb:Below w.heap.size w wr)(hk:k<l.length)(fA:l.length<=200)(w5:World)(b5:Below wr.heap.size wr w5) :
 ∃a' n' c' w',(Builtin.append_ #[25,25] 25 #[sv,.slice (some ⟨w5.heap.size,0,none⟩) 1 1]).run prog (w5.alloc (.cells #[.int .i64 (rc l k).k,.int .i64 (rc l k).q,.int .i64 (rc l k).t,.string (rc l k).s,.string (rc l k).h,.string (rc l k).d] 45))=.ok (.slice a' n' c') w'/\Hid (dA w' w.heap.size (.slice a' n' c') (l.take (k+1))/\Below w.heap.size w w'):=by
 have b4:Below w5.heap.size w5 (w5.alloc (.cells #[.int .i64 (rc l k).k,.int .i64 (rc l k).q,.int .i64 (rc l k).t,.string (rc l k).s,.string (rc l k).h,.string (rc l k).d] 45)):=(Below.refl _ _).alloc (Nat.le_refl _) _;have h4:=(h.below b5).below b4;have hb4:=aA (aA hb b5) b4;obtain⟨v8,w8,hr,A8,C8,_⟩:=qj _ w.heap.size 25 sv _ [rc l k] h4 ⟨w5.heap.size,0,none⟩ 1 (Bj w5 (rc l k)) (by rw[List.length_take];simp;omega) hb4.size;obtain⟨a',c',rfl,_⟩:=A8.shape;refine⟨a',_,c',w8,hr,aj ⟨?_,hb4.trans (C8.below hb4.size (λg hg z=>by have:=(h4.lt g z).1;omega))⟩⟩;rw[List.take_succ_eq_append_getElem hk,<-dU hk]
 exact A8
theorem QZ {w:World}{B q:Nat}{v u:Value}{l:List Rc}{es:List aJ}{last:Int}(h:kD w B q v u l es last)(fA:l.length<=200)(hm:∀x∈l,Small x) :
 Calls prog 11 #[.pointer (some ⟨q,0,none⟩)] w λe w'=>∃v',e=.returned v'/\dA w' w.heap.size v' l/\Below w.heap.size w w':=by
 obtain⟨a,cap,rfl,c1,c2,hsl⟩:=h.msgs.shape;have d0:=h.c0;have Q5:=aj hsl;have HM:=aj hm;clear hsl hm h;go_enter func11,ntmps11;go_wp2_with fail;go_loopw [3,11] (λsv kv wr=>∃(k:Nat),kv=.int .i64 k/\k<=l.length/\Hid (dA wr w.heap.size sv (l.take k)/\Below w.heap.size w wr)) (λ_ kv _=>l.length-(intOf kv).toNat)
 case atStart=>exact⟨0,rfl,Nat.zero_le _,aj ⟨dA.empty _ _,Below.refl _ _⟩⟩
 case round =>
  clear d0;obtain⟨k,rfl,hk,HP⟩:=hrel;obtain⟨sa,sc,rfl,_⟩:=(ah HP).1.shape;by_cases hlt:k<l.length
  ·obtain⟨b,o,rfl,s6⟩:=ah Q5 k hlt;have s7:=s6.below (ah HP).2 s6.lt;have K2:=aj (QY (ah HP).1 (ah HP).2 hlt fA);have T:=aj (λX=>oU (rc l k) (ah HM _ (nX hlt)) X);obtain⟨sn,hsn⟩:∃sn,sn=(l.take k).length:=⟨_,rfl⟩;rw[<-hsn] at K2 ⊢;clear hsn;generalize rc l k=y at *;obtain⟨_,x0,x1,x2,x3,x4,x5⟩:=s7;have hb0:Below wr.heap.size wr (wr.alloc (.cells #[.int .i64 y.k,.int .i64 y.q,.int .i64 y.t,.string y.s,.string y.h,.string y.d] 45)):=(Below.refl _ _).alloc (Nat.le_refl _) _;have Hb0:=aj hb0;clear hb0 s6;go_wp2_with fail;refine(ah T _).mono ?_;rintro e w5 ⟨rfl,b5⟩
   obtain⟨a',n',c',w6,hrun,P6⟩:=ah K2 w5 (aA (ah Hb0) b5);clear x0 x1 x2 x3 x4 x5 b5 T Hb0 K2;go_wp2_with (at_builtin;refine Lib.wpList_append_run _ rfl _ _ _ _ rfl _ _ rfl rfl _ _ hrun ?_);refine⟨⟨k+1,by go_num,by omega,P6⟩,?_⟩;simp[intOf];omega
  ·obtain rfl:k=l.length:=by omega
   rw[List.take_length] at HP ⊢;go_wp2_with fail;go_ret;exact⟨_,rfl,(ah HP).1,(ah HP).2⟩
theorem Iy {l:List Rc}{k:Nat}(h:k<l.length):bU (l.take (k+1))=bU (l.take k)+((rc l k).s.size+(rc l k).h.size+(rc l k).d.size):=by
 rw[List.take_succ_eq_append_getElem h,<-dU h,jG];rfl
theorem Nq {l:List Rc}(h:0<l.length):mG l=(rc l 0).q:=by
 cases l with
 | nil=>cases h
 | cons x l=>rfl
theorem FW (l:List Rc)(k:Nat):bU (l.take k)<=bU l:=by
 have:=jG (l.take k) (l.drop k);rw[List.take_append_drop] at this;omega
theorem Q7 {w:World}{B q:Nat}{v u:Value}{l:List Rc}{es:List aJ}{last:Int}(h:kD w B q v u l es last)(fA:l.length<=200)(hm:∀x∈l,x.s.size<=135/\x.h.size+x.d.size<=256) :
 Calls prog 59 #[.pointer (some ⟨q,0,none⟩)] w λe w'=>e=.returned (.agg #[.int .i64 (l.length:Int),.int .i64 (bU l:Int),.int .i64 (mG l),.int .i64 last])/\Below w.heap.size w w':=by
 obtain⟨a,cap,rfl,c1,c2,hsl⟩:=h.msgs.shape;have QD:=h.lt;have S0:=aj (SB.new w 0 0 0 0 120);have B0:=aj ((Below.refl w.heap.size w).alloc (Nat.le_refl _) (.cells #[.int .i64 0,.int .i64 0,.int .i64 0,.int .i64 0] 120));have HC:=aj (And.intro h.c0 h.c2);have d0:(w.alloc (.cells #[.int .i64 0,.int .i64 0,.int .i64 0,.int .i64 0] 120)).cell? ⟨q,0,none⟩=some (.slice a l.length cap):=by rw[(ah B0).cell (p:=⟨q,0,none⟩) QD];exact h.c0
 have d1:(w.alloc (.cells #[.int .i64 0,.int .i64 0,.int .i64 0,.int .i64 0] 120)).cell? ⟨q,2,none⟩=some (.int .i64 last):=by rw[(ah B0).cell (p:=⟨q,2,none⟩) QD];exact h.c2
 have Q5:=aj hsl;have HM:=aj hm;clear h hsl hm;go_enter func59,ntmps59;go_wp2_with fail;go_region
 have L0:Hid (SB ((w.alloc (.cells #[.int .i64 0,.int .i64 0,.int .i64 0,.int .i64 0] 120)).alloc (.cells #[.int .i64 (l.length:Int),.int .i64 0,.int .i64 0,.int .i64 last] 120)).drew w.heap.size 0 0 0 0/\SB ((w.alloc (.cells #[.int .i64 0,.int .i64 0,.int .i64 0,.int .i64 0] 120)).alloc (.cells #[.int .i64 (l.length:Int),.int .i64 0,.int .i64 0,.int .i64 last] 120)).drew (w.heap.size+1) (l.length:Int) 0 0 last/\Below w.heap.size w ((w.alloc (.cells #[.int .i64 0,.int .i64 0,.int .i64 0,.int .i64 0] 120)).alloc (.cells #[.int .i64 (l.length:Int),.int .i64 0,.int .i64 0,.int .i64 last] 120)).drew):=aj (by
  have x1:=SB.new (w.alloc (.cells #[.int .i64 0,.int .i64 0,.int .i64 0,.int .i64 0] 120)) (l.length:Int) 0 0 last 120;rw[World.size_alloc] at x1;exact⟨((ah S0).alloc _).next (Below.refl _ _).drew,x1.next (Below.refl _ _).drew,(aA (ah B0) ((Below.refl _ _).alloc (Nat.le_refl _) _)).drew⟩)
 have e0:((w.alloc (.cells #[.int .i64 0,.int .i64 0,.int .i64 0,.int .i64 0] 120)).alloc (.cells #[.int .i64 (l.length:Int),.int .i64 0,.int .i64 0,.int .i64 last] 120)).drew.cell? ⟨q,0,none⟩=some (.slice a l.length cap):=by rw[(ah L0).2.2.cell (p:=⟨q,0,none⟩) QD];exact(ah HC).1
 clear S0 B0 d0 d1;generalize ((w.alloc (.cells #[.int .i64 0,.int .i64 0,.int .i64 0,.int .i64 0] 120)).alloc (.cells #[.int .i64 (l.length:Int),.int .i64 0,.int .i64 0,.int .i64 last] 120)).drew=W0 at *;have hby:bU l<=78200:=by
  have:=EK (λr hr=>ah HM r hr);omega
 go_wp2_with fail;go_loopw [21] (λkv wr=>∃(k:Nat),kv=.int .i64 k/\k<=l.length/\Hid (SB wr w.heap.size 0 0 0 0/\SB wr (w.heap.size+1) (l.length:Int) (bU (l.take k):Int) 0 last/\Below w.heap.size w wr)) (λkv _=>l.length-(intOf kv).toNat)
 case atStart=>exact⟨0,rfl,Nat.zero_le _,L0⟩
 case round =>
  clear L0 e0;obtain⟨k,rfl,hk,HP⟩:=hrel;have hob:=(ah HP).2.1.lt;by_cases hlt:k<l.length
  ·obtain⟨b,o,rfl,s6⟩:=ah Q5 k hlt;have s7:=s6.below (ah HP).2.2 s6.lt;have hb1:=Iy hlt;have hb2:=FW l (k+1);generalize rc l k=y at *;obtain⟨_,x0,x1,x2,x3,x4,x5⟩:=s7;obtain⟨nb,hnb⟩:∃nb,nb=bU (l.take k):=⟨_,rfl⟩;obtain⟨q0,q1,q2,q3,qf⟩:=And.intro (ah HP).2.1.c0 (And.intro (ah HP).2.1.c1 (And.intro (ah HP).2.1.c2 (And.intro (ah HP).2.1.c3 ((ah HP).2.1.fr 1))));rw[<-hnb] at hb1 q1;have hne:¬w.heap.size+1=wr.heap.size:=by omega
   have hw1:IntKind.i64.wrap ((y.s.size:Int)+(y.h.size:Int))=(y.s.size:Int)+(y.h.size:Int):=by rw[IntKind.wrap_i64];omega
   have hw2:IntKind.i64.wrap ((y.s.size:Int)+(y.h.size:Int)+(y.d.size:Int))=(y.s.size:Int)+(y.h.size:Int)+(y.d.size:Int):=by rw[IntKind.wrap_i64];omega
   have hw3:IntKind.i64.wrap ((nb:Int)+((y.s.size:Int)+(y.h.size:Int)+(y.d.size:Int)))=(nb:Int)+((y.s.size:Int)+(y.h.size:Int)+(y.d.size:Int)):=by rw[IntKind.wrap_i64];omega
   have HY:Hid (SB ((wr.setCell ⟨w.heap.size+1,1,none⟩ (.int .i64 ((nb:Int)+((y.s.size:Int)+(y.h.size:Int)+(y.d.size:Int))))).alloc (.cells #[.int .i64 y.k,.int .i64 y.q,.int .i64 y.t,.string y.s,.string y.h,.string y.d] 45)) w.heap.size 0 0 0 0/\SB ((wr.setCell ⟨w.heap.size+1,1,none⟩ (.int .i64 ((nb:Int)+((y.s.size:Int)+(y.h.size:Int)+(y.d.size:Int))))).alloc (.cells #[.int .i64 y.k,.int .i64 y.q,.int .i64 y.t,.string y.s,.string y.h,.string y.d] 45)) (w.heap.size+1) (l.length:Int) (bU (l.take (k+1)):Int) 0 last/\Below w.heap.size w ((wr.setCell ⟨w.heap.size+1,1,none⟩ (.int .i64 ((nb:Int)+((y.s.size:Int)+(y.h.size:Int)+(y.d.size:Int))))).alloc (.cells #[.int .i64 y.k,.int .i64 y.q,.int .i64 y.t,.string y.s,.string y.h,.string y.d] 45))):=aj (by
    have hbs:=(ah HP).2.2.setCell (p:=⟨w.heap.size+1,1,none⟩) (Nat.le_succ _) (.int .i64 ((nb:Int)+((y.s.size:Int)+(y.h.size:Int)+(y.d.size:Int))));refine⟨((ah HP).1.other (by omega)).alloc _,?_,hbs.alloc hbs.size _⟩;have:=((ah HP).2.1.set1 ((nb:Int)+((y.s.size:Int)+(y.h.size:Int)+(y.d.size:Int)))).alloc (.cells #[.int .i64 y.k,.int .i64 y.q,.int .i64 y.t,.string y.s,.string y.h,.string y.d] 45);rw[hb1,show((nb+(y.s.size+y.h.size+y.d.size):Nat):Int)=(nb:Int)+((y.s.size:Int)+(y.h.size:Int)+(y.d.size:Int)) by omega];exact this)
   clear hb1 hb2 hnb s6 q0 q2 q3;go_wp2_with fail;refine⟨⟨k+1,by go_num,by omega,HY⟩,?_⟩;simp[intOf];omega
  ·obtain rfl:k=l.length:=by omega
   rw[List.take_length] at HP;have d0:=((ah HP).2.2.cell (p:=⟨q,0,none⟩) QD).trans (ah HC).1;obtain⟨_,q0,q1,q2,q3,qf⟩:=(ah HP).2.1;obtain⟨_,x0,x1,x2,x3,fz⟩:=(ah HP).1;have f0:=fz 0;have f1:=fz 1;have f2:=fz 2;have f3:=fz 3;clear fz hlt hk;obtain⟨N,hN⟩:∃N,N=l.length:=⟨_,rfl⟩;by_cases h0:0<l.length
   ·obtain⟨b,o,rfl,s6⟩:=ah Q5 0 h0;have s7:=s6.below (ah HP).2.2 s6.lt;have z1:wr.cell? ⟨b,o+1,none⟩=some (.int .i64 (mG l)):=by rw[Nq h0];simpa using s7.c1
    have g2:=qf 2;clear qf s6 s7;go_wp2_with fail;refine bodyPost_ret (uF rfl rfl ((((((ah HP).1.other (c:=w.heap.size+1) (i:=2) (v:=.int .i64 (mG l)) (by omega)).set0 _).set1 _).set2 _).KC _)) rfl ?_;exact⟨rfl,(((((ah HP).2.2.setCell (p:=⟨w.heap.size+1,2,none⟩) (Nat.le_succ _) _).setCell (p:=⟨w.heap.size,0,none⟩) (Nat.le_refl _) _).setCell (p:=⟨w.heap.size,1,none⟩) (Nat.le_refl _) _).setCell (p:=⟨w.heap.size,2,none⟩) (Nat.le_refl _) _).setCell (p:=⟨w.heap.size,3,none⟩) (Nat.le_refl _) _⟩
   ·have e0:l=[]:=List.length_eq_zero_iff.1 (by omega);subst e0;clear qf;go_wp2_with fail;refine bodyPost_ret (uF rfl rfl (((((ah HP).1.set0 _).set1 _).set2 _).KC _)) rfl ?_;exact⟨rfl,((((ah HP).2.2.setCell (p:=⟨w.heap.size,0,none⟩) (Nat.le_refl _) _).setCell (p:=⟨w.heap.size,1,none⟩) (Nat.le_refl _) _).setCell (p:=⟨w.heap.size,2,none⟩) (Nat.le_refl _) _).setCell (p:=⟨w.heap.size,3,none⟩) (Nat.le_refl _) _⟩
theorem Q8 {w:World}{B q:Nat}{v u:Value}{l:List Rc}{es:List aJ}{last:Int}(n:Int)(h:kD w B q v u l es last)(hr:gK l)(fA:l.length<=200)(hm:∀x∈l,Small x) :
 Calls prog 61 #[.pointer (some ⟨q,0,none⟩),.int .i64 n] w λe w'=>e=.returned (TG (rY l n))/\Below w.heap.size w w':=by
 have hb0:Below w.heap.size w (w.alloc (.cells #[.int .i64 0,.int .i64 0,.int .i64 0,.string ⟨#[]⟩,.string ⟨#[]⟩,.string ⟨#[]⟩] 45)):=(Below.refl _ _).alloc (Nat.le_refl _) _;have h0:=h.below hb0;have PP:=aj (jX n h0 hr fA);have Z0:=aj (RF.new w dH);have Hb0:=aj hb0
 cases hs:seqB l n with
 | false =>
  have R:=aj (get_none hs);rw[hs] at PP;clear hs h h0 hb0;go_enter func61,ntmps61;go_wp2_with fail;refine(ah PP).mono ?_;rintro e w1 ⟨rfl,b1⟩;have Z1:=aj ((ah Z0).next b1);obtain⟨_,y0,y1,y2,y3,y4,y5,g⟩:=(ah Z1).rb;have g0:=g 0;have g1:=g 1;have g2:=g 2;have g3:=g 3;have g4:=g 4;have g5:=g 5;have B1:=aj (aA (ah Hb0) b1);clear g b1 PP Z0 Hb0;go_wp2_with fail;refine bodyPost_ret (iI rfl rfl ((ah Z1).rb.jo 0 0 0 ⟨#[]⟩ ⟨#[]⟩ ⟨#[]⟩)) rfl ?_;exact⟨by rw[ah R];rfl,jQ (ah B1) (Nat.le_refl _)⟩
 | true =>
  have R:=aj (get_hit hr hs);obtain⟨p1,p2⟩:=rZ hr hs;rw[hs] at PP;obtain⟨p,hp⟩:∃p,p=pq l n:=⟨_,rfl⟩;rw[<-hp] at p1 PP R;have T:=aj (λX=>oU (rc l p) (hm _ (nX p1)) X);obtain⟨g,cap,rfl,c1,c2,c3,c4⟩:=h.msgs.there (by omega);unfold maxLen at c2;have H0:=aj h0;clear hs h h0 hb0 hp p2 hm hr;go_enter func61,ntmps61;go_wp2_with fail;refine(ah PP).mono ?_;rintro e w1 ⟨rfl,b1⟩;have h1:=(ah H0).below b1;have d0:=h1.c0;have hq1:=h1.lt;obtain⟨hg1,x0,x1,x2,x3,x4,x5⟩:=h1.msgs.six p1;have Z1:=aj ((ah Z0).next b1);have B1:=aj (aA (ah Hb0) b1);clear b1 PP Z0 Hb0 h1 H0
  generalize rc l p=y at *;go_wp2_with fail;refine(ah T _).mono ?_;rintro e w2 ⟨rfl,b2⟩;have Z2:=aj ((ah Z1).next b2);obtain⟨_,y0,y1,y2,y3,y4,y5,gz⟩:=(ah Z2).rb;have g0:=gz 0;have g1:=gz 1;have g2:=gz 2;have g3:=gz 3;have g4:=gz 4;have g5:=gz 5;have B2:=aj (aA (ah B1) b2);clear gz b2 T Z1 B1 x0 x1 x2 x3 x4 x5 d0;go_wp2_with fail;refine bodyPost_ret (iI rfl rfl ((ah Z2).rb.jo y.k y.q y.t y.s y.h y.d)) rfl ?_;exact⟨by rw[ah R];rfl,jQ (ah B2) (Nat.le_refl _)⟩
