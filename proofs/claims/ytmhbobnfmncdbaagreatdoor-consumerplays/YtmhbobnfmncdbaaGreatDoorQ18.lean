/- A part. -/
import Derived.Test.YtmhbobnfmncdbaaGreatDoorQ14
set_option maxRecDepth 100000
set_option maxHeartbeats 8000000
namespace Go.Proofs.YtmhbobnfmncdbaaGreatDoor
open Go.RowKit Go.Proofs.Tryz
namespace Dk
structure Hm (w:World)(B b:Nat)(c:aV)(a:Option Addr)(ca:Nat)(v:Value):Prop where
 tb:TB w b c.t a ca
 pl:w.cell? ⟨b,10,none⟩=some (.int .i64 c.pl)
 cn:w.cell? ⟨b,11,none⟩=some (.int .i64 c.cn)
 pe:w.cell? ⟨b,12,none⟩=some v
 row:aT 115 w B v (c.pe.map jG)
 bo:jQ w a c.t.bo
 fr:∀i,w.frozen? ⟨b,i,none⟩=false
 bB:B<=b
 ne1:v.ownBlock≠some b
 FQ:c.t.bo≠[]->∀z,a=some z->z.block≠b/\v.ownBlock≠some z.block
 al:c.t.bo≠[]->∀z,a=some z->z.block<w.heap.size
theorem Hm.next {w w':World}{B b:Nat}{c:aV}{a:Option Addr}{ca:Nat}{v:Value}(h:Hm w B b c a ca v)(hb:Below w.heap.size w w'):Hm w' B b c a ca v :=
 ⟨h.tb.next hb,by rw[hb.cell (p:=⟨b,10,none⟩) h.tb.lt];exact h.pl,by rw[hb.cell (p:=⟨b,11,none⟩) h.tb.lt];exact h.cn,by rw[hb.cell (p:=⟨b,12,none⟩) h.tb.lt];exact h.pe,h.row.below hb,bG h.bo hb,λi=>by rw[hb.frozen (p:=⟨b,i,none⟩) h.tb.lt];exact h.fr i,h.bB,h.ne1,h.FQ,λn z hz=>Nat.lt_of_lt_of_le (h.al n z hz) hb.size⟩
theorem Hm.bn {A:Nat->Prop}{w w':World}{B b:Nat}{c:aV}{a:Option Addr}{ca:Nat}{v:Value}(h:Hm w B b c a ca v)(hb:aB A w w')(h1:¬A b)(h2:∀g,v.ownBlock=some g->¬A g)(h3:c.t.bo≠[]->∀z,a=some z->¬A z.block):Hm w' B b c a ca v :=
 ⟨h.tb.same hb.size (λj=>hb.cell (p:=⟨b,j,none⟩) h.tb.lt h1),by rw[hb.cell (p:=⟨b,10,none⟩) h.tb.lt h1];exact h.pl,by rw[hb.cell (p:=⟨b,11,none⟩) h.tb.lt h1];exact h.cn,by rw[hb.cell (p:=⟨b,12,none⟩) h.tb.lt h1];exact h.pe,h.row.bn hb h2,(λk hk=>by
  obtain⟨b',o,e1,e2,e3⟩:=h.bo k hk;exact⟨b',o,e1,Nat.lt_of_lt_of_le e2 hb.size,by rw[hb.cell (p:=⟨b',o+k,none⟩) e2 (h3 (λq=>by rw[q] at hk;cases hk) ⟨b',o,none⟩ e1)];exact e3⟩),λi=>by rw[hb.frozen (p:=⟨b,i,none⟩) h.tb.lt h1];exact h.fr i,h.bB,h.ne1,h.FQ,λn z hz=>Nat.lt_of_lt_of_le (h.al n z hz) hb.size⟩
theorem Hm.put {w w1:World}{B b:Nat}{c:aV}{a:Option Addr}{ca:Nat}{v:Value}(h:Hm w B b c a ca v)(h1:aB (λk=>v.ownBlock=some k) w w1){j:Nat}{u v':Value}{pl cn:Int}{pe:List Dv}(hj:j=10/\u=.int .i64 pl/\cn=c.cn/\v'=v\/j=11/\u=.int .i64 cn/\pl=c.pl/\v'=v\/j=12/\u=v'/\pl=c.pl/\cn=c.cn)(hr:aT 115 w1 B v' (pe.map jG))(hv:∀g,v'.ownBlock=some g->v.ownBlock=some g\/w.heap.size<=g) :
 Hm (w1.setCell ⟨b,j,none⟩ u) B b ⟨c.t,pl,pe,cn⟩ a ca v':=by
 have hnb:¬(v.ownBlock=some b):=h.ne1;have hc:aB (λk=>k=b) w1 (w1.setCell ⟨b,j,none⟩ u):=(aB.refl (λk=>k=b) w1).setCell (p:=⟨b,j,none⟩) (.inl rfl) _;have hlt:=h.tb.lt;have ho:∀i,i≠j->(w1.setCell ⟨b,j,none⟩ u).cell? ⟨b,i,none⟩=w.cell? ⟨b,i,none⟩:=λi hi=>by
  rw[World.cell?_setCell_other _ _ _ _ (by intro e;injection e;omega),h1.cell (p:=⟨b,i,none⟩) hlt hnb]
 have hs:∀x,w.cell? ⟨b,j,none⟩=some x->(w1.setCell ⟨b,j,none⟩ u).cell? ⟨b,j,none⟩=some u:=λx hx=>World.cell?_setCell_same _ _ _ (by rw[h1.cell (p:=⟨b,j,none⟩) hlt hnb];exact hx)
 have hj9:10<=j:=by omega
 have hne':v'.ownBlock≠some b:=λe=>by
  rcases hv b e with q|q
  ·exact hnb q
  ·omega
 refine⟨⟨by have:=h1.size;simp[World.setCell];omega,by rw[ho 0 (by omega)];exact h.tb.c0,by rw[ho 1 (by omega)];exact h.tb.c1,by rw[ho 2 (by omega)];exact h.tb.c2,by rw[ho 3 (by omega)];exact h.tb.c3,by rw[ho 4 (by omega)];exact h.tb.c4,by rw[ho 5 (by omega)];exact h.tb.c5,by rw[ho 6 (by omega)];exact h.tb.c6,by rw[ho 7 (by omega)];exact h.tb.c7,by rw[ho 8 (by omega)];exact h.tb.c8,by rw[ho 9 (by omega)];exact h.tb.c9⟩,?_,?_,?_,hr.bn hc (λg hg z=>hne' (by rw[hg];exact congrArg some z)),?_,λi=>by rw[World.frozen?_setCell,h1.frozen (p:=⟨b,i,none⟩) hlt hnb];exact h.fr i,h.bB,hne',λn z hz=>⟨(h.FQ n z hz).1,λq=>?_⟩,λn z hz=>by have:=h.al n z hz;have:=h1.size;simp[World.setCell];omega⟩
 ·rcases hj with ⟨rfl,rfl,_,_⟩|⟨rfl,_,rfl,_⟩|⟨rfl,_,rfl,_⟩
  ·exact hs _ h.pl
  ·rw[ho 10 (by omega)];exact h.pl
  ·rw[ho 10 (by omega)];exact h.pl
 ·rcases hj with ⟨rfl,_,rfl,_⟩|⟨rfl,rfl,_,_⟩|⟨rfl,_,_,rfl⟩
  ·rw[ho 11 (by omega)];exact h.cn
  ·exact hs _ h.cn
  ·rw[ho 11 (by omega)];exact h.cn
 ·rcases hj with ⟨rfl,_,_,rfl⟩|⟨rfl,_,_,rfl⟩|⟨rfl,rfl,_,_⟩
  ·rw[ho 12 (by omega)];exact h.pe
  ·rw[ho 12 (by omega)];exact h.pe
  ·exact hs _ h.pe
 ·intro k hk;obtain⟨b',o,e1,e2,e3⟩:=h.bo k hk;have hne:=h.FQ (λq=>by rw[q] at hk;cases hk) _ e1;have hne1:b'≠b:=hne.1;exact⟨b',o,e1,by have:=h1.size;simp[World.setCell];omega,by rw[World.cell?_setCell_other _ _ _ _ (by intro e;injection e;omega),h1.cell (p:=⟨b',o+k,none⟩) e2 hne.2];exact e3⟩
 ·rcases hv _ q with y|y
  ·exact(h.FQ n z hz).2 y
  ·have:=h.al n z hz;omega
def gJ (b:Nat)(v:Value)(k:Nat):Prop:=k=b\/v.ownBlock=some k
def aG (w w':World)(B b:Nat)(a:Option Addr)(ca:Nat)(v:Value)(c':aV):Prop:=∃v',Hm w' B b c' a ca v'/\aB (gJ b v) w w'/\∀g,v'.ownBlock=some g->v.ownBlock=some g\/w.heap.size<=g
theorem aG.same {w w':World}{B b:Nat}{c:aV}{a:Option Addr}{ca:Nat}{v:Value}(h:Hm w B b c a ca v)(hb:Below w.heap.size w w'):aG w w' B b a ca v c:=⟨v,h.next hb,aB.of_below hb,λ_ hg=>.inl hg⟩
theorem aG.trans {w w1 w':World}{B b:Nat}{a:Option Addr}{ca:Nat}{v v1:Value}{c':aV}(c1:aB (gJ b v) w w1)(h1:∀g,v1.ownBlock=some g->v.ownBlock=some g\/w.heap.size<=g)(h:aG w1 w' B b a ca v1 c'):aG w w' B b a ca v c':=by
 obtain⟨v',k,c,hg⟩:=h;have s:=c1.size;refine⟨v',k,⟨c.os.trans c1.os,c.tape.trans c1.tape,c.output.trans c1.output,Nat.le_trans c1.size c.size,λi hi hn=>?_⟩,λg e=>?_⟩
 ·rw[c.block i (by omega) (λq=>?_)]
  ·exact c1.block i hi hn
  ·rcases q with q|q
   ·exact hn (.inl q)
   ·rcases h1 i q with z|z
    ·exact hn (.inr z)
    ·omega
 ·rcases hg g e with z|z
  ·exact h1 g z
  ·exact .inr (by omega)
theorem aG.put {w w1:World}{B b:Nat}{c:aV}{a:Option Addr}{ca:Nat}{v:Value}(h:Hm w B b c a ca v)(h1:aB (λk=>v.ownBlock=some k) w w1){j:Nat}{u v':Value}{pl cn:Int}{pe:List Dv}(hj:j=10/\u=.int .i64 pl/\cn=c.cn/\v'=v\/j=11/\u=.int .i64 cn/\pl=c.pl/\v'=v\/j=12/\u=v'/\pl=c.pl/\cn=c.cn)(hr:aT 115 w1 B v' (pe.map jG))(hv:∀g,v'.ownBlock=some g->v.ownBlock=some g\/w.heap.size<=g) :
 aG w (w1.setCell ⟨b,j,none⟩ u) B b a ca v ⟨c.t,pl,pe,cn⟩ :=
 ⟨v',h.put h1 hj hr hv,(h1.mono (λ_ _ q=>.inr q)).setCell (.inl (.inl rfl)) _,hv⟩
theorem Hm.sl {w:World}{B b:Nat}{c:aV}{a:Option Addr}{ca:Nat}{v:Value}(h:Hm w B b c a ca v):∃s cap,v=.slice s c.pe.length cap/\c.pe.length<=cap/\cap<=maxLen/\Rj w s c.pe/\∀p,s=some p->v.ownBlock=some p.block:=by
 obtain⟨a,cap,h1,h2,h3,h4,h5⟩:=aT.shape h.row;rw[List.length_map] at h1 h2;refine⟨a,cap,h1,h2,h3,λk hk=>?_,h5⟩;obtain⟨b,o,e,t⟩:=h4 k (by simpa using hk);rw[DK hk] at t;exact⟨b,o,e,t.lt,t.c0,t.c1,t.c2⟩
abbrev Lc (p:Dv):Obj:=.cells #[.int .i64 p.q,.int .i64 p.n,.int .i64 p.d] 115
section
variable {g:Nat}{lb:Array Value}{p:Dv->Bool}
theorem I5 (eg:∀args w,(callFunc g args).run prog w=.ok (.enter g args) w)(a:Option Addr)(cap:Nat)(l:List Dv)(w:World)(hsl:Rj w a l)(hl:l.length<=1000000)
 (hp:∀W,Below w.heap.size w W->∀x∈l,Calls prog g (#[ZR x]++lb) W λe w'=>e=.returned (.bool (p x))/\Below W.heap.size W w') :
 Calls prog 108 #[.slice a l.length cap,.func (.func g) #[] lb] w λe w'=>e=.returned (.int .i64 (qx p l))/\Below w.heap.size w w':=by
 have Hp:=aj hp;have Hs:=aj hsl;obtain⟨N,hN⟩:∃N,l.length=N:=⟨_,rfl⟩;have HN:=aj hN;rw[hN] at hl;rw[hN];clear hp hsl hN;go_enter func108,ntmps108;go_wp2;go_loopw [8] (λiv wr=>∃(i:Nat),iv=.int .i64 i/\i<=N/\Hid (∀k (hk:k<l.length),k<i->p l[k]=false)/\Hid (Below w.heap.size w wr)) (λiv _=>N-(intOf iv).toNat)
 case atStart=>exact⟨0,rfl,Nat.zero_le _,aj (λk _ hk=>absurd hk (Nat.not_lt_zero k)),aj (Below.refl _ _)⟩
 case round =>
  obtain⟨i,rfl,hi,hlo,BW⟩:=hrel;by_cases hlt:i<N
  ·have hil:i<l.length:=by rw[ah HN];exact hlt
   obtain⟨b,o,rfl,t⟩:=(ah Hs).below (ah BW) i hil;obtain⟨_,c0,c1,c2⟩:=t;have H:=aj (ah Hp wr (ah BW) l[i] (List.getElem_mem _));obtain⟨x,hx⟩:∃x,l[i]=x:=⟨_,rfl⟩;have HX:=aj hx;rw[hx] at c0 c1 c2 H;clear hx
   cases he:p x with
   | true =>
    have HV:=aj (FX hil (by rw[ah HX];exact he) (ah hlo));rw[he] at H;clear he HX hil;go_wp2_with (go_at_fn g;refine(ah H).mono ?_;rintro e w' ⟨rfl,hb'⟩);go_ret;rw[ah HV];exact⟨rfl,ay (ah BW) hb'⟩
   | false =>
    have HL:Hid (∀k (hk:k<l.length),k<i+1->p l[k]=false):=aj (λk hk q=>by
     rcases Nat.lt_succ_iff_lt_or_eq.1 q with z|z
     ·exact ah hlo k hk z
     ·subst z;rw[ah HX];exact he)
    rw[he] at H;clear he HX hil;go_wp2_with (go_at_fn g;refine(ah H).mono ?_;rintro e w' ⟨rfl,hb'⟩);refine⟨⟨i+1,by go_num,by omega,HL,aj (ay (ah BW) hb')⟩,?_⟩;simp[intOf];omega
  ·obtain rfl:i=N:=by omega
   have HV:=aj (AO (p:=p) (l:=l) (λk hk=>ah hlo k hk (by rw[<-ah HN];exact hk)));go_wp2_with fail;go_ret;rw[ah HV];exact⟨rfl,ah BW⟩
end
theorem I7 (p:Dv)(q:Int)(b:Nat)(w:World)(hb:w.cell? ⟨b,0,none⟩=some (.int .i64 q))(hl:b<w.heap.size) :
 Calls prog 109 #[ZR p,.pointer (some ⟨b,0,none⟩)] w λe w'=>e=.returned (.bool (decide (p.q=q)))/\Below w.heap.size w w':=by
 have B0:=aj ((Below.refl w.heap.size w).alloc (Nat.le_refl _) (Lc p));have e:decide (p.q=q)=(p.q==q):=by by_cases h:p.q=q<;>simp[h]
 rw[e];go_enter func109,ntmps109;go_wp2_with fail;go_ret;exact⟨rfl,ah B0⟩
section
variable {w:World}{B b:Nat}{c:aV}{a:Option Addr}{ca:Nat}{v:Value}
theorem iH (h:Hm w B b c a ca v)(hl:c.pe.length<=1000000)(q:Int) :
 Calls prog 67 #[.pointer (some ⟨b,0,none⟩),.int .i64 q] w λe w'=>e=.returned (.int .i64 (qx (λp:Dv=>decide (p.q=q)) c.pe))/\Below w.heap.size w w':=by
 have b0:Below w.heap.size w (w.alloc (.cells #[.int .i64 q] 3)):=(Below.refl _ _).alloc (Nat.le_refl _) _;obtain⟨s,cap,rfl,_,_,hs,_⟩:=h.sl;have c12:=(b0.cell (p:=⟨b,12,none⟩) h.tb.lt).trans h.pe;have PI:=aj (I5 (g:=109) (lb:=#[.pointer (some ⟨w.heap.size,0,none⟩)]) (p:=λp:Dv=>decide (p.q=q)) (λ_ _=>by kernel_rfl) s cap c.pe _ (hs.below b0) hl (λW hb x _=>I7 x q w.heap.size W (by rw[hb.cell (p:=⟨w.heap.size,0,none⟩) (by simp)];simp) (Nat.lt_of_lt_of_le (by simp) hb.size)));have HB:=aj b0;have hbl:=h.tb.lt;obtain⟨N,hN⟩:∃N,c.pe.length=N:=⟨_,rfl⟩;rw[hN] at c12 PI;clear h hs b0 hN hl
 go_enter func67,ntmps67;go_wp2_with fail;refine(ah PI).mono ?_;rintro e w1 ⟨rfl,b1⟩;go_wp2_with fail;go_ret;exact⟨rfl,ay (ah HB) b1⟩
theorem DN {l:List Dv}{q:Int}:(decide (qx (λp:Dv=>decide (p.q=q)) l<0))=!jg l q:=by
 unfold jg;rcases uY (λp:Dv=>decide (p.q=q)) l with ⟨e,h⟩|⟨i,hi,e,hp,_⟩
 ·rw[e];have:(l.any λp=>decide (p.q=q))=false:=by
   rw[List.any_eq_false];intro x hx;obtain⟨k,hk,rfl⟩:=List.mem_iff_getElem.1 hx;rw[h k hk];simp
  rw[this];rfl
 ·rw[e];have:(l.any λp=>decide (p.q=q))=true:=List.any_eq_true.2 ⟨l[i],List.getElem_mem _,hp⟩;rw[this,decide_eq_false (by omega)];rfl
theorem N7 (h:Hm w B b c a ca v)(hl:c.pe.length<=1000000)(q:Int) :
 Calls prog 18 #[.pointer (some ⟨b,0,none⟩),.int .i64 q] w λe w'=>e=.returned (.bool (Au c q))/\Below w.heap.size w w':=by
 have P:=aj (iH h hl q);have c10:=h.pl;have hbl:=h.tb.lt;have HV:=aj (DN (l:=c.pe) (q:=q));unfold Au;clear h
 cases g:decide (q<c.pl) with
 | false =>
  rw[Bool.false_and];go_enter func18,ntmps18;go_wp2_with fail;go_ret;exact⟨rfl,Below.refl _ _⟩
 | true =>
  rw[Bool.true_and,<-ah HV];obtain⟨X,hX⟩:∃X,qx (λp:Dv=>decide (p.q=q)) c.pe=X:=⟨_,rfl⟩;rw[hX] at P;rw[hX];clear HV hX;go_enter func18,ntmps18;go_wp2_with fail;refine(ah P).mono ?_;rintro e w1 ⟨rfl,b1⟩;go_wp2_with fail;go_ret;exact⟨rfl,b1⟩
end
def pG (l:List Dv)(k:Nat):Int:=if k=0 then -1 else ng l k
theorem RD {l:List Dv}:pG l l.length=zB l:=by
 unfold pG
 cases l with
 | nil=>rfl
 | cons p r=>rw[if_neg (by simp),FU (by simp)]
theorem Ld {l:List Dv}(hd:∀p∈l,0<=p.d/\p.d<=1099511727776){k:Nat}(hk:k<=l.length):-1<=pG l k/\pG l k<=1099511727776/\(k≠0->0<=pG l k):=by
 unfold pG;split
 ·exact⟨by omega,by omega,λh=>absurd ‹k=0› h⟩
 ·have:=KZ hd (by omega) hk;omega
theorem N9 {l:List Dv}(hd:∀p∈l,0<=p.d/\p.d<=1099511727776){k:Nat}(hk:k<l.length):pG l (k+1)=if pG l k=-1\/l[k].d<pG l k then l[k].d else pG l k:=by
 have h1:=Ld hd (Nat.le_of_lt hk);have h2:pG l (k+1)=min (ng l k) l[k].d:=by
  unfold pG;rw[if_neg (by omega),uX hk,jX hk]
 rw[h2];by_cases h0:k=0
 ·subst h0;have e:pG l 0=-1:=rfl;rw[if_pos (.inl e)];have:ng l 0=l[0].d:=by unfold ng;rw[jX hk];rfl
  rw[this];exact Int.min_self _
 ·have e:pG l k=ng l k:=if_neg h0;rw[e] at h1 ⊢;by_cases q:l[k].d<ng l k
  ·rw[if_pos (.inr q)];omega
  ·rw[if_neg (by omega)];omega
section
variable {w:World}{B b:Nat}{c:aV}{a:Option Addr}{ca:Nat}{v:Value}
theorem RG (h:Hm w B b c a ca v)(ho:c.Ok)(hl:c.pe.length<=1000000) :
 Calls prog 20 #[.pointer (some ⟨b,0,none⟩)] w λe w'=>e=.returned (.int .i64 (zB c.pe))/\Below w.heap.size w w':=by
 obtain⟨s,cap,rfl,hcap,hcm,hsl,_⟩:=h.sl;have c12:=h.pe;have HS:=aj hsl;have hbl:=h.tb.lt;have HV:Hid (pG c.pe c.pe.length=zB c.pe):=aj RD;have HD:=aj ho.due;obtain⟨l,hll⟩:∃l,c.pe=l:=⟨_,rfl⟩;rw[hll] at HS HV c12 HD hl hcap;rw[hll];obtain⟨N,hN⟩:∃N,l.length=N:=⟨_,rfl⟩;have HN:=aj hN;rw[hN] at c12 HV hl hcap;unfold maxLen at hcm;clear h hsl hll ho hN;go_enter func20,ntmps20;go_wp2_with fail;go_loopw [3,4] (λmv kv wr=>∃k:Nat,mv=.int .i64 (pG l k)/\kv=.int .i64 k/\k<=N/\wr=w) (λ_ kv _=>N-(intOf kv).toNat)
 case atStart=>exact⟨0,rfl,rfl,Nat.zero_le _,rfl⟩
 case round =>
  obtain⟨k,rfl,rfl,hk,hwr⟩:=hrel;subst hwr;by_cases hlt:k<N
  ·have hil:k<l.length:=by rw[ah HN];exact hlt
   obtain⟨bb,o,rfl,t⟩:=ah HS k hil;obtain⟨gl,k0,k1,k2⟩:=t;have HM:=aj (N9 (ah HD) hil);obtain⟨i1,i2,_⟩:=Ld (ah HD) (Nat.le_of_lt hil);obtain⟨X,hX⟩:∃X,pG l k=X:=⟨_,rfl⟩;obtain⟨Y,hY⟩:∃Y,l[k].d=Y:=⟨_,rfl⟩;rw[hX,hY] at HM;rw[hY] at k2;rw[hX] at i1 i2;rw[hX];clear hX hY k0 k1;by_cases q0:X=-1
   ·have g0:(X==-1)=true:=by rw[q0];rfl
    have HE:=aj ((ah HM).trans (if_pos (.inl q0)));clear HM q0;go_wp2_with fail;refine⟨⟨k+1,by rw[ah HE],by go_num,by omega,trivial⟩,?_⟩;simp[intOf];omega
   ·have g0:(X==-1)=false:=by simpa using q0
    by_cases q1:Y<X
    ·have g1:decide (Y<X)=true:=decide_eq_true q1;have HE:=aj ((ah HM).trans (if_pos (.inr q1)));clear HM q0;go_wp2_with fail;refine⟨⟨k+1,by rw[ah HE],by go_num,by omega,trivial⟩,?_⟩;simp[intOf];omega
    ·have g1:decide (Y<X)=false:=decide_eq_false q1;have HE:=aj ((ah HM).trans (if_neg (λz=>z.elim q0 q1)));clear HM q0;go_wp2_with fail;refine⟨⟨k+1,by rw[ah HE],by go_num,by omega,trivial⟩,?_⟩;simp[intOf];omega
  ·obtain rfl:k=N:=by omega
   go_wp2_with fail;go_ret;rw[<-ah HV];exact⟨rfl,Below.refl _ _⟩
end
theorem Oa:Maps.Keyed prog 9:=Maps.string_keyed underlying9
def kS (s:ByteArray):Lit:=.string s.data.toList
theorem keyS {s:ByteArray}(h:s.size<=maxLen):keyOf prog 9 (.string s)=some (kS s):=WideMaps.keyOf_string_mk underlying9 h
theorem XO {a b:ByteArray}(h:a≠b):kS a≠kS b:=λe=>h (by
 unfold kS at e;have:=Lit.string.inj e;apply ByteArray.ext;exact Array.ext' this)
theorem XP (w:World):(zeroValue 3).run prog w=.ok (.int .i64 0) w:=by kernel_rfl
structure Ej (w:World)(b:Nat)(l:List Rc)(D:DataW Unit):Prop where
 own:w.ownsMap prog 9 (plainElem prog 3) b l.length D
 at':∀s:ByteArray,s.size<=maxLen->D.atKey (kS s) (.lit (.int .i64 0))=.lit (.int .i64 (dI l s:Int))
 has:∀s:ByteArray,s.size<=maxLen->Maps.has D (kS s)=decide (0<dI l s)
 size:Maps.size D=dH l
theorem Ej.made (w:World):Ej (w.alloc (.map #[] 0)) w.heap.size [] (.map []):=by
 refine⟨World.ownsMap_made _ _ _ _,λs _=>?_,λs _=>?_,rfl⟩
 ·simp[DataW.atKey,dI]
 ·simp[Maps.has,dI]
theorem RH (s:ByteArray):WideAt.IsKeyLit (kS s):=by unfold kS;trivial
theorem Ej.put {w w':World}{b:Nat}{l:List Rc}{D:DataW Unit}(h:Ej w b l D)(r:Rc)(hs:r.s.size<=maxLen)(h':w'.ownsMap prog 9 (plainElem prog 3) b (l.length+1) (D.put (kS r.s) (.lit (.int .i64 ((dI l r.s:Int)+1))))):Ej w' b (l++[r]) (D.put (kS r.s) (.lit (.int .i64 ((dI l r.s:Int)+1)))):=by
 have hD:=h.own.tidy Oa;refine⟨by rw[List.length_append,List.length_singleton];exact h',λs hz=>?_,λs hz=>?_,?_⟩
 ·rw[dA,jT];by_cases e:r.s=s
  ·rw[if_pos e,<-e,Maps.atKey_put_same hD.isMap (RH _)];simp
  ·rw[if_neg e,Maps.atKey_put_other (XO (λz=>e z.symm)),h.at' s hz];simp
 ·rw[dA,jT];by_cases e:r.s=s
  ·rw[if_pos e,<-e,Maps.has_put_same hD.isMap (RH _)];simp
  ·rw[if_neg e,Maps.has_put_other (XO (λz=>e z.symm)),h.has s hz];simp
 ·rw[Maps.size_put hD,h.has _ hs,h.size,mX,jU]
  cases decide (0<dI l r.s)<;>simp
theorem Ej.drew {w:World}{b:Nat}{l:List Rc}{D:DataW Unit}(h:Ej w b l D):Ej w.drew b l D:=⟨h.own.drew,h.at',h.has,h.size⟩
theorem Ej.drewN {w:World}{b:Nat}{l:List Rc}{D:DataW Unit}(h:Ej w b l D)(n:Nat):Ej (w.drewN n) b l D:=⟨h.own,h.at',h.has,h.size⟩
def jA (w:World)(B c:Nat)(F:Nat->Prop)(s:aY):Prop :=
 ∃v,(B<=c/\c<w.heap.size)/\w.cell? ⟨c,0,none⟩=some v/\w.cell? ⟨c,1,none⟩=some (.int .i64 s.last)/\w.frozen? ⟨c,0,none⟩=false/\w.frozen? ⟨c,1,none⟩=false/\bW w B v s.l/\v.ownBlock≠some c/\∀k,F k↔k=c\/v.ownBlock=some k
theorem jA.own {w:World}{B c:Nat}{F:Nat->Prop}{s:aY}(h:jA w B c F s):∀k,F k->B<=k/\k<w.heap.size:=λk hk=>by
 obtain⟨v,h1,_,_,_,_,h6,_,h8⟩:=h;rcases(h8 k).1 hk with y|y
 ·subst y;exact h1
 ·exact World.ownsRow.lt h6 k y
theorem jA.bn {w w':World}{B c:Nat}{F:Nat->Prop}{s:aY}{A:Nat->Prop}(h:jA w B c F s)(hc:aB A w w')(hn:∀k,F k->¬A k):jA w' B c F s:=by
 obtain⟨v,h1,h2,h3,h4,h5,h6,h7,h8⟩:=h;have hcA:¬A c:=hn c ((h8 c).2 (.inl rfl));exact⟨v,⟨h1.1,Nat.lt_of_lt_of_le h1.2 hc.size⟩,by rw[hc.cell (p:=⟨c,0,none⟩) h1.2 hcA];exact h2,by rw[hc.cell (p:=⟨c,1,none⟩) h1.2 hcA];exact h3,by rw[hc.frozen (p:=⟨c,0,none⟩) h1.2 hcA];exact h4,by rw[hc.frozen (p:=⟨c,1,none⟩) h1.2 hcA];exact h5,h6.bn hc (λg hg=>hn g ((h8 g).2 (.inr hg))),h7,h8⟩
theorem jA.below {w w':World}{B c:Nat}{F:Nat->Prop}{s:aY}(h:jA w B c F s)(hb:Below w.heap.size w w'):jA w' B c F s:=h.bn (A:=λ_=>False) (aB.of_below hb) (λ_ _ z=>z)
theorem jA.read {w:World}{B c:Nat}{F:Nat->Prop}{s:aY}(h:jA w B c F s):∃a cap,w.cell? ⟨c,0,none⟩=some (.slice a s.l.length cap)/\w.cell? ⟨c,1,none⟩=some (.int .i64 s.last)/\s.l.length<=cap/\cap<=maxLen/\um w a s.l/\c<w.heap.size:=by
 obtain⟨v,h1,h2,h3,_,_,h6,_⟩:=h;obtain⟨a,cap,rfl,x1,x2,x3⟩:=h6.shape;exact⟨a,cap,h2,h3,x1,x2,x3,h1.2⟩
theorem Ob {l:List Rc}{k:Nat}(h:k<l.length)(n:Int):seqB (l.take (k+1)) n=(seqB (l.take k) n||decide ((rc l k).q=n)):=by
 rw[List.take_succ_eq_append_getElem h,aW h];unfold seqB;rw[List.any_append];simp
