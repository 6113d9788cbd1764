/- A part. -/
import Derived.Test.YtophdoapcdjnjaaGreatDoorQ11
set_option maxRecDepth 100000
set_option maxHeartbeats 8000000
namespace Go.Proofs.YtophdoapcdjnjaaGreatDoor
open Go.RowKit Go.Proofs.Tryz
theorem Uf (x:ByteArray)(w:World) :
 Calls prog 169 #[.string x] w λe w'=>e=.returned (.bool false)/\w'=w:=by
 go_enter func169,ntmps169;go_wp2;go_ret;exact⟨iZ (by simp),rfl⟩
theorem Fe (x y:ByteArray)(w:World) :
 Calls prog 158 #[.string x,.string y] w λe w'=>e=.returned (.int .i64 (OO x y))/\w'=w:=by
 cases h1:Op.bytesLess x.toList y.toList<;>cases h2:(x.toList==y.toList)
 all_goals
  have hr:OO x y=(if Op.bytesLess x.toList y.toList=true then -1 else if (x.toList==y.toList)=true then 0 else 1):=rfl
  rw[h1,h2] at hr
  simp at hr
  have Hr:=aj hr
  clear hr
  go_enter func158,ntmps158
  go_wp2_with (first|(go_at_call 169;refine(Uf _ _).mono ?_;rintro e w' ⟨rfl,rfl⟩))
  go_ret
  exact⟨bI (ah Hr),rfl⟩
theorem Qm {f g:List ByteArray}{k:Nat}(hf:k<f.length)(hg:k<g.length):cmpL (f.drop k) (g.drop k)=if qw (tk f k) (tk g k) then cmpL (f.drop (k+1)) (g.drop (k+1)) else if Jk (tk f k) (tk g k) then -1 else 1:=by
 rw[fV hf,fV hg,cmpL]
theorem Qn {f g:List ByteArray}{k:Nat}(hf:k<f.length)(hg:¬k<g.length):cmpL (f.drop k) (g.drop k)=1:=by
 have e:g.drop k=[]:=List.drop_of_length_le (by omega);rw[fV hf,e,cmpL]
theorem Me {f g:List ByteArray}{k:Nat}(hf:¬k<f.length)(hg:k<g.length):cmpL (f.drop k) (g.drop k)=-1:=by
 have e:f.drop k=[]:=List.drop_of_length_le (by omega);rw[fV hg,e,cmpL]
theorem Qo {f g:List ByteArray}{k:Nat}(hf:¬k<f.length)(hg:¬k<g.length):cmpL (f.drop k) (g.drop k)=0:=by
 rw[List.drop_of_length_le (by omega),List.drop_of_length_le (by omega),cmpL]
theorem Qp (bf bg:Nat)(f g:List ByteArray)(w:World)(hf:Row w bf 0 f)(hg:Row w bg 0 g)(nf:f.length<=8) :
 Calls prog 144 #[.slice (some ⟨bf,0,none⟩) f.length f.length,.slice (some ⟨bg,0,none⟩) g.length g.length] w λe w'=>e=.returned (.int .i64 (cmpL f g))/\w'=w:=by
 have hcf:∀k,k<f.length->w.cell? ⟨bf,k,none⟩=some (.string (tk f k)):=λk hk=>by have:=hf k hk;rwa [Nat.zero_add] at this
 have hcg:∀k,k<g.length->w.cell? ⟨bg,k,none⟩=some (.string (tk g k)):=λk hk=>by have:=hg k hk;rwa [Nat.zero_add] at this
 clear hf hg;go_enter func144,ntmps144;go_wp2;go_loop [11] (λi=>∃k:Nat,k<=f.length/\k<=g.length/\i=.int .i64 k/\Hid (cmpL f g=cmpL (f.drop k) (g.drop k))) (λi=>f.length-(intOf i).toNat)
 case atStart=>exact⟨0,Nat.zero_le _,Nat.zero_le _,rfl,aj rfl⟩
 case round =>
  obtain⟨k,hk,hk2,rfl,hq⟩:=hrel;by_cases hlt:k<f.length
  ·have hc1:=hcf k hlt;by_cases Xj:k<g.length
   ·have hc2:=hcg k Xj;have Hs:=aj (Qm hlt Xj);clear hcf hcg
    cases he:qw (tk f k) (tk g k) with
    | true =>
     have Hc:=aj (Tj he);have He:=aj he;clear he;go_wp2_with (first|(go_at_call 158;refine(Fe _ _ _).mono ?_;rintro e w' ⟨rfl,rfl⟩;rw[ah Hc]));go_round
     case rel=>exact⟨k+1,by omega,by omega,by go_num,aj (by rw[ah hq,ah Hs,if_pos (ah He)])⟩
     case measure=>simp[intOf];omega
    | false =>
     cases hl:Jk (tk f k) (tk g k)
     all_goals
      have Hc:=aj (show OO (tk f k) (tk g k)=(if Jk (tk f k) (tk g k)=true then -1 else if qw (tk f k) (tk g k)=true then 0 else 1) from rfl)
      have Hs2:Hid (cmpL f g=(if Jk (tk f k) (tk g k)=true then -1 else 1)):=aj (by rw[ah hq,ah Hs,if_neg (by rw[he];simp)])
      rw[hl] at Hs2
      rw[hl,he] at Hc
      clear hl he
      go_wp2_with (first|(go_at_call 158;refine(Fe _ _ _).mono ?_;rintro e w' ⟨rfl,rfl⟩;rw[ah Hc];simp only[Bool.false_eq_true,if_false,if_true]))
      go_ret
      exact⟨bI (by rw[ah Hs2];simp),rfl⟩
   ·clear hcf hcg;have Hs:=aj (Qn hlt Xj);go_wp2;go_ret;exact⟨bI (by rw[ah hq];exact ah Hs),rfl⟩
  ·clear hcf hcg;by_cases Xj:k<g.length
   ·have Hs:=aj (Me hlt Xj);go_wp2;go_ret;exact⟨bI (by rw[ah hq];exact ah Hs),rfl⟩
   ·have Hs:=aj (Qo hlt Xj);go_wp2;go_ret;exact⟨bI (by rw[ah hq];exact ah Hs),rfl⟩
def Qq (a b:ByteArray):Int:=cmpL (Pl.toks a) (Pl.toks b)
theorem MB (a b:ByteArray)(w:World)(ha:a.size<=140737488355328)(hb:b.size<=140737488355328)(na:(Pl.toks a).length<=8)(nb:(Pl.toks b).length<=8) :
 Calls prog 129 #[.string a,.string b] w λe w'=>e=.returned (.int .i64 (Qq a b))/\Below w.heap.size w w':=by
 go_enter func129,ntmps129;go_wp2_with fail;refine(tu a _ ha na).mono ?_;rintro e w1 ⟨b1,rfl,h1,h2,h3,h4⟩;go_wp2_with fail;refine(tu b _ hb nb).mono ?_;rintro e w2 ⟨b2,rfl,g1,g2,g3,g4⟩;go_wp2_with fail;refine(Qp b1 b2 _ _ _ (h4.below g3 h2) g4 na).mono ?_;rintro e w3 ⟨rfl,rfl⟩;go_wp2_with fail;go_ret;exact⟨rfl,aA h3 g3⟩
theorem uU (e:aJ)(b:ByteArray)(w:World)(ha:e.1.size<=140737488355328)(hb:b.size<=140737488355328)(na:(Pl.toks e.1).length<=8)(nb:(Pl.toks b).length<=8) :
 Calls prog 128 #[.agg #[.string e.1,.int .i64 e.2],.string b] w λr w'=>r=.returned (.int .i64 (Qq e.1 b))/\Below w.heap.size w w':=by
 go_enter func128,ntmps128;go_wp2_with fail;refine(MB _ b _ ha hb na nb).mono ?_;rintro e w1 ⟨rfl,h1⟩;go_wp2_with fail;go_ret;exact⟨rfl,aA ((Below.refl _ _).alloc (Nat.le_refl _) _) h1⟩
theorem JL (a b:ByteArray):decide (Qq a b<0)=el a b:=Eo _ _
theorem oO {a b:Int}{c d:Bool}(h:b=a)(g:d=c):Ending.returned (.tuple #[.int .i64 a,.bool c])=.returned (.tuple #[.int .i64 b,.bool d]):=by rw[h,g]
def Sl (w:World)(a:Option Addr)(es:List aJ):Prop:=∀k,k<es.length->∃g,a=some ⟨g,0,none⟩/\g<w.heap.size/\w.cell? ⟨g,k*2,none⟩=some (.string (en es k).1)/\w.cell? ⟨g,k*2+1,none⟩=some (.int .i64 (en es k).2)
theorem ku.sl {w:World}{B:Nat}{v:Value}{es:List aJ}(h:ku w B v es):∃a cap,v=.slice a es.length cap/\Sl w a es:=by
 rcases Nat.eq_zero_or_pos es.length with h0|h0
 ·obtain⟨a,cap,h1,_⟩:=h.shape;exact⟨a,cap,h1,λk hk=>by omega⟩
 ·obtain⟨g,cap,h1,h2,h3,h4,h5⟩:=h.there h0;subst h1;exact⟨_,cap,rfl,λk hk=>⟨g,rfl,h5,h.text hk,h.num hk⟩⟩
theorem Sl.below {w w':World}{a:Option Addr}{es:List aJ}(h:Sl w a es)(hb:Below w.heap.size w w'):Sl w' a es:=by
 intro k hk;obtain⟨g,h1,h2,h3,h4⟩:=h k hk;exact⟨g,h1,by have:=hb.size;omega,by rw[hb.cell (p:=⟨g,k*2,none⟩) h2];exact h3,by rw[hb.cell (p:=⟨g,k*2+1,none⟩) h2];exact h4⟩
def Fits (es:List aJ):Prop:=∀e∈es,aB false e.1=0/\e.1.size<=140737488355328
theorem Ho (a:Option Addr)(cap:Nat)(es:List aJ)(s:ByteArray)(w:World)(hsl:Sl w a es)(hord:Ord es)(je:es.length<=100)(hfit:Fits es)(hs:s.size<=140737488355328)(hn:(Pl.toks s).length<=8) :
 Calls prog 127 #[.slice a es.length cap,.string s,.func (.func 128) #[] #[]] w λe w'=>e=.returned (.tuple #[.int .i64 (place es s),.bool (cO es s)])/\Below w.heap.size w w':=by
 have yA:=aj hord;have Yf:=aj hfit;clear hord hfit;go_enter func127,ntmps127;go_wp2;go_loopw [9,10] (λiv jv wr=>∃(i j:Nat),iv=.int .i64 i/\jv=.int .i64 j/\i<=j/\j<=es.length/\Hid (∀k,k<i->el (en es k).1 s=true)/\Hid (∀k,j<=k->k<es.length->el (en es k).1 s=false)/\Hid (Sl wr a es)/\Below w.heap.size w wr) (λiv jv _=>(intOf jv).toNat-(intOf iv).toNat)
 case atStart=>exact⟨0,es.length,rfl,rfl,Nat.zero_le _,Nat.le_refl _,aj (λk hk=>absurd hk (Nat.not_lt_zero k)),aj (λk h1 h2=>by omega),aj hsl,Below.refl _ _⟩
 case round =>
  obtain⟨i,j,rfl,rfl,hij,hj,hlo,hhi,hsl2,hb⟩:=hrel;by_cases hlt:i<j
  ·obtain⟨h,hh⟩:∃h:Nat,h=(i+j) / 2:=⟨_,rfl⟩;have hh1:i<=h/\h<j:=by omega
   obtain⟨g,rfl,hg,hc1,hc2⟩:=ah hsl2 h (by omega);have hmid:((i:Int)+(j:Int)) / 2=(h:Int):=by omega
   clear hh;obtain⟨f1,f2⟩:=ah Yf (en es h) (Gz (by omega));have H:=aj (uU (en es h) s wr f2 hs (few f1) hn);clear f1 f2
   cases he:el (en es h).1 s with
   | true =>
    have hz:Qq (en es h).1 s<0:=by rw[<-JL] at he;simpa using he
    have He:=aj he;clear he;go_wp2_with fail;refine(ah H).mono ?_;rintro e w1 ⟨rfl,hb1⟩;have hc1':=hc1;clear hc1 hc2;go_wp2_with fail;refine⟨⟨h+1,j,by go_num,rfl,by omega,hj,aj (λk hk=>?_),hhi,aj ((ah hsl2).below hb1),aA hb hb1⟩,?_⟩
    ·rcases Nat.lt_succ_iff_lt_or_eq.1 hk with q|q
     ·exact lJ (tJ (ah yA) q (by omega)) (ah He)
     ·rw[q];exact ah He
    ·simp[intOf];omega
   | false =>
    have hz:¬Qq (en es h).1 s<0:=by rw[<-JL] at he;simpa using he
    have He:=aj he;clear he;go_wp2_with fail;refine(ah H).mono ?_;rintro e w1 ⟨rfl,hb1⟩;clear hc1 hc2;go_wp2_with fail;refine⟨⟨i,h,rfl,rfl,by omega,by omega,hlo,aj (λk hk hk2=>?_),aj ((ah hsl2).below hb1),aA hb hb1⟩,?_⟩
    ·rcases Nat.eq_or_lt_of_le hk with q|q
     ·rw[<-q];exact ah He
     ·cases x:el (en es k).1 s
      ·rfl
      ·have:=lJ (tJ (ah yA) q hk2) x;rw[ah He] at this;cases this
    ·simp[intOf];omega
  ·obtain rfl:i=j:=by omega
   have hpl:=Ep (s:=s) hj (ah hlo) (ah hhi);by_cases hl:i<es.length
   ·obtain⟨g,rfl,hg,hc1,hc2⟩:=ah hsl2 i (by omega);obtain⟨f1,f2⟩:=ah Yf (en es i) (Gz (by omega));have H:=aj (uU (en es i) s wr f2 hs (few f1) hn);have hha:=Tm (es:=es) s (by rw[<-hpl];exact hl);rw[<-hpl] at hha;have Yg:=aj hha;have Hpl:=aj hpl;clear f1 f2 hpl hha;go_wp2_with fail;refine(ah H).mono ?_;rintro e w1 ⟨rfl,hb1⟩;clear hc1 hc2;go_wp2_with fail;go_ret2;refine⟨oO ?_ ?_,aA hb hb1⟩
    ·rw[<-ah Hpl]
    ·rw[ah Yg];rfl
   ·have Hpl:=aj hpl;clear hpl;go_wp2_with fail;go_ret2;refine⟨oO ?_ ?_,hb⟩
    ·rw[<-ah Hpl]
    ·unfold cO;rw[<-ah Hpl];simp[hl]
theorem Y4 {es:List aJ}(h:dW es):Fits es:=h.2.2
theorem oP {o:Nat}(B p:Nat)(v:Value)(es:List aJ)(s:ByteArray)(w:World)(hk:dF o w B p v es)(hg:dW es)(hs:s.size<=140737488355328)(hn:(Pl.toks s).length<=8) :
 Calls prog 106 #[.pointer (some ⟨p,o,none⟩),.string s] w λe w'=>e=.returned (.tuple #[.int .i64 (place es s),.bool (cO es s)])/\Below w.heap.size w w':=by
 obtain⟨a,cap,rfl,hsl⟩:=hk.arr.sl;have hc:=hk.cell;go_enter func106,ntmps106;go_wp2_with fail;refine(Ho a cap es s _ hsl hg.1 hg.2.1 hg.2.2 hs hn).mono ?_;rintro e w1 ⟨rfl,hb⟩;go_wp2_with fail;go_ret2;exact⟨rfl,hb⟩
def uV (es:List aJ)(s:ByteArray):Int:=if aB false s=0 then (if cO es s then (place es s:Int) else 0) else 0
theorem vU {a b c d:Int}(h:b=a)(g:d=c):Ending.returned (.tuple #[.int .i64 a,.int .i64 c])=.returned (.tuple #[.int .i64 b,.int .i64 d]):=by rw[h,g]
theorem mM {o:Nat}(B p:Nat)(v:Value)(es:List aJ)(s:ByteArray)(w:World)(hk:dF o w B p v es)(hg:dW es)(hs:s.size<=140737488355328) :
 Calls prog 132 #[.pointer (some ⟨p,o,none⟩),.string s] w λe w'=>e=.returned (.tuple #[.int .i64 (uV es s),.int .i64 (qA es s)])/\Below w.heap.size w w':=by
 have Hk:=aj hk;have Hg:=aj hg;clear hk hg;by_cases he:aB false s=0
 ·have hn:=few he;have He:=aj he
  cases hh:cO es s
  all_goals
   have Hl:=aj (show uV es s=(if aB false s=0 then (if cO es s then (place es s:Int) else 0) else 0) from rfl)
   have Y5:=aj (show qA es s=(if aB false s=0 then (if cO es s then 0 else 4) else aB false s) from rfl)
   rw[hh,he] at Hl Y5
   have Hh:=aj hh
   clear he hh
   go_enter func132,ntmps132
   go_wp2_with fail
   refine(dn s _ hs).mono ?_
   rintro e w1 ⟨rfl,hb1⟩
   rw[ah He]
   go_wp2_with fail
   refine(oP B p v es s _ ((ah Hk).below hb1) (ah Hg) hs hn).mono ?_
   rintro e w2 ⟨rfl,hb2⟩
   rw[ah Hh]
   go_wp2_with fail
   go_ret2
   exact⟨vU (by rw[ah Hl];simp) (by rw[ah Y5];simp),aA hb1 hb2⟩
 ·have Hl:=aj (show uV es s=0 by unfold uV;rw[if_neg he]);have Y5:=aj (show qA es s=aB false s by unfold qA;rw[if_neg he]);go_enter func132,ntmps132;go_wp2_with fail;refine(dn s _ hs).mono ?_;rintro e w1 ⟨rfl,hb1⟩;go_wp2_with fail;go_ret2;exact⟨vU (ah Hl) (ah Y5),hb1⟩
theorem get_any {o:Nat}(B p:Nat)(v:Value)(es:List aJ)(s:ByteArray)(w:World)(hk:dF o w B p v es)(hg:dW es)(hs:s.size<=140737488355328) :
 Calls prog 109 #[.pointer (some ⟨p,o,none⟩),.string s] w λe w'=>e=.returned (.tuple #[.int .i64 (iJ es s),.int .i64 (qA es s)])/\Below w.heap.size w w':=by
 have Hk:=aj hk;have Hg:=aj hg;clear hk hg;by_cases h0:qA es s=0
 ·have hh:aB false s=0/\cO es s=true:=by
   unfold qA at h0;split at h0
   ·rename_i he;refine⟨he,?_⟩;split at h0
    ·assumption
    ·omega
   ·rename_i he;exact absurd h0 he
  obtain⟨h1,h2⟩:=nP hh.2;have hl:uV es s=(place es s:Int):=by unfold uV;rw[if_pos hh.1,if_pos hh.2]
  have hgn:iJ es s=(en es (place es s)).2:=by unfold iJ;rw[if_pos hh.1,if_pos hh.2]
  have Y6:=aj hgn;have Hl:=aj hl;have H0:=aj h0;clear hgn hl h0 hh h2;obtain⟨q,hq⟩:∃q,place es s=q:=⟨_,rfl⟩;rw[hq] at h1 Hl Y6;clear hq;obtain⟨g,cap,rfl,c1,c2,c3,c4⟩:=(ah Hk).arr.there (by omega);unfold maxLen at c2;go_enter func109,ntmps109;go_wp2_with fail;refine(mM B p _ es s _ (ah Hk) (ah Hg) hs).mono ?_;rintro e w1 ⟨rfl,hb1⟩;rw[ah Hl,ah H0];have k1:=(ah Hk).below hb1;have hc1:=k1.cell;have hc2:=k1.arr.num h1;clear k1;go_wp2_with fail;go_ret2;exact⟨vU (ah Y6) (ah H0),hb1⟩
 ·have hgn:iJ es s=0:=by
   unfold iJ;unfold qA at h0;split
   ·rename_i he;rw[if_pos he] at h0;split
    ·rename_i hh;rw[if_pos hh] at h0;exact absurd rfl h0
    ·rfl
   ·rfl
  have Y6:=aj hgn;clear hgn;go_enter func109,ntmps109;go_wp2_with fail;refine(mM B p v es s _ (ah Hk) (ah Hg) hs).mono ?_;rintro e w1 ⟨rfl,hb1⟩;go_wp2_with fail;go_ret2;exact⟨vU (ah Y6) rfl,hb1⟩
theorem count_any {o:Nat}(B p:Nat)(v:Value)(es:List aJ)(w:World)(hk:dF o w B p v es) :
 Calls prog 105 #[.pointer (some ⟨p,o,none⟩)] w λe w'=>e=.returned (.int .i64 es.length)/\w'=w:=by
 obtain⟨a,cap,rfl,hsl⟩:=hk.arr.sl;have hc:=hk.cell;clear hk hsl;go_enter func105,ntmps105;go_wp2_with fail;go_ret;exact⟨rfl,rfl⟩
theorem Xk (w:World)(B:Nat)(t:TypeId)(hB:B<=w.heap.size):Keeps (w.alloc (.cells #[.slice none 0 0] t)) B w.heap.size (.slice none 0 0) [] :=
 ⟨by simp,by simp,hB,by simp,ku.empty _ _,by simp[Value.ownBlock]⟩
