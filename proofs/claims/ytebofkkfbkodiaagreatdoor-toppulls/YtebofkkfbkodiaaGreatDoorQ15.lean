/- A part. -/
import Derived.Test.YtebofkkfbkodiaaGreatDoorQ14
set_option maxRecDepth 100000
set_option maxHeartbeats 8000000
namespace Go.Proofs.YtebofkkfbkodiaaGreatDoor
open Go.RowKit Go.Proofs.Tryz
variable {f g:List ad}{k o:Nat}{a b:Int}{w:I}{es:List aS}
theorem aeD (x:ad)(w:I) :
 Calls prog 217 #[.string x] w λe w'=>e=.returned (.bool false)/\w'=w:=by
 go_enter func217,ntmps217;go_wp2;go_ret;exact⟨lY (by simp),rfl⟩
theorem O6 (x y:ad)(w:I) :
 Calls prog 302 #[.string x,.string y] w λe w'=>e=.returned (aa (aa1 x y))/\w'=w:=by
 cases h1:Op.bytesLess x.toList y.toList<;>cases h2:(x.toList==y.toList)
 all_goals
  have hr:aa1 x y=(if Op.bytesLess x.toList y.toList=true then -1 else if (x.toList==y.toList)=true then 0 else 1):=rfl
  rw[h1,h2] at hr
  simp at hr
  have Hr:=aj hr
  clear hr
  go_enter func302,ntmps302
  go_wp2_with (first|(go_at_call 217;refine(aeD _ _).mono ?_;rintro e w' ⟨rfl,rfl⟩))
  go_ret
  exact⟨dJ (ah Hr),rfl⟩
theorem abq (hf:k<f.length)(hg:k<g.length):cmpL (f.drop k) (g.drop k)=if Ae (tk f k) (tk g k) then cmpL (f.drop (k+1)) (g.drop (k+1)) else if VT (tk f k) (tk g k) then -1 else 1:=by
 rw[jP hf,jP hg,cmpL]
theorem abr (hf:k<f.length)(hg:¬k<g.length):cmpL (f.drop k) (g.drop k)=1:=by
 have e:g.drop k=[]:=aki (by omega);rw[jP hf,e,cmpL]
theorem Yn (hf:¬k<f.length)(hg:k<g.length):cmpL (f.drop k) (g.drop k)=-1:=by
 have e:f.drop k=[]:=aki (by omega);rw[jP hg,e,cmpL]
theorem abt (hf:¬k<f.length)(hg:¬k<g.length):cmpL (f.drop k) (g.drop k)=0:=by
 rw[aki (by omega),aki (by omega),cmpL]
theorem abu (bf bg:Nat)(f g:List ad)(w:I)(hf:Row w bf 0 f)(hg:Row w bg 0 g)(nf:f.length<=8) :
 Calls prog 291 #[.slice (some ⟨bf,0,none⟩) f.length f.length,.slice (some ⟨bg,0,none⟩) g.length g.length] w λe w'=>e=.returned (aa (cmpL f g))/\w'=w:=by
 have hcf:∀k,k<f.length->w.cell? (aq bf k)=some (.string (tk f k)):=λk hk=>by have:=hf k hk;rwa [ajT] at this
 have hcg:∀k,k<g.length->w.cell? (aq bg k)=some (.string (tk g k)):=λk hk=>by have:=hg k hk;rwa [ajT] at this
 clear hf hg;go_enter func291,ntmps291;go_wp2;go_loop [11] (λi=>∃k:Nat,k<=f.length/\k<=g.length/\i=aa k/\Hid (cmpL f g=cmpL (f.drop k) (g.drop k))) (λi=>f.length-(intOf i).toNat)
 case atStart=>exact⟨0,ajO _,ajO _,rfl,aj rfl⟩
 case round =>
  obtain⟨k,hk,hk2,rfl,hq⟩:=hrel;by_cases hlt:k<f.length
  ·have hc1:=hcf k hlt;by_cases hlg:k<g.length
   ·have hc2:=hcg k hlg;have Hs:=aj (abq hlt hlg);clear hcf hcg
    cases he:Ae (tk f k) (tk g k) with
    | true =>
     have Hc:=aj (aeh he);have He:=aj he;clear he;go_wp2_with (first|(go_at_call 302;refine(O6 _ _ _).mono ?_;rintro e w' ⟨rfl,rfl⟩;rw[ah Hc]));go_round
     case rel=>exact⟨k+1,by omega,by omega,by go_num,aj (by rw[ah hq,ah Hs,if_pos (ah He)])⟩
     case measure=>simp[intOf];omega
    | false =>
     cases hl:VT (tk f k) (tk g k)
     all_goals
      have Hc:=aj (show aa1 (tk f k) (tk g k)=(if VT (tk f k) (tk g k)=true then -1 else if Ae (tk f k) (tk g k)=true then 0 else 1) from rfl)
      have Hs2:Hid (cmpL f g=(if VT (tk f k) (tk g k)=true then -1 else 1)):=aj (by rw[ah hq,ah Hs,if_neg (by rw[he];simp)])
      rw[hl] at Hs2
      rw[hl,he] at Hc
      clear hl he
      go_wp2_with (first|(go_at_call 302;refine(O6 _ _ _).mono ?_;rintro e w' ⟨rfl,rfl⟩;rw[ah Hc];simp only[amZ,if_false,ami]))
      go_ret
      exact⟨dJ (by rw[ah Hs2];simp),rfl⟩
   ·clear hcf hcg;have Hs:=aj (abr hlt hlg);go_wp2;go_ret;exact⟨dJ (by rw[ah hq];exact ah Hs),rfl⟩
  ·clear hcf hcg;by_cases hlg:k<g.length
   ·have Hs:=aj (Yn hlt hlg);go_wp2;go_ret;exact⟨dJ (by rw[ah hq];exact ah Hs),rfl⟩
   ·have Hs:=aj (abt hlt hlg);go_wp2;go_ret;exact⟨dJ (by rw[ah hq];exact ah Hs),rfl⟩
def abv (a b:ad):Int:=cmpL (Pl.toks a) (Pl.toks b)
theorem Yo (a b:ad)(w:I)(ha:a.size<=140737488355328)(hb:b.size<=140737488355328)(na:(Pl.toks a).length<=8)(nb:(Pl.toks b).length<=8) :
 Calls prog 277 #[.string a,.string b] w λe w'=>e=.returned (aa (abv a b))/\ai w w':=by
 go_enter func277,ntmps277;go_wp2_with fail;refine(AO a _ ha na).mono ?_;rintro e w1 ⟨b1,rfl,h1,h2,h3,h4⟩;go_wp2_with fail;refine(AO b _ hb nb).mono ?_;rintro e w2 ⟨b2,rfl,g1,g2,g3,g4⟩;go_wp2_with fail;refine(abu b1 b2 _ _ _ (h4.below g3 h2) g4 na).mono ?_;rintro e w3 ⟨rfl,rfl⟩;go_wp2_with fail;go_ret;exact⟨rfl,ak h3 g3⟩
theorem BZ (e:aS)(b:ad)(w:I)(ha:e.1.size<=140737488355328)(hb:b.size<=140737488355328)(na:(Pl.toks e.1).length<=8)(nb:(Pl.toks b).length<=8) :
 Calls prog 276 #[.agg #[.string e.1,aa e.2],.string b] w λr w'=>r=.returned (aa (abv e.1 b))/\ai w w':=by
 go_enter func276,ntmps276;go_wp2_with fail;refine(Yo _ b _ ha hb na nb).mono ?_;rintro e w1 ⟨rfl,h1⟩;go_wp2_with fail;go_ret;exact⟨rfl,ak (ax _ _) h1⟩
theorem Wu (a b:ad):decide (abv a b<0)=el a b:=Oy _ _
theorem vT {c d:Bool}(h:b=a)(g:d=c):Ending.returned (.tuple #[aa a,.bool c])=.returned (.tuple #[aa b,.bool d]):=by rw[h,g]
def Sl (w:I)(a:Option Addr)(es:List aS):Prop:=∀k,k<es.length->∃g,a=some ⟨g,0,none⟩/\g<w.heap.size/\w.cell? (aq g (k*2))=some (.string (en es k).1)/\w.cell? (aq g (k*2+1))=some (aa (en es k).2)
theorem mg.sl {B:Nat}{v:Value}(h:mg w B v es):∃a cap,v=.slice a es.length cap/\Sl w a es:=by
 rcases amG es.length with h0|h0
 ·obtain⟨a,cap,h1,_⟩:=h.shape;exact⟨a,cap,h1,λk hk=>by omega⟩
 ·obtain⟨g,cap,h1,h2,h3,h4,h5⟩:=h.there h0;subst h1;exact⟨_,cap,rfl,λk hk=>⟨g,rfl,h5,h.text hk,h.num hk⟩⟩
theorem Sl.below {w':I}{a:Option Addr}(h:Sl w a es)(hb:ai w w'):Sl w' a es:=by
 intro k hk;obtain⟨g,h1,h2,h3,h4⟩:=h k hk;exact⟨g,h1,by have:=hb.size;omega,by rw[hb.cell (p:=aq g (k*2)) h2];exact h3,by rw[hb.cell (p:=aq g (k*2+1)) h2];exact h4⟩
def Fits (es:List aS):Prop:=∀e∈es,aC false e.1=0/\e.1.size<=140737488355328
theorem TS (a:Option Addr)(cap:Nat)(es:List aS)(s:ad)(w:I)(hsl:Sl w a es)(hord:Ord es)(kQ:es.length<=100)(hfit:Fits es)(hs:s.size<=140737488355328)(hn:(Pl.toks s).length<=8) :
 Calls prog 275 #[.slice a es.length cap,.string s,.func (.func 276) #[] #[]] w λe w'=>e=.returned (.tuple #[aa (place es s),.bool (fB es s)])/\ai w w':=by
 have Fv:=aj hord;have ahr:=aj hfit;clear hord hfit;go_enter func275,ntmps275;go_wp2;go_loopw [9,10] (λiv jv wr=>∃(i j:Nat),iv=aa i/\jv=aa j/\i<=j/\j<=es.length/\Hid (∀k,k<i->el (en es k).1 s=true)/\Hid (∀k,j<=k->k<es.length->el (en es k).1 s=false)/\Hid (Sl wr a es)/\ai w wr) (λiv jv _=>(intOf jv).toNat-(intOf iv).toNat)
 case atStart=>exact⟨0,es.length,rfl,rfl,ajO _,agH _,aj (λk hk=>absurd hk (akh k)),aj (λk h1 h2=>by omega),aj hsl,agP _ _⟩
 case round =>
  obtain⟨i,j,rfl,rfl,hij,hj,hlo,hhi,hsl2,hb⟩:=hrel;by_cases hlt:i<j
  ·obtain⟨h,hh⟩:∃h:Nat,h=(i+j) / 2:=⟨_,rfl⟩;have hh1:i<=h/\h<j:=by omega
   obtain⟨g,rfl,hg,hc1,hc2⟩:=ah hsl2 h (by omega);have hmid:((i:Int)+(j:Int)) / 2=(h:Int):=by omega
   clear hh;obtain⟨f1,f2⟩:=ah ahr (en es h) (La (by omega));have H:=aj (BZ (en es h) s wr f2 hs (few f1) hn);clear f1 f2
   cases he:el (en es h).1 s with
   | true =>
    have hz:abv (en es h).1 s<0:=by rw[<-Wu] at he;simpa using he
    have He:=aj he;clear he;go_wp2_with fail;refine(ah H).mono ?_;rintro e w1 ⟨rfl,hb1⟩;have hc1':=hc1;clear hc1 hc2;go_wp2_with fail;refine⟨⟨h+1,j,by go_num,rfl,by omega,hj,aj (λk hk=>?_),hhi,aj ((ah hsl2).below hb1),ak hb hb1⟩,?_⟩
    ·rcases akI.1 hk with q|q
     ·exact qI (AU (ah Fv) q (by omega)) (ah He)
     ·rw[q];exact ah He
    ·simp[intOf];omega
   | false =>
    have hz:¬abv (en es h).1 s<0:=by rw[<-Wu] at he;simpa using he
    have He:=aj he;clear he;go_wp2_with fail;refine(ah H).mono ?_;rintro e w1 ⟨rfl,hb1⟩;clear hc1 hc2;go_wp2_with fail;refine⟨⟨i,h,rfl,rfl,by omega,by omega,hlo,aj (λk hk hk2=>?_),aj ((ah hsl2).below hb1),ak hb hb1⟩,?_⟩
    ·rcases akX hk with q|q
     ·rw[<-q];exact ah He
     ·cases x:el (en es k).1 s
      ·rfl
      ·have:=qI (AU (ah Fv) q hk2) x;rw[ah He] at this;cases this
    ·simp[intOf];omega
  ·obtain rfl:i=j:=by omega
   have hpl:=Oz (s:=s) hj (ah hlo) (ah hhi);by_cases hl:i<es.length
   ·obtain⟨g,rfl,hg,hc1,hc2⟩:=ah hsl2 i (by omega);obtain⟨f1,f2⟩:=ah ahr (en es i) (La (by omega));have H:=aj (BZ (en es i) s wr f2 hs (few f1) hn);have hha:=aei (es:=es) s (by rw[<-hpl];exact hl);rw[<-hpl] at hha;have Hha:=aj hha;have Hpl:=aj hpl;clear f1 f2 hpl hha;go_wp2_with fail;refine(ah H).mono ?_;rintro e w1 ⟨rfl,hb1⟩;clear hc1 hc2;go_wp2_with fail;go_ret2;refine⟨vT ?_ ?_,ak hb hb1⟩
    ·rw[<-ah Hpl]
    ·rw[ah Hha];rfl
   ·have Hpl:=aj hpl;clear hpl;go_wp2_with fail;go_ret2;refine⟨vT ?_ ?_,hb⟩
    ·rw[<-ah Hpl]
    ·unfold fB;rw[<-ah Hpl];simp[hl]
theorem vU (B p:Nat)(v:Value)(es:List aS)(s:ad)(w:I)(hk:dW o w B p v es)(hg:iC es)(hs:s.size<=140737488355328)(hn:(Pl.toks s).length<=8) :
 Calls prog 256 #[.pointer (some ⟨p,o,none⟩),.string s] w λe w'=>e=.returned (.tuple #[aa (place es s),.bool (fB es s)])/\ai w w':=by
 obtain⟨a,cap,rfl,hsl⟩:=hk.arr.sl;have hc:=hk.cell;go_enter func256,ntmps256;go_wp2_with fail;refine(TS a cap es s _ hsl hg.1 hg.2.1 hg.2.2 hs hn).mono ?_;rintro e w1 ⟨rfl,hb⟩;go_wp2_with fail;go_ret2;exact⟨rfl,hb⟩
def Cb (es:List aS)(s:ad):Int:=if aC false s=0 then (if fB es s then (place es s:Int) else 0) else 0
theorem DR {c d:Int}(h:b=a)(g:d=c):Ending.returned (.tuple #[aa a,aa c])=.returned (.tuple #[aa b,aa d]):=by rw[h,g]
theorem rF (B p:Nat)(v:Value)(es:List aS)(s:ad)(w:I)(hk:dW o w B p v es)(hg:iC es)(hs:s.size<=140737488355328) :
 Calls prog 274 #[.pointer (some ⟨p,o,none⟩),.string s] w λe w'=>e=.returned (.tuple #[aa (Cb es s),aa (zi es s)])/\ai w w':=by
 have Hk:=aj hk;have Hg:=aj hg;clear hk hg;by_cases he:aC false s=0
 ·have hn:=few he;have He:=aj he
  cases hh:fB es s
  all_goals
   have Hl:=aj (show Cb es s=(if aC false s=0 then (if fB es s then (place es s:Int) else 0) else 0) from rfl)
   have Hse:=aj (show zi es s=(if aC false s=0 then (if fB es s then 0 else 4) else aC false s) from rfl)
   rw[hh,he] at Hl Hse
   have Hh:=aj hh
   clear he hh
   go_enter func274,ntmps274
   go_wp2_with fail
   refine(dQ s _ hs).mono ?_
   rintro e w1 ⟨rfl,hb1⟩
   rw[ah He]
   go_wp2_with fail
   refine(vU B p v es s _ ((ah Hk).below hb1) (ah Hg) hs hn).mono ?_
   rintro e w2 ⟨rfl,hb2⟩
   rw[ah Hh]
   go_wp2_with fail
   go_ret2
   exact⟨DR (by rw[ah Hl];simp) (by rw[ah Hse];simp),ak hb1 hb2⟩
 ·have Hl:=aj (show Cb es s=0 by unfold Cb;rw[if_neg he]);have Hse:=aj (show zi es s=aC false s by unfold zi;rw[if_neg he]);go_enter func274,ntmps274;go_wp2_with fail;refine(dQ s _ hs).mono ?_;rintro e w1 ⟨rfl,hb1⟩;go_wp2_with fail;go_ret2;exact⟨DR (ah Hl) (ah Hse),hb1⟩
theorem get_any (B p:Nat)(v:Value)(es:List aS)(s:ad)(w:I)(hk:dW o w B p v es)(hg:iC es)(hs:s.size<=140737488355328) :
 Calls prog 252 #[.pointer (some ⟨p,o,none⟩),.string s] w λe w'=>e=.returned (.tuple #[aa (kT es s),aa (zi es s)])/\ai w w':=by
 have Hk:=aj hk;have Hg:=aj hg;clear hk hg;by_cases h0:zi es s=0
 ·have hh:aC false s=0/\fB es s=true:=by
   unfold zi at h0;split at h0
   ·rename_i he;refine⟨he,?_⟩;split at h0
    ·assumption
    ·omega
   ·rename_i he;exact absurd h0 he
  obtain⟨h1,h2⟩:=uh hh.2;have hl:Cb es s=(place es s:Int):=by unfold Cb;rw[if_pos hh.1,if_pos hh.2]
  have hgn:kT es s=(en es (place es s)).2:=by unfold kT;rw[if_pos hh.1,if_pos hh.2]
  have Hgn:=aj hgn;have Hl:=aj hl;have H0:=aj h0;clear hgn hl h0 hh h2;obtain⟨q,hq⟩:∃q,place es s=q:=⟨_,rfl⟩;rw[hq] at h1 Hl Hgn;clear hq;obtain⟨g,cap,rfl,c1,c2,c3,c4⟩:=(ah Hk).arr.there (by omega);unfold maxLen at c2;go_enter func252,ntmps252;go_wp2_with fail;refine(rF B p _ es s _ (ah Hk) (ah Hg) hs).mono ?_;rintro e w1 ⟨rfl,hb1⟩;rw[ah Hl,ah H0];have k1:=(ah Hk).below hb1;have hc1:=k1.cell;have hc2:=k1.arr.num h1;clear k1;go_wp2_with fail;go_ret2;exact⟨DR (ah Hgn) (ah H0),hb1⟩
 ·have hgn:kT es s=0:=by
   unfold kT;unfold zi at h0;split
   ·rename_i he;rw[if_pos he] at h0;split
    ·rename_i hh;rw[if_pos hh] at h0;exact absurd rfl h0
    ·rfl
   ·rfl
  have Hgn:=aj hgn;clear hgn;go_enter func252,ntmps252;go_wp2_with fail;refine(rF B p v es s _ (ah Hk) (ah Hg) hs).mono ?_;rintro e w1 ⟨rfl,hb1⟩;go_wp2_with fail;go_ret2;exact⟨DR (ah Hgn) rfl,hb1⟩
theorem Cc (B p:Nat)(v:Value)(es:List aS)(w:I)(hk:dW o w B p v es) :
 Calls prog 228 #[.pointer (some ⟨p,o,none⟩)] w λe w'=>e=.returned (aa es.length)/\w'=w:=by
 obtain⟨a,cap,rfl,hsl⟩:=hk.arr.sl;have hc:=hk.cell;clear hk hsl;go_enter func228,ntmps228;go_wp2_with fail;go_ret;exact⟨rfl,rfl⟩
