/- A part. -/
import Derived.Test.YtmhbobnfmncdbaaGreatDoorQ8
set_option maxRecDepth 100000
set_option maxHeartbeats 8000000
namespace Go.Proofs.YtmhbobnfmncdbaaGreatDoor
open Go.RowKit Go.Proofs.Tryz
theorem QM (x:ByteArray)(w:World) :
 Calls prog 192 #[.string x] w λe w'=>e=.returned (.bool false)/\w'=w:=by
 go_enter func192,ntmps192;go_wp2;go_ret;exact⟨jf (by simp),rfl⟩
theorem Dl (x y:ByteArray)(w:World) :
 Calls prog 179 #[.string x,.string y] w λe w'=>e=.returned (.int .i64 (LM x y))/\w'=w:=by
 cases h1:Op.bytesLess x.toList y.toList<;>cases h2:(x.toList==y.toList)
 all_goals
  have hr:LM x y=(if Op.bytesLess x.toList y.toList=true then -1 else if (x.toList==y.toList)=true then 0 else 1):=rfl
  rw[h1,h2] at hr
  simp at hr
  have Hr:=aj hr
  clear hr
  go_enter func179,ntmps179
  go_wp2_with (first|(go_at_call 192;refine(QM _ _).mono ?_;rintro e w' ⟨rfl,rfl⟩))
  go_ret
  exact⟨bV (ah Hr),rfl⟩
theorem Ny {f g:List ByteArray}{k:Nat}(hf:k<f.length)(hg:k<g.length):cmpL (f.drop k) (g.drop k)=if oU (tk f k) (tk g k) then cmpL (f.drop (k+1)) (g.drop (k+1)) else if Gz (tk f k) (tk g k) then -1 else 1:=by
 rw[fJ hf,fJ hg,cmpL]
theorem Nz {f g:List ByteArray}{k:Nat}(hf:k<f.length)(hg:¬k<g.length):cmpL (f.drop k) (g.drop k)=1:=by
 have e:g.drop k=[]:=List.drop_of_length_le (by omega);rw[fJ hf,e,cmpL]
theorem JF {f g:List ByteArray}{k:Nat}(hf:¬k<f.length)(hg:k<g.length):cmpL (f.drop k) (g.drop k)=-1:=by
 have e:f.drop k=[]:=List.drop_of_length_le (by omega);rw[fJ hg,e,cmpL]
theorem ND {f g:List ByteArray}{k:Nat}(hf:¬k<f.length)(hg:¬k<g.length):cmpL (f.drop k) (g.drop k)=0:=by
 rw[List.drop_of_length_le (by omega),List.drop_of_length_le (by omega),cmpL]
theorem NG (bf bg:Nat)(f g:List ByteArray)(w:World)(hf:Row w bf 0 f)(hg:Row w bg 0 g)(nf:f.length<=8) :
 Calls prog 167 #[.slice (some ⟨bf,0,none⟩) f.length f.length,.slice (some ⟨bg,0,none⟩) g.length g.length] w λe w'=>e=.returned (.int .i64 (cmpL f g))/\w'=w:=by
 have hcf:∀k,k<f.length->w.cell? ⟨bf,k,none⟩=some (.string (tk f k)):=λk hk=>by have:=hf k hk;rwa [Nat.zero_add] at this
 have hcg:∀k,k<g.length->w.cell? ⟨bg,k,none⟩=some (.string (tk g k)):=λk hk=>by have:=hg k hk;rwa [Nat.zero_add] at this
 clear hf hg;go_enter func167,ntmps167;go_wp2;go_loop [11] (λi=>∃k:Nat,k<=f.length/\k<=g.length/\i=.int .i64 k/\Hid (cmpL f g=cmpL (f.drop k) (g.drop k))) (λi=>f.length-(intOf i).toNat)
 case atStart=>exact⟨0,Nat.zero_le _,Nat.zero_le _,rfl,aj rfl⟩
 case round =>
  obtain⟨k,hk,hk2,rfl,hq⟩:=hrel;by_cases hlt:k<f.length
  ·have hc1:=hcf k hlt;by_cases VD:k<g.length
   ·have hc2:=hcg k VD;have Hs:=aj (Ny hlt VD);clear hcf hcg
    cases he:oU (tk f k) (tk g k) with
    | true =>
     have Hc:=aj (Qj he);have He:=aj he;clear he;go_wp2_with (first|(go_at_call 179;refine(Dl _ _ _).mono ?_;rintro e w' ⟨rfl,rfl⟩;rw[ah Hc]));go_round
     case rel=>exact⟨k+1,by omega,by omega,by go_num,aj (by rw[ah hq,ah Hs,if_pos (ah He)])⟩
     case measure=>simp[intOf];omega
    | false =>
     cases hl:Gz (tk f k) (tk g k)
     all_goals
      have Hc:=aj (show LM (tk f k) (tk g k)=(if Gz (tk f k) (tk g k)=true then -1 else if oU (tk f k) (tk g k)=true then 0 else 1) from rfl)
      have Hs2:Hid (cmpL f g=(if Gz (tk f k) (tk g k)=true then -1 else 1)):=aj (by rw[ah hq,ah Hs,if_neg (by rw[he];simp)])
      rw[hl] at Hs2
      rw[hl,he] at Hc
      clear hl he
      go_wp2_with (first|(go_at_call 179;refine(Dl _ _ _).mono ?_;rintro e w' ⟨rfl,rfl⟩;rw[ah Hc];simp only[Bool.false_eq_true,if_false,if_true]))
      go_ret
      exact⟨bV (by rw[ah Hs2];simp),rfl⟩
   ·clear hcf hcg;have Hs:=aj (Nz hlt VD);go_wp2;go_ret;exact⟨bV (by rw[ah hq];exact ah Hs),rfl⟩
  ·clear hcf hcg;by_cases VD:k<g.length
   ·have Hs:=aj (JF hlt VD);go_wp2;go_ret;exact⟨bV (by rw[ah hq];exact ah Hs),rfl⟩
   ·have Hs:=aj (ND hlt VD);go_wp2;go_ret;exact⟨bV (by rw[ah hq];exact ah Hs),rfl⟩
def NH (a b:ByteArray):Int:=cmpL (Pl.toks a) (Pl.toks b)
theorem JG (a b:ByteArray)(w:World)(ha:a.size<=140737488355328)(hb:b.size<=140737488355328)(na:(Pl.toks a).length<=8)(nb:(Pl.toks b).length<=8) :
 Calls prog 151 #[.string a,.string b] w λe w'=>e=.returned (.int .i64 (NH a b))/\Below w.heap.size w w':=by
 go_enter func151,ntmps151;go_wp2_with fail;refine(rG a _ ha na).mono ?_;rintro e w1 ⟨b1,rfl,h1,h2,h3,h4⟩;go_wp2_with fail;refine(rG b _ hb nb).mono ?_;rintro e w2 ⟨b2,rfl,g1,g2,g3,g4⟩;go_wp2_with fail;refine(NG b1 b2 _ _ _ (h4.below g3 h2) g4 na).mono ?_;rintro e w3 ⟨rfl,rfl⟩;go_wp2_with fail;go_ret;exact⟨rfl,ay h3 g3⟩
theorem sZ (e:aN)(b:ByteArray)(w:World)(ha:e.1.size<=140737488355328)(hb:b.size<=140737488355328)(na:(Pl.toks e.1).length<=8)(nb:(Pl.toks b).length<=8) :
 Calls prog 150 #[.agg #[.string e.1,.int .i64 e.2],.string b] w λr w'=>r=.returned (.int .i64 (NH e.1 b))/\Below w.heap.size w w':=by
 go_enter func150,ntmps150;go_wp2_with fail;refine(JG _ b _ ha hb na nb).mono ?_;rintro e w1 ⟨rfl,h1⟩;go_wp2_with fail;go_ret;exact⟨rfl,ay ((Below.refl _ _).alloc (Nat.le_refl _) _) h1⟩
theorem H9 (a b:ByteArray):decide (NH a b<0)=el a b:=BR _ _
theorem nX {a b:Int}{c d:Bool}(h:b=a)(g:d=c):Ending.returned (.tuple #[.int .i64 a,.bool c])=.returned (.tuple #[.int .i64 b,.bool d]):=by rw[h,g]
def Sl (w:World)(a:Option Addr)(es:List aN):Prop:=∀k,k<es.length->∃g,a=some ⟨g,0,none⟩/\g<w.heap.size/\w.cell? ⟨g,k*2,none⟩=some (.string (en es k).1)/\w.cell? ⟨g,k*2+1,none⟩=some (.int .i64 (en es k).2)
theorem jr.sl {w:World}{B:Nat}{v:Value}{es:List aN}(h:jr w B v es):∃a cap,v=.slice a es.length cap/\Sl w a es:=by
 rcases Nat.eq_zero_or_pos es.length with h0|h0
 ·obtain⟨a,cap,h1,_⟩:=h.shape;exact⟨a,cap,h1,λk hk=>by omega⟩
 ·obtain⟨g,cap,h1,h2,h3,h4,h5⟩:=h.there h0;subst h1;exact⟨_,cap,rfl,λk hk=>⟨g,rfl,h5,h.text hk,h.num hk⟩⟩
theorem Sl.below {w w':World}{a:Option Addr}{es:List aN}(h:Sl w a es)(hb:Below w.heap.size w w'):Sl w' a es:=by
 intro k hk;obtain⟨g,h1,h2,h3,h4⟩:=h k hk;exact⟨g,h1,by have:=hb.size;omega,by rw[hb.cell (p:=⟨g,k*2,none⟩) h2];exact h3,by rw[hb.cell (p:=⟨g,k*2+1,none⟩) h2];exact h4⟩
def Fits (es:List aN):Prop:=∀e∈es,aB false e.1=0/\e.1.size<=140737488355328
theorem EW (a:Option Addr)(cap:Nat)(es:List aN)(s:ByteArray)(w:World)(hsl:Sl w a es)(hord:Ord es)(iT:es.length<=100)(hfit:Fits es)(hs:s.size<=140737488355328)(hn:(Pl.toks s).length<=8) :
 Calls prog 149 #[.slice a es.length cap,.string s,.func (.func 150) #[] #[]] w λe w'=>e=.returned (.tuple #[.int .i64 (place es s),.bool (bW es s)])/\Below w.heap.size w w':=by
 have wo:=aj hord;have WV:=aj hfit;clear hord hfit;go_enter func149,ntmps149;go_wp2;go_loopw [9,10] (λiv jv wr=>∃(i j:Nat),iv=.int .i64 i/\jv=.int .i64 j/\i<=j/\j<=es.length/\Hid (∀k,k<i->el (en es k).1 s=true)/\Hid (∀k,j<=k->k<es.length->el (en es k).1 s=false)/\Hid (Sl wr a es)/\Below w.heap.size w wr) (λiv jv _=>(intOf jv).toNat-(intOf iv).toNat)
 case atStart=>exact⟨0,es.length,rfl,rfl,Nat.zero_le _,Nat.le_refl _,aj (λk hk=>absurd hk (Nat.not_lt_zero k)),aj (λk h1 h2=>by omega),aj hsl,Below.refl _ _⟩
 case round =>
  obtain⟨i,j,rfl,rfl,hij,hj,hlo,hhi,hsl2,hb⟩:=hrel;by_cases hlt:i<j
  ·obtain⟨h,hh⟩:∃h:Nat,h=(i+j) / 2:=⟨_,rfl⟩;have hh1:i<=h/\h<j:=by omega
   obtain⟨g,rfl,hg,hc1,hc2⟩:=ah hsl2 h (by omega);have hmid:((i:Int)+(j:Int)) / 2=(h:Int):=by omega
   clear hh;obtain⟨f1,f2⟩:=ah WV (en es h) (EF (by omega));have H:=aj (sZ (en es h) s wr f2 hs (few f1) hn);clear f1 f2
   cases he:el (en es h).1 s with
   | true =>
    have hz:NH (en es h).1 s<0:=by rw[<-H9] at he;simpa using he
    have He:=aj he;clear he;go_wp2_with fail;refine(ah H).mono ?_;rintro e w1 ⟨rfl,hb1⟩;have hc1':=hc1;clear hc1 hc2;go_wp2_with fail;refine⟨⟨h+1,j,by go_num,rfl,by omega,hj,aj (λk hk=>?_),hhi,aj ((ah hsl2).below hb1),ay hb hb1⟩,?_⟩
    ·rcases Nat.lt_succ_iff_lt_or_eq.1 hk with q|q
     ·exact jU (rM (ah wo) q (by omega)) (ah He)
     ·rw[q];exact ah He
    ·simp[intOf];omega
   | false =>
    have hz:¬NH (en es h).1 s<0:=by rw[<-H9] at he;simpa using he
    have He:=aj he;clear he;go_wp2_with fail;refine(ah H).mono ?_;rintro e w1 ⟨rfl,hb1⟩;clear hc1 hc2;go_wp2_with fail;refine⟨⟨i,h,rfl,rfl,by omega,by omega,hlo,aj (λk hk hk2=>?_),aj ((ah hsl2).below hb1),ay hb hb1⟩,?_⟩
    ·rcases Nat.eq_or_lt_of_le hk with q|q
     ·rw[<-q];exact ah He
     ·cases x:el (en es k).1 s
      ·rfl
      ·have:=jU (rM (ah wo) q hk2) x;rw[ah He] at this;cases this
    ·simp[intOf];omega
  ·obtain rfl:i=j:=by omega
   have hpl:=BU (s:=s) hj (ah hlo) (ah hhi);by_cases hl:i<es.length
   ·obtain⟨g,rfl,hg,hc1,hc2⟩:=ah hsl2 i (by omega);obtain⟨f1,f2⟩:=ah WV (en es i) (EF (by omega));have H:=aj (sZ (en es i) s wr f2 hs (few f1) hn);have hha:=Qk (es:=es) s (by rw[<-hpl];exact hl);rw[<-hpl] at hha;have WW:=aj hha;have Hpl:=aj hpl;clear f1 f2 hpl hha;go_wp2_with fail;refine(ah H).mono ?_;rintro e w1 ⟨rfl,hb1⟩;clear hc1 hc2;go_wp2_with fail;go_ret2;refine⟨nX ?_ ?_,ay hb hb1⟩
    ·rw[<-ah Hpl]
    ·rw[ah WW];rfl
   ·have Hpl:=aj hpl;clear hpl;go_wp2_with fail;go_ret2;refine⟨nX ?_ ?_,hb⟩
    ·rw[<-ah Hpl]
    ·unfold bW;rw[<-ah Hpl];simp[hl]
theorem Ya {es:List aN}(h:Good es):Fits es:=h.2.2
theorem nY {o:Nat}(B p:Nat)(v:Value)(es:List aN)(s:ByteArray)(w:World)(hk:dA o w B p v es)(hg:Good es)(hs:s.size<=140737488355328)(hn:(Pl.toks s).length<=8) :
 Calls prog 121 #[.pointer (some ⟨p,o,none⟩),.string s] w λe w'=>e=.returned (.tuple #[.int .i64 (place es s),.bool (bW es s)])/\Below w.heap.size w w':=by
 obtain⟨a,cap,rfl,hsl⟩:=hk.arr.sl;have hc:=hk.cell;go_enter func121,ntmps121;go_wp2_with fail;refine(EW a cap es s _ hsl hg.1 hg.2.1 hg.2.2 hs hn).mono ?_;rintro e w1 ⟨rfl,hb⟩;go_wp2_with fail;go_ret2;exact⟨rfl,hb⟩
def tq (es:List aN)(s:ByteArray):Int:=if aB false s=0 then (if bW es s then (place es s:Int) else 0) else 0
theorem uw {a b c d:Int}(h:b=a)(g:d=c):Ending.returned (.tuple #[.int .i64 a,.int .i64 c])=.returned (.tuple #[.int .i64 b,.int .i64 d]):=by rw[h,g]
theorem lq {o:Nat}(B p:Nat)(v:Value)(es:List aN)(s:ByteArray)(w:World)(hk:dA o w B p v es)(hg:Good es)(hs:s.size<=140737488355328) :
 Calls prog 154 #[.pointer (some ⟨p,o,none⟩),.string s] w λe w'=>e=.returned (.tuple #[.int .i64 (tq es s),.int .i64 (oZ es s)])/\Below w.heap.size w w':=by
 have Hk:=aj hk;have Hg:=aj hg;clear hk hg;by_cases he:aB false s=0
 ·have hn:=few he;have He:=aj he
  cases hh:bW es s
  all_goals
   have Hl:=aj (show tq es s=(if aB false s=0 then (if bW es s then (place es s:Int) else 0) else 0) from rfl)
   have Yb:=aj (show oZ es s=(if aB false s=0 then (if bW es s then 0 else 4) else aB false s) from rfl)
   rw[hh,he] at Hl Yb
   have Hh:=aj hh
   clear he hh
   go_enter func154,ntmps154
   go_wp2_with fail
   refine(cO s _ hs).mono ?_
   rintro e w1 ⟨rfl,hb1⟩
   rw[ah He]
   go_wp2_with fail
   refine(nY B p v es s _ ((ah Hk).below hb1) (ah Hg) hs hn).mono ?_
   rintro e w2 ⟨rfl,hb2⟩
   rw[ah Hh]
   go_wp2_with fail
   go_ret2
   exact⟨uw (by rw[ah Hl];simp) (by rw[ah Yb];simp),ay hb1 hb2⟩
 ·have Hl:=aj (show tq es s=0 by unfold tq;rw[if_neg he]);have Yb:=aj (show oZ es s=aB false s by unfold oZ;rw[if_neg he]);go_enter func154,ntmps154;go_wp2_with fail;refine(cO s _ hs).mono ?_;rintro e w1 ⟨rfl,hb1⟩;go_wp2_with fail;go_ret2;exact⟨uw (ah Hl) (ah Yb),hb1⟩
theorem get_any {o:Nat}(B p:Nat)(v:Value)(es:List aN)(s:ByteArray)(w:World)(hk:dA o w B p v es)(hg:Good es)(hs:s.size<=140737488355328) :
 Calls prog 124 #[.pointer (some ⟨p,o,none⟩),.string s] w λe w'=>e=.returned (.tuple #[.int .i64 (gU es s),.int .i64 (oZ es s)])/\Below w.heap.size w w':=by
 have Hk:=aj hk;have Hg:=aj hg;clear hk hg;by_cases h0:oZ es s=0
 ·have hh:aB false s=0/\bW es s=true:=by
   unfold oZ at h0;split at h0
   ·rename_i he;refine⟨he,?_⟩;split at h0
    ·assumption
    ·omega
   ·rename_i he;exact absurd h0 he
  obtain⟨h1,h2⟩:=mM hh.2;have hl:tq es s=(place es s:Int):=by unfold tq;rw[if_pos hh.1,if_pos hh.2]
  have hgn:gU es s=(en es (place es s)).2:=by unfold gU;rw[if_pos hh.1,if_pos hh.2]
  have Yc:=aj hgn;have Hl:=aj hl;have H0:=aj h0;clear hgn hl h0 hh h2;obtain⟨q,hq⟩:∃q,place es s=q:=⟨_,rfl⟩;rw[hq] at h1 Hl Yc;clear hq;obtain⟨g,cap,rfl,c1,c2,c3,c4⟩:=(ah Hk).arr.there (by omega);unfold maxLen at c2;go_enter func124,ntmps124;go_wp2_with fail;refine(lq B p _ es s _ (ah Hk) (ah Hg) hs).mono ?_;rintro e w1 ⟨rfl,hb1⟩;rw[ah Hl,ah H0];have k1:=(ah Hk).below hb1;have hc1:=k1.cell;have hc2:=k1.arr.num h1;clear k1;go_wp2_with fail;go_ret2;exact⟨uw (ah Yc) (ah H0),hb1⟩
 ·have hgn:gU es s=0:=by
   unfold gU;unfold oZ at h0;split
   ·rename_i he;rw[if_pos he] at h0;split
    ·rename_i hh;rw[if_pos hh] at h0;exact absurd rfl h0
    ·rfl
   ·rfl
  have Yc:=aj hgn;clear hgn;go_enter func124,ntmps124;go_wp2_with fail;refine(lq B p v es s _ (ah Hk) (ah Hg) hs).mono ?_;rintro e w1 ⟨rfl,hb1⟩;go_wp2_with fail;go_ret2;exact⟨uw (ah Yc) rfl,hb1⟩
theorem count_any {o:Nat}(B p:Nat)(v:Value)(es:List aN)(w:World)(hk:dA o w B p v es) :
 Calls prog 120 #[.pointer (some ⟨p,o,none⟩)] w λe w'=>e=.returned (.int .i64 es.length)/\w'=w:=by
 obtain⟨a,cap,rfl,hsl⟩:=hk.arr.sl;have hc:=hk.cell;clear hk hsl;go_enter func120,ntmps120;go_wp2_with fail;go_ret;exact⟨rfl,rfl⟩
theorem VE (w:World)(B:Nat)(t:TypeId)(hB:B<=w.heap.size):Keeps (w.alloc (.cells #[.slice none 0 0] t)) B w.heap.size (.slice none 0 0) [] :=
 ⟨by simp,by simp,hB,by simp,jr.empty _ _,by simp[Value.ownBlock]⟩
namespace Dk
def Made (SH:World->Nat->Nat->(Nat->Prop)->bD->Prop)(w wr:World)(q:Nat)(s:bD):Prop:=∃F,SH wr w.heap.size q F s/\Below w.heap.size w wr
section
variable {SH:World->Nat->Nat->(Nat->Prop)->bD->Prop}{w wr w':World}{q:Nat}{s s':bD}
theorem Made.room (h:Made SH w wr q s):w.heap.size<=wr.heap.size:=by
 obtain⟨F,_,h2⟩:=h;exact h2.size
theorem Made.below (H:aQ SH)(h:Made SH w wr q s)(hb:Below wr.heap.size wr w'):Made SH w w' q s:=by
 have hr:=h.room;obtain⟨F,h1,h2⟩:=h;exact⟨F,H.aT (A:=λ_=>False) h1 (aA.of_below hb) (λ_ _ z=>z),h2.trans (hb.mono hr)⟩
theorem Made.did (H:aQ SH)(h:Made SH w wr q s){fn:FuncId}{args:Array Value}{Q:Ending->World->Prop}
 (hc:∀F,SH wr w.heap.size q F s->Calls prog fn args wr λe w'=>Q e w'/\Mc SH wr w' w.heap.size q F s') :
 Calls prog fn args wr λe w'=>Q e w'/\Made SH w w' q s':=by
 have hr:=h.room;obtain⟨F,h1,h2⟩:=h;refine(hc F h1).mono ?_;rintro e w' ⟨hq,F',a1,a2,_⟩;exact⟨hq,F',a1,h2.trans (a2.below hr (λk hk z=>by have:=(H.own h1 k z).1;omega))⟩
end
def fG (l:List Rc):bD:=l.foldl gV ⟨[],0⟩
theorem JH {l:List Rc}{k:Nat}(h:k<l.length):fG (l.take (k+1))=gV (fG (l.take k)) (rc l k):=by
 unfold fG;rw[List.take_succ_eq_append_getElem h,List.foldl_append,dF h];rfl
theorem VF (l:List Rc)(r:Rc):fG (l++[r])=gV (fG l) r:=by
 unfold fG;rw[List.foldl_append];rfl
theorem Dn:∀(l:List Rc) {s:bD},s.Ok->(l.foldl gV s).Ok
 | [],_,h=>h
 | r::l,_,h=>Dn l (h.apply r)
theorem Ag (l:List Rc):(fG l).Ok:=Dn l bD.Ok.nil
theorem wu {SH:World->Nat->Nat->(Nat->Prop)->bD->Prop}(H:aQ SH)(l:List Rc)(a:Option Addr)(c:Nat)(w:World)(hsl:ug w a l)(hsm:∀k,k<l.length->Small (rc l k))(hl:l.length<=200000) :
 Calls prog 26 #[.slice a l.length c] w λe w'=>∃q,e=.returned (.pointer (some ⟨q,0,none⟩))/\Made SH w w' q (fG l):=by
 have QN:=aj hsl;have HM:=aj hsm;clear hsl hsm;go_enter func26,ntmps26;go_wp2_with fail;refine(H.new w).mono ?_;rintro e w1 ⟨q,F,rfl,h1,b1⟩;have M1:Hid (Made SH w w1 q (fG (l.take 0))):=aj ⟨F,h1,b1⟩;clear h1 b1;go_wp2_with fail;go_loopw [9] (λiv wr=>∃(k:Nat),iv=.int .i64 k/\k<=l.length/\Hid (Made SH w wr q (fG (l.take k)))) (λiv _=>l.length-(intOf iv).toNat)
 case atStart=>exact⟨0,rfl,Nat.zero_le _,M1⟩
 case round =>
  clear M1;obtain⟨k,rfl,hkl,M2⟩:=hrel;by_cases hlt:k<l.length
  ·obtain⟨ga,o,rfl,s6⟩:=ah QN k hlt;have s7:Six wr ga (o+k*6) (rc l k):=by
    obtain⟨F,_,hb⟩:=ah M2;exact s6.below hb s6.lt
   have hsm:=ah HM k hlt;have hft:=JH hlt;obtain⟨r,hr⟩:∃r,r=rc l k:=⟨_,rfl⟩;rw[<-hr] at s7 hsm hft;obtain⟨_,x0,x1,x2,x3,x4,x5⟩:=s7;have M3:=aj ((ah M2).below H ((Below.refl _ _).alloc (Nat.le_refl _) (.cells #[.int .i64 r.k,.int .i64 r.q,.int .i64 r.t,.string r.s,.string r.h,.string r.d] 33)));have PA:=aj ((ah M3).did H (λF hF=>H.apply r hsm hF (Ag _) (ah M3).room));rw[<-hft] at PA;clear hr hft s6 M2 M3;go_wp2_with fail;refine(ah PA).mono ?_;rintro e w4 ⟨rfl,m4⟩;have M4:=aj m4;clear m4 PA x0 x1 x2 x3 x4 x5;go_wp2_with fail;refine⟨⟨k+1,by go_num,by omega,M4⟩,?_⟩
   simp[intOf];omega
  ·obtain rfl:k=l.length:=by omega
   have M3:Hid (Made SH w wr q (fG l)):=by
    have:=M2;rw[List.take_length] at this;exact this
   clear M2 hlt;go_wp2_with fail;go_ret;exact⟨q,rfl,ah M3⟩
