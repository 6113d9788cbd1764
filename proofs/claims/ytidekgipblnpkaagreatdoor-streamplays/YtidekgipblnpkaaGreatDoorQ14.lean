/- A part. -/
import Derived.Test.YtidekgipblnpkaaGreatDoorQ13
set_option maxRecDepth 100000
set_option maxHeartbeats 8000000
namespace Go.Proofs.YtidekgipblnpkaaGreatDoor
open Go.RowKit Go.Proofs.Tryz
theorem afx (x:ByteArray)(w:World) :
 Calls prog 279 #[.string x] w λe w'=>e=.returned (.bool false)/\w'=w:=by
 go_enter func279,ntmps279;go_wp2;go_ret;exact⟨iC (by simp),rfl⟩
theorem Sr (x y:ByteArray)(w:World) :
 Calls prog 273 #[.string x,.string y] w λe w'=>e=.returned (.int .i64 (ab3 x y))/\w'=w:=by
 cases h1:Op.bytesLess x.toList y.toList<;>cases h2:(x.toList==y.toList)
 all_goals
  have hr:ab3 x y=(if Op.bytesLess x.toList y.toList=true then -1 else if (x.toList==y.toList)=true then 0 else 1):=rfl
  rw[h1,h2] at hr
  simp at hr
  have Hr:=aj hr
  clear hr
  go_enter func273,ntmps273
  go_wp2_with (first|(go_at_call 279;refine(afx _ _).mono ?_;rintro e w' ⟨rfl,rfl⟩))
  go_ret
  exact⟨bV (ah Hr),rfl⟩
theorem acG {f g:List ByteArray}{k:Nat}(hf:k<f.length)(hg:k<g.length):cmpL (f.drop k) (g.drop k)=if ql (tk f k) (tk g k) then cmpL (f.drop (k+1)) (g.drop (k+1)) else if Vo (tk f k) (tk g k) then -1 else 1:=by
 rw[iw hf,iw hg,cmpL]
theorem acH {f g:List ByteArray}{k:Nat}(hf:k<f.length)(hg:¬k<g.length):cmpL (f.drop k) (g.drop k)=1:=by
 have e:g.drop k=[]:=ajI (by omega);rw[iw hf,e,cmpL]
theorem ZN {f g:List ByteArray}{k:Nat}(hf:¬k<f.length)(hg:k<g.length):cmpL (f.drop k) (g.drop k)=-1:=by
 have e:f.drop k=[]:=ajI (by omega);rw[iw hg,e,cmpL]
theorem acI {f g:List ByteArray}{k:Nat}(hf:¬k<f.length)(hg:¬k<g.length):cmpL (f.drop k) (g.drop k)=0:=by
 rw[ajI (by omega),ajI (by omega),cmpL]
theorem acJ (bf bg:Nat)(f g:List ByteArray)(w:World)(hf:Row w bf 0 f)(hg:Row w bg 0 g)(nf:f.length<=8) :
 Calls prog 256 #[.slice (some ⟨bf,0,none⟩) f.length f.length,.slice (some ⟨bg,0,none⟩) g.length g.length] w λe w'=>e=.returned (.int .i64 (cmpL f g))/\w'=w:=by
 have hcf:∀k,k<f.length->w.cell? ⟨bf,k,none⟩=some (.string (tk f k)):=λk hk=>by have:=hf k hk;rwa [ajv] at this
 have hcg:∀k,k<g.length->w.cell? ⟨bg,k,none⟩=some (.string (tk g k)):=λk hk=>by have:=hg k hk;rwa [ajv] at this
 clear hf hg;go_enter func256,ntmps256;go_wp2;go_loop [11] (λi=>∃k:Nat,k<=f.length/\k<=g.length/\i=.int .i64 k/\Hid (cmpL f g=cmpL (f.drop k) (g.drop k))) (λi=>f.length-(intOf i).toNat)
 case atStart=>exact⟨0,ajm _,ajm _,rfl,aj rfl⟩
 case round =>
  obtain⟨k,hk,hk2,rfl,hq⟩:=hrel;by_cases hlt:k<f.length
  ·have hc1:=hcf k hlt;by_cases hlg:k<g.length
   ·have hc2:=hcg k hlg;have Hs:=aj (acG hlt hlg);clear hcf hcg
    cases he:ql (tk f k) (tk g k) with
    | true =>
     have Hc:=aj (ae9 he);have He:=aj he;clear he;go_wp2_with (first|(go_at_call 273;refine(Sr _ _ _).mono ?_;rintro e w' ⟨rfl,rfl⟩;rw[ah Hc]));go_round
     case rel=>exact⟨k+1,by omega,by omega,by go_num,aj (by rw[ah hq,ah Hs,if_pos (ah He)])⟩
     case measure=>simp[intOf];omega
    | false =>
     cases hl:Vo (tk f k) (tk g k)
     all_goals
      have Hc:=aj (show ab3 (tk f k) (tk g k)=(if Vo (tk f k) (tk g k)=true then -1 else if ql (tk f k) (tk g k)=true then 0 else 1) from rfl)
      have Hs2:Hid (cmpL f g=(if Vo (tk f k) (tk g k)=true then -1 else 1)):=aj (by rw[ah hq,ah Hs,if_neg (by rw[he];simp)])
      rw[hl] at Hs2
      rw[hl,he] at Hc
      clear hl he
      go_wp2_with (first|(go_at_call 273;refine(Sr _ _ _).mono ?_;rintro e w' ⟨rfl,rfl⟩;rw[ah Hc];simp only[amg,ant,anq]))
      go_ret
      exact⟨bV (by rw[ah Hs2];simp),rfl⟩
   ·clear hcf hcg;have Hs:=aj (acH hlt hlg);go_wp2;go_ret;exact⟨bV (by rw[ah hq];exact ah Hs),rfl⟩
  ·clear hcf hcg;by_cases hlg:k<g.length
   ·have Hs:=aj (ZN hlt hlg);go_wp2;go_ret;exact⟨bV (by rw[ah hq];exact ah Hs),rfl⟩
   ·have Hs:=aj (acI hlt hlg);go_wp2;go_ret;exact⟨bV (by rw[ah hq];exact ah Hs),rfl⟩
def acK (a b:ByteArray):Int:=cmpL (Pl.aI a) (Pl.aI b)
theorem ZO (a b:ByteArray)(w:World)(ha:a.size<=140737488355328)(hb:b.size<=140737488355328)(na:(Pl.aI a).length<=8)(nb:(Pl.aI b).length<=8) :
 Calls prog 239 #[.string a,.string b] w λe w'=>e=.returned (.int .i64 (acK a b))/\Below w.heap.size w w':=by
 go_enter func239,ntmps239;go_wp2_with fail;refine(BM a _ ha na).mono ?_;rintro e w1 ⟨b1,rfl,h1,h2,h3,h4⟩;go_wp2_with fail;refine(BM b _ hb nb).mono ?_;rintro e w2 ⟨b2,rfl,g1,g2,g3,g4⟩;go_wp2_with fail;refine(acJ b1 b2 _ _ _ (h4.below g3 h2) g4 na).mono ?_;rintro e w3 ⟨rfl,rfl⟩;go_wp2_with fail;go_ret;exact⟨rfl,ak h3 g3⟩
theorem Gi (e:aW)(b:ByteArray)(w:World)(ha:e.1.size<=140737488355328)(hb:b.size<=140737488355328)(na:(Pl.aI e.1).length<=8)(nb:(Pl.aI b).length<=8) :
 Calls prog 238 #[.agg #[.string e.1,.int .i64 e.2],.string b] w λr w'=>r=.returned (.int .i64 (acK e.1 b))/\Below w.heap.size w w':=by
 go_enter func238,ntmps238;go_wp2_with fail;refine(ZO _ b _ ha hb na nb).mono ?_;rintro e w1 ⟨rfl,h1⟩;go_wp2_with fail;go_ret;exact⟨rfl,ak ((ajb _ _).alloc (Xc _) _) h1⟩
theorem Yg (a b:ByteArray):decide (acK a b<0)=el a b:=Rk _ _
theorem G7 {a b:Int}{c d:Bool}(h:b=a)(g:d=c):Ending.returned (.tuple #[.int .i64 a,.bool c])=.returned (.tuple #[.int .i64 b,.bool d]):=by rw[h,g]
def KF (w:World)(a:Option Addr)(es:List aW):Prop:=∀k,k<es.length->∃g,a=some ⟨g,0,none⟩/\g<w.heap.size/\w.cell? ⟨g,k*2,none⟩=some (.string (en es k).1)/\w.cell? ⟨g,k*2+1,none⟩=some (.int .i64 (en es k).2)
theorem aS.sl {w:World}{B:Nat}{v:Value}{es:List aW}(h:aS w B v es):∃a cap,v=.slice a es.length cap/\KF w a es:=by
 rcases als es.length with h0|h0
 ·obtain⟨a,cap,h1,_⟩:=h.shape;exact⟨a,cap,h1,λk hk=>by omega⟩
 ·obtain⟨g,cap,h1,h2,h3,h4,h5⟩:=h.there h0;subst h1;exact⟨_,cap,rfl,λk hk=>⟨g,rfl,h5,h.text hk,h.num hk⟩⟩
theorem KF.below {w w':World}{a:Option Addr}{es:List aW}(h:KF w a es)(hb:Below w.heap.size w w'):KF w' a es:=by
 intro k hk;obtain⟨g,h1,h2,h3,h4⟩:=h k hk;exact⟨g,h1,by have:=hb.size;omega,by rw[hb.cell (p:=⟨g,k*2,none⟩) h2];exact h3,by rw[hb.cell (p:=⟨g,k*2+1,none⟩) h2];exact h4⟩
def Fits (es:List aW):Prop:=∀e∈es,aG false e.1=0/\e.1.size<=140737488355328
theorem VT (a:Option Addr)(cap:Nat)(es:List aW)(s:ByteArray)(w:World)(hsl:KF w a es)(hord:Ord es)(dK:es.length<=100)(hfit:Fits es)(hs:s.size<=140737488355328)(hn:(Pl.aI s).length<=8) :
 Calls prog 237 #[.slice a es.length cap,.string s,.func (.func 238) #[] #[]] w λe w'=>e=.returned (.tuple #[.int .i64 (place es s),.bool (eu es s)])/\Below w.heap.size w w':=by
 have OJ:=aj hord;have ahS:=aj hfit;clear hord hfit;go_enter func237,ntmps237;go_wp2;go_loopw [9,10] (λiv jv wr=>∃(i j:Nat),iv=.int .i64 i/\jv=.int .i64 j/\i<=j/\j<=es.length/\Hid (∀k,k<i->el (en es k).1 s=true)/\Hid (∀k,j<=k->k<es.length->el (en es k).1 s=false)/\Hid (KF wr a es)/\Below w.heap.size w wr) (λiv jv _=>(intOf jv).toNat-(intOf iv).toNat)
 case atStart=>exact⟨0,es.length,rfl,rfl,ajm _,Xc _,aj (λk hk=>absurd hk (ajG k)),aj (λk h1 h2=>by omega),aj hsl,ajb _ _⟩
 case round =>
  obtain⟨i,j,rfl,rfl,hij,hj,hlo,hhi,hsl2,hb⟩:=hrel;by_cases hlt:i<j
  ·obtain⟨h,hh⟩:∃h:Nat,h=(i+j) / 2:=⟨_,rfl⟩;have hh1:i<=h/\h<j:=by omega
   obtain⟨g,rfl,hg,hc1,hc2⟩:=ah hsl2 h (by omega);have hmid:((i:Int)+(j:Int)) / 2=(h:Int):=by omega
   clear hh;obtain⟨f1,f2⟩:=ah ahS (en es h) (BQ (by omega));have H:=aj (Gi (en es h) s wr f2 hs (iW f1) hn);clear f1 f2
   cases he:el (en es h).1 s with
   | true =>
    have hz:acK (en es h).1 s<0:=by rw[<-Yg] at he;simpa using he
    have He:=aj he;clear he;go_wp2_with fail;refine(ah H).mono ?_;rintro e w1 ⟨rfl,hb1⟩;have hc1':=hc1;clear hc1 hc2;go_wp2_with fail;refine⟨⟨h+1,j,by go_num,rfl,by omega,hj,aj (λk hk=>?_),hhi,aj ((ah hsl2).below hb1),ak hb hb1⟩,?_⟩
    ·rcases ajR.1 hk with q|q
     ·exact rO (BR (ah OJ) q (by omega)) (ah He)
     ·rw[q];exact ah He
    ·simp[intOf];omega
   | false =>
    have hz:¬acK (en es h).1 s<0:=by rw[<-Yg] at he;simpa using he
    have He:=aj he;clear he;go_wp2_with fail;refine(ah H).mono ?_;rintro e w1 ⟨rfl,hb1⟩;clear hc1 hc2;go_wp2_with fail;refine⟨⟨i,h,rfl,rfl,by omega,by omega,hlo,aj (λk hk hk2=>?_),aj ((ah hsl2).below hb1),ak hb hb1⟩,?_⟩
    ·rcases akA hk with q|q
     ·rw[<-q];exact ah He
     ·cases x:el (en es k).1 s
      ·rfl
      ·have:=rO (BR (ah OJ) q hk2) x;rw[ah He] at this;cases this
    ·simp[intOf];omega
  ·obtain rfl:i=j:=by omega
   have hpl:=Rl (s:=s) hj (ah hlo) (ah hhi);by_cases hl:i<es.length
   ·obtain⟨g,rfl,hg,hc1,hc2⟩:=ah hsl2 i (by omega);obtain⟨f1,f2⟩:=ah ahS (en es i) (BQ (by omega));have H:=aj (Gi (en es i) s wr f2 hs (iW f1) hn);have hha:=afa (es:=es) s (by rw[<-hpl];exact hl);rw[<-hpl] at hha;have Hha:=aj hha;have Hpl:=aj hpl;clear f1 f2 hpl hha;go_wp2_with fail;refine(ah H).mono ?_;rintro e w1 ⟨rfl,hb1⟩;clear hc1 hc2;go_wp2_with fail;go_ret2;refine⟨G7 ?_ ?_,ak hb hb1⟩
    ·rw[<-ah Hpl]
    ·rw[ah Hha];rfl
   ·have Hpl:=aj hpl;clear hpl;go_wp2_with fail;go_ret2;refine⟨G7 ?_ ?_,hb⟩
    ·rw[<-ah Hpl]
    ·unfold eu;rw[<-ah Hpl];simp[hl]
theorem xK {o:Nat}(B p:Nat)(v:Value)(es:List aW)(s:ByteArray)(w:World)(hk:fB o w B p v es)(hg:gI es)(hs:s.size<=140737488355328)(hn:(Pl.aI s).length<=8) :
 Calls prog 216 #[.pointer (some ⟨p,o,none⟩),.string s] w λe w'=>e=.returned (.tuple #[.int .i64 (place es s),.bool (eu es s)])/\Below w.heap.size w w':=by
 obtain⟨a,cap,rfl,hsl⟩:=hk.arr.sl;have hc:=hk.cell;go_enter func216,ntmps216;go_wp2_with fail;refine(VT a cap es s _ hsl hg.1 hg.2.1 hg.2.2 hs hn).mono ?_;rintro e w1 ⟨rfl,hb⟩;go_wp2_with fail;go_ret2;exact⟨rfl,hb⟩
def Gj (es:List aW)(s:ByteArray):Int:=if aG false s=0 then (if eu es s then (place es s:Int) else 0) else 0
theorem uw {a b c d:Int}(h:b=a)(g:d=c):Ending.returned (.tuple #[.int .i64 a,.int .i64 c])=.returned (.tuple #[.int .i64 b,.int .i64 d]):=by rw[h,g]
theorem uy {o:Nat}(B p:Nat)(v:Value)(es:List aW)(s:ByteArray)(w:World)(hk:fB o w B p v es)(hg:gI es)(hs:s.size<=140737488355328) :
 Calls prog 240 #[.pointer (some ⟨p,o,none⟩),.string s] w λe w'=>e=.returned (.tuple #[.int .i64 (Gj es s),.int .i64 (qK es s)])/\Below w.heap.size w w':=by
 have Hk:=aj hk;have Hg:=aj hg;clear hk hg;by_cases he:aG false s=0
 ·have hn:=iW he;have He:=aj he
  cases hh:eu es s
  all_goals
   have Hl:=aj (show Gj es s=(if aG false s=0 then (if eu es s then (place es s:Int) else 0) else 0) from rfl)
   have Hse:=aj (show qK es s=(if aG false s=0 then (if eu es s then 0 else 4) else aG false s) from rfl)
   rw[hh,he] at Hl Hse
   have Hh:=aj hh
   clear he hh
   go_enter func240,ntmps240
   go_wp2_with fail
   refine(fU s _ hs).mono ?_
   rintro e w1 ⟨rfl,hb1⟩
   rw[ah He]
   go_wp2_with fail
   refine(xK B p v es s _ ((ah Hk).below hb1) (ah Hg) hs hn).mono ?_
   rintro e w2 ⟨rfl,hb2⟩
   rw[ah Hh]
   go_wp2_with fail
   go_ret2
   exact⟨uw (by rw[ah Hl];simp) (by rw[ah Hse];simp),ak hb1 hb2⟩
 ·have Hl:=aj (show Gj es s=0 by unfold Gj;rw[if_neg he]);have Hse:=aj (show qK es s=aG false s by unfold qK;rw[if_neg he]);go_enter func240,ntmps240;go_wp2_with fail;refine(fU s _ hs).mono ?_;rintro e w1 ⟨rfl,hb1⟩;go_wp2_with fail;go_ret2;exact⟨uw (ah Hl) (ah Hse),hb1⟩
theorem afy {o:Nat}(B p:Nat)(v:Value)(es:List aW)(s:ByteArray)(w:World)(hk:fB o w B p v es)(hg:gI es)(hs:s.size<=140737488355328) :
 Calls prog 217 #[.pointer (some ⟨p,o,none⟩),.string s] w λe w'=>e=.returned (.tuple #[.int .i64 (jA es s),.int .i64 (qK es s)])/\Below w.heap.size w w':=by
 have Hk:=aj hk;have Hg:=aj hg;clear hk hg;by_cases h0:qK es s=0
 ·have hh:aG false s=0/\eu es s=true:=by
   unfold qK at h0;split at h0
   ·rename_i he;refine⟨he,?_⟩;split at h0
    ·assumption
    ·omega
   ·rename_i he;exact absurd h0 he
  obtain⟨h1,h2⟩:=qJ hh.2;have hl:Gj es s=(place es s:Int):=by unfold Gj;rw[if_pos hh.1,if_pos hh.2]
  have hgn:jA es s=(en es (place es s)).2:=by unfold jA;rw[if_pos hh.1,if_pos hh.2]
  have Hgn:=aj hgn;have Hl:=aj hl;have H0:=aj h0;clear hgn hl h0 hh h2;obtain⟨q,hq⟩:∃q,place es s=q:=⟨_,rfl⟩;rw[hq] at h1 Hl Hgn;clear hq;obtain⟨g,cap,rfl,c1,c2,c3,c4⟩:=(ah Hk).arr.there (by omega);unfold maxLen at c2;go_enter func217,ntmps217;go_wp2_with fail;refine(uy B p _ es s _ (ah Hk) (ah Hg) hs).mono ?_;rintro e w1 ⟨rfl,hb1⟩;rw[ah Hl,ah H0];have k1:=(ah Hk).below hb1;have hc1:=k1.cell;have hc2:=k1.arr.num h1;clear k1;go_wp2_with fail;go_ret2;exact⟨uw (ah Hgn) (ah H0),hb1⟩
 ·have hgn:jA es s=0:=by
   unfold jA;unfold qK at h0;split
   ·rename_i he;rw[if_pos he] at h0;split
    ·rename_i hh;rw[if_pos hh] at h0;exact absurd rfl h0
    ·rfl
   ·rfl
  have Hgn:=aj hgn;clear hgn;go_enter func217,ntmps217;go_wp2_with fail;refine(uy B p v es s _ (ah Hk) (ah Hg) hs).mono ?_;rintro e w1 ⟨rfl,hb1⟩;go_wp2_with fail;go_ret2;exact⟨uw (ah Hgn) rfl,hb1⟩
theorem Gl {o:Nat}(B p:Nat)(v:Value)(es:List aW)(w:World)(hk:fB o w B p v es) :
 Calls prog 209 #[.pointer (some ⟨p,o,none⟩)] w λe w'=>e=.returned (.int .i64 es.length)/\w'=w:=by
 obtain⟨a,cap,rfl,hsl⟩:=hk.arr.sl;have hc:=hk.cell;clear hk hsl;go_enter func209,ntmps209;go_wp2_with fail;go_ret;exact⟨rfl,rfl⟩
