/- A part. -/
import Derived.Test.YtidekgipblnpkaaGreatDoorQ46
import Derived.Test.YtidekgipblnpkaaGreatDoorQ48
import Derived.Test.YtidekgipblnpkaaGreatDoorQ49
set_option maxRecDepth 100000
set_option maxHeartbeats 8000000
namespace Go.Proofs.YtidekgipblnpkaaGreatDoor
open Go.RowKit Go.Proofs.Tryz
namespace Dk
structure sO (RH:World->Nat->Nat->(Nat->Prop)->Pn.cu->Int->Int->dW->Prop):Prop where
 erase:∀{w B p F P m size st} (q:Int),RH w B p F P m size st->Fit P m size st->B<=w.heap.size->Calls prog 32 #[.pointer (some ⟨p,0,none⟩),.int .i64 q] w λe w'=>e=.returned (.int .i64 (iJ st.es st.s m size (bT q 0)))/\uV RH w w' B p F P m size (pX m size st (bT q 0))
 MF:∀{w B p F P m size st} (f:ByteArray) (below:Int),f.size<=140737488355328->RH w B p F P m size st->Fit P m size st->B<=w.heap.size->Calls prog 34 #[.pointer (some ⟨p,0,none⟩),.string f,.int .i64 below] w λe w'=>e=.returned (.tuple #[.int .i64 (xI m size f below st).1.1,.int .i64 (xI m size f below st).1.2])/\uV RH w w' B p F P m size (xI m size f below st).2
 age:∀{w B p F P m size st} (now:Int),RH w B p F P m size st->Fit P m size st->B<=w.heap.size->Calls prog 36 #[.pointer (some ⟨p,0,none⟩),.int .i64 now] w λe w'=>e=.returned (.tuple #[.int .i64 (jc P m size now st).1.1,.int .i64 (jc P m size now st).1.2])/\uV RH w w' B p F P m size (jc P m size now st).2
 Ak:∀{w B p F P m size st},RH w B p F P m size st->Fit P m size st->B<=w.heap.size->Calls prog 38 #[.pointer (some ⟨p,0,none⟩)] w λe w'=>e=.returned (.int .i64 (rX st.es st.s m size))/\uV RH w w' B p F P m size ⟨lT st.es st.s m size,st.s,st.ids⟩
 plan:∀{w B p F P m size st},RH w B p F P m size st->P.f.length<=100->Calls prog 16 #[.pointer (some ⟨p,0,none⟩)] w λe w'=>∃a' c',e=.returned (Jh P a' c')/\nZ w' a' P.f/\P.f.length<=c'/\Below w.heap.size w w'
section
variable {Has:World->Nat->Nat->(Nat->Prop)->Int->List ay->Prop}{SH:World->Nat->Nat->(Nat->Prop)->aJ->Prop}
theorem aem (U:vC Has SH):sO (RHx Has SH) where
 erase:=λq h hf _=>by
  obtain⟨B0,h1,h2,h3⟩:=h;obtain⟨a,c,mb,r,hfin⟩:=h3.begin;refine(Um U r hf h2 q).mono ?_;rintro e w' ⟨he,r',_⟩;exact⟨he,RHx.did (hfin _ _ _ _ r') h1 h2⟩
 MF:=λf below hs h hf _=>by
  obtain⟨B0,h1,h2,h3⟩:=h;obtain⟨a,c,mb,r,hfin⟩:=h3.begin;refine(Un U r hf h2 f hs below).mono ?_;rintro e w' ⟨he,r',_⟩;exact⟨he,RHx.did (hfin _ _ _ _ r') h1 h2⟩
 age:=λnow h hf _=>by
  obtain⟨B0,h1,h2,h3⟩:=h;obtain⟨a,c,mb,r,hfin⟩:=h3.begin;refine(aec U r hf h2 now).mono ?_;rintro e w' ⟨he,r',_⟩;exact⟨he,RHx.did (hfin _ _ _ _ r') h1 h2⟩
 Ak:=λh hf _=>by
  obtain⟨B0,h1,h2,h3⟩:=h;obtain⟨a,c,mb,r,hfin⟩:=h3.begin;refine(Qa U r hf h2).mono ?_;rintro e w' ⟨he,r',_⟩;exact⟨he,RHx.did (hfin _ _ _ _ r') h1 h2⟩
 plan:=λh hl=>by
  obtain⟨B0,h1,h2,h3⟩:=h;obtain⟨a,c,mb,r,hfin⟩:=h3.begin;exact aaY r hl
end
section
variable {w w':World}{B y x d:Nat}{a:Option Addr}{c:Nat}{F A:Nat->Prop}{P:Pn.cu}{m size:Int}{st:dW}
theorem yN.own (h:yN x d a c w B y F P m size st):∀k,F k->B<=k/\k<w.heap.size:=by
 obtain⟨v,G,h1,h2⟩:=h;exact λk hk=>h1.own k ((h2 k).1 hk)
theorem yN.bZ (h:yN x d a c w B y F P m size st)(hc:aH A w w')(hn:∀k,F k->¬A k)(hA:∀k,A k->B<=k):yN x d a c w' B y F P m size st:=by
 obtain⟨v,G,h1,h2⟩:=h;exact⟨v,G,h1.bZ hc (λk hk=>hn k ((h2 k).2 hk)) hA,h2⟩
theorem yN.G6 (h:yN x d a c w B y F P m size st)(hf:Fit P m size st)(hB:B<=w.heap.size)(hi:st.ids.length<=1000)(now:Int)(z:Po)(hz:dZ z) :
 Calls prog 31 #[.pointer (some ⟨y,0,none⟩),.int .i64 now,G5 z] w λe w'=>e=.returned (.tuple #[.int .i64 (eX P m size now z st).1.1,.bool (eX P m size now z st).1.2.1,.int .i64 (eX P m size now z st).1.2.2])/\uV (yN x d a c) w w' B y F P m size (eX P m size now z st).2:=by
 obtain⟨h1,h2⟩:=h.begin;refine(Qb h1 hf hB hi now z hz).mono ?_;rintro e w' ⟨he,hr,_⟩;exact⟨he,h2 _ _ _ hr⟩
theorem yN.MF (h:yN x d a c w B y F P m size st)(hf:Fit P m size st)(hB:B<=w.heap.size)(f:ByteArray)(hs:f.size<=140737488355328)(below:Int) :
 Calls prog 35 #[.pointer (some ⟨y,0,none⟩),.string f,.int .i64 below] w λe w'=>e=.returned (.tuple #[.int .i64 (xI m size f below st).1.1,.int .i64 (xI m size f below st).1.2])/\uV (yN x d a c) w w' B y F P m size (xI m size f below st).2:=by
 obtain⟨h1,h2⟩:=h.begin;refine(Xk h1 hf hB f hs below).mono ?_;rintro e w' ⟨he,hr,_⟩;exact⟨he,h2 _ _ _ hr⟩
theorem yN.age (h:yN x d a c w B y F P m size st)(hf:Fit P m size st)(hB:B<=w.heap.size)(now:Int) :
 Calls prog 37 #[.pointer (some ⟨y,0,none⟩),.int .i64 now] w λe w'=>e=.returned (.tuple #[.int .i64 (jc P m size now st).1.1,.int .i64 (jc P m size now st).1.2])/\uV (yN x d a c) w w' B y F P m size (jc P m size now st).2:=by
 obtain⟨h1,h2⟩:=h.begin;refine(aei h1 hf hB now).mono ?_;rintro e w' ⟨he,hr,_⟩;exact⟨he,h2 _ _ _ hr⟩
theorem yN.uQ (h:yN x d a c w B y F P m size st)(hf:Fit P m size st)(hB:B<=w.heap.size)(keep:Int) :
 Calls prog 40 #[.pointer (some ⟨y,0,none⟩),.int .i64 keep] w λe w'=>e=.returned (.tuple #[])/\uV (yN x d a c) w w' B y F P m size ⟨st.es,st.s,[]⟩:=by
 obtain⟨h1,h2⟩:=h.begin;refine(Xl h1 hf hB keep).mono ?_;rintro e w' ⟨he,hr,_⟩;exact⟨he,h2 _ _ _ hr⟩
theorem yN.erase (h:yN x d a c w B y F P m size st)(hf:Fit P m size st)(hB:B<=w.heap.size)(q:Int) :
 Calls prog 33 #[.pointer (some ⟨x,0,none⟩),.agg #[.int .i64 2,.int .i64 q,.int .i64 0,.string ⟨#[]⟩,.string ⟨#[]⟩,.string ⟨#[]⟩]] w λe w'=>e=.returned (.int .i64 (iJ st.es st.s m size (bT q 0)))/\uV (yN x d a c) w w' B y F P m size (pX m size st (bT q 0)):=by
 obtain⟨h1,h2⟩:=h.begin;refine(h1.vdo hf hB (bT q 0) ⟨dh,dh,dh⟩).mono ?_;rintro e w' ⟨he,hr,_⟩;exact⟨he,h2 _ _ _ hr⟩
theorem yN.Ak (h:yN x d a c w B y F P m size st)(hf:Fit P m size st)(hB:B<=w.heap.size) :
 Calls prog 39 #[.pointer (some ⟨x,0,none⟩)] w λe w'=>e=.returned (.int .i64 (rX st.es st.s m size))/\uV (yN x d a c) w w' B y F P m size ⟨lT st.es st.s m size,st.s,st.ids⟩:=by
 obtain⟨h1,h2⟩:=h.begin;refine(h1.did (es':=lT st.es st.s m size) (s':=st.s) (Q:=λe _=>e=.returned (.int .i64 (rX st.es st.s m size))) (λ_ hG=>P8 hG hf.rY hf.room hB)).mono ?_;rintro e w' ⟨he,hr,_⟩;exact⟨he,h2 _ _ _ hr⟩
theorem yN.lU (h:yN x d a c w B y F P m size st):∃ch G,w.cell? ⟨y,10,none⟩=some (.pointer (some ⟨x,0,none⟩))/\w.cell? ⟨x,1,none⟩=some (.pointer (some ⟨ch,0,none⟩))/\y<w.heap.size/\x<w.heap.size/\qg w B ch G st.s:=by
 obtain⟨h1,_⟩:=h.begin;obtain⟨ch,G,q1,q2,q3,q4⟩:=h1.lU;exact⟨ch,G,q1,q2,h1.lt,q3,q4⟩
end
def PR (RH:World->Nat->Nat->(Nat->Prop)->Pn.cu->Int->Int->dW->Prop)(Cs:Nat->Prop)(w W:World)(p y x d:Nat)(a:Option Addr)(c:Nat)(P:Pn.cu)(m size:Int)(st st':dW):Prop :=
 ∃F G,RH W w.heap.size p F P m size st/\yN x d a c W w.heap.size y G P m size st'/\(∀k,F k->¬G k)/\Below w.heap.size w W/\∀k,Cs k->k<W.heap.size/\¬F k/\¬G k
section
variable {RH:World->Nat->Nat->(Nat->Prop)->Pn.cu->Int->Int->dW->Prop}{SH:World->Nat->Nat->(Nat->Prop)->aJ->Prop}{T:World->Prop}{Cs jR:Nat->Prop}{w W W':World}{p y x d:Nat}{a:Option Addr}{c:Nat}{P:Pn.cu}{m size:Int}{st st' st1:dW}
theorem PR.bl (h:PR RH Cs w W p y x d a c P m size st st'):Below w.heap.size w W:=by
 obtain⟨F,G,h1,h2,h3,h4,_⟩:=h;exact h4
theorem PR.lF (V:gQ T RH SH)(h:PR RH Cs w W p y x d a c P m size st st')(hb:Below W.heap.size W W')(hn:∀k,jR k->Cs k\/W.heap.size<=k/\k<W'.heap.size):PR RH jR w W' p y x d a c P m size st st':=by
 obtain⟨F,G,h1,h2,h3,h4,h5⟩:=h;refine⟨F,G,V.bZ (A:=λ_=>False) h1 (aH.aA hb) (λ_ _ z=>z),h2.bZ (A:=λ_=>False) (aH.aA hb) (λ_ _ z=>z) (λ_ z=>z.elim),h3,ak h4 hb,λk hk=>?_⟩;rcases hn k hk with z|z
 ·exact⟨ajc (h5 k z).1 hb.size,(h5 k z).2⟩
 ·exact⟨z.2,λu=>by have:=(V.own h1 k u).2;omega,λu=>by have:=(h2.own k u).2;omega⟩
theorem PR.next (V:gQ T RH SH)(h:PR RH Cs w W p y x d a c P m size st st')(hb:Below W.heap.size W W'):PR RH Cs w W' p y x d a c P m size st st':=h.lF V hb (λ_ z=>.inl z)
theorem PR.aZ (V:gQ T RH SH)(h:PR RH Cs w W p y x d a c P m size st st')(hC:∀k,jR k->Cs k):PR RH jR w W p y x d a c P m size st st':=h.lF V (ajb _ _) (λk hk=>.inl (hC k hk))
theorem PR.stay (h:PR RH Cs w W p y x d a c P m size st st')(hb:Below W.heap.size W W'):aO Cs W W':=by
 obtain⟨F,G,h1,h2,h3,h4,h5⟩:=h;exact⟨hb.size,λk hk=>hb.block k (h5 k hk).1⟩
theorem PR.left (V:gQ T RH SH)(h:PR RH Cs w W p y x d a c P m size st st'){fn:FuncId}{args:Array Value}{Q:Ending->World->Prop}
 (hc:∀F,RH W w.heap.size p F P m size st->Calls prog fn args W λe w'=>Q e w'/\uV RH W w' w.heap.size p F P m size st1) :
 Calls prog fn args W λe w'=>Q e w'/\PR RH Cs w w' p y x d a c P m size st1 st'/\aO Cs W w':=by
 obtain⟨F,G,h1,h2,h3,h4,h5⟩:=h;refine(hc F h1).mono ?_;rintro e w' ⟨he,F',a1,a2,a3⟩;refine⟨he,⟨F',G,a1,h2.bZ a2 (λk hk z=>h3 k z hk) (λk z=>(V.own h1 k z).1),λk hk z=>?_,h4.trans (a2.below h4.size (λk hk z=>by have:=(V.own h1 k z).1;omega)),λk hk=>⟨ajc (h5 k hk).1 a2.size,λz=>?_,(h5 k hk).2.2⟩⟩,a2.size,λk hk=>a2.block k (h5 k hk).1 (h5 k hk).2.1⟩
 ·rcases a3 k hk with u|u
  ·exact h3 k u z
  ·have:=(h2.own k z).2;omega
 ·rcases a3 k z with u|u
  ·exact(h5 k hk).2.1 u
  ·have:=(h5 k hk).1;omega
theorem PR.right (V:gQ T RH SH)(h:PR RH Cs w W p y x d a c P m size st st'){fn:FuncId}{args:Array Value}{Q:Ending->World->Prop}
 (hc:∀G,yN x d a c W w.heap.size y G P m size st'->Calls prog fn args W λe w'=>Q e w'/\uV (yN x d a c) W w' w.heap.size y G P m size st1) :
 Calls prog fn args W λe w'=>Q e w'/\PR RH Cs w w' p y x d a c P m size st st1/\aO Cs W w':=by
 obtain⟨F,G,h1,h2,h3,h4,h5⟩:=h;refine(hc G h2).mono ?_;rintro e w' ⟨he,G',a1,a2,a3⟩;refine⟨he,⟨F,G',V.bZ h1 a2 (λk hk z=>h3 k hk z),a1,λk hk z=>?_,h4.trans (a2.below h4.size (λk hk z=>by have:=(h2.own k z).1;omega)),λk hk=>⟨ajc (h5 k hk).1 a2.size,(h5 k hk).2.1,λz=>?_⟩⟩,a2.size,λk hk=>a2.block k (h5 k hk).1 (h5 k hk).2.2⟩
 ·rcases a3 k z with u|u
  ·exact h3 k hk u
  ·have:=(V.own h1 k hk).2;omega
 ·rcases a3 k z with u|u
  ·exact(h5 k hk).2.2 u
  ·have:=(h5 k hk).1;omega
theorem PR.lU (h:PR RH Cs w W p y x d a c P m size st st'):∃ch G,W.cell? ⟨y,10,none⟩=some (.pointer (some ⟨x,0,none⟩))/\W.cell? ⟨x,1,none⟩=some (.pointer (some ⟨ch,0,none⟩))/\y<W.heap.size/\x<W.heap.size/\qg W w.heap.size ch G st'.s:=by
 obtain⟨F,G,h1,h2,_⟩:=h;exact h2.lU
theorem PR.store (V:gQ T RH SH)(h:PR RH Cs w W p y x d a c P m size st st')(hf:Fit P m size st) :
 Calls prog 14 #[.pointer (some ⟨p,0,none⟩)] W λe w'=>∃q F0,e=.returned (.pointer (some ⟨q,0,none⟩))/\SH w' w.heap.size q F0 st.s/\PR RH Cs w w' p y x d a c P m size st st'/\Below W.heap.size W w':=by
 obtain⟨F,G,h1,_⟩:=id h;refine(V.store h1 hf h.bl.size).mono ?_;rintro e w' ⟨q,F0,he,hs,_,hb⟩;exact⟨q,F0,he,hs,h.next V hb,hb⟩
theorem PR.plan (M:sO RH)(h:PR RH Cs w W p y x d a c P m size st st')(hl:P.f.length<=100) :
 Calls prog 16 #[.pointer (some ⟨p,0,none⟩)] W λe w'=>∃a' c',e=.returned (Jh P a' c')/\nZ w' a' P.f/\P.f.length<=c'/\Below W.heap.size W w':=by
 obtain⟨F,G,h1,_⟩:=h;exact M.plan h1 hl
end
def stepT (P:Pn.cu)(m size:Int)(c:uX)(st:dW):dW :=
 if c.k=0 then (eX P m size c.now c.x st).2 else if c.k=1 then pX m size st (bT c.n 0) else if c.k=2 then (xI m size c.f c.n st).2
 else if c.k=3 then (jc P m size c.now st).2 else if c.k=4 then ⟨lT st.es st.s m size,st.s,st.ids⟩ else if c.k=5 then ⟨st.es,st.s,[]⟩ else st
theorem agc {m size now:Int}{x:Po}{ids:List Kn}{es:List ay}{s:aJ}:(l9 m size now x ids es s).2.ids.length<=ids.length+1:=by
 have hi:(OH ids x now (s.last+1)).length<=ids.length+1:=by unfold OH;split<;>simp
 unfold l9;split
 ·show ids.length<=_;omega
 ·split
  ·exact hi
  ·split
   ·exact hi
   ·exact hi
theorem agd {P:Pn.cu}{m size now:Int}{x:Po}{st:dW}:(eX P m size now x st).2.ids.length<=st.ids.length+1:=by
 unfold eX;split
 ·show st.ids.length<=_;omega
 ·split
  ·show st.ids.length<=_;omega
  ·split
   ·show st.ids.length<=_;omega
   ·split
    ·show st.ids.length<=_;omega
    ·exact agc
theorem aen {P:Pn.cu}{m size:Int}{c:uX}{st:dW}:(stepT P m size c st).ids.length<=st.ids.length+1:=by
 unfold stepT;split
 ·exact agd
 ·split
  ·show st.ids.length<=_;omega
  ·split
   ·unfold xI;split<;>(show st.ids.length<=_;omega)
   ·split
    ·unfold jc;split
     ·show st.ids.length<=_;omega
     ·split<;>(show st.ids.length<=_;omega)
    ·split
     ·show st.ids.length<=_;omega
     ·split
      ·show 0<=_;omega
      ·omega
theorem Fit.step {P:Pn.cu}{m size:Int}{c:uX}{st:dW}(h:Fit P m size st):Fit P m size (stepT P m size c st):=by
 unfold stepT;split
 ·exact h.pub
 ·split
  ·exact h.did _
  ·split
   ·refine⟨h.plan,lS.MF h.rY,h.room,h.size,?_⟩;unfold xI;split<;>exact h.xU
   ·split
    ·refine⟨h.plan,lS.age h.rY,h.room,h.size,?_⟩;unfold jc;split
     ·exact h.xU
     ·split<;>exact h.xU
    ·split
     ·exact⟨h.plan,h.rY.comp,h.room,h.size,h.xU⟩
     ·split
      ·exact h.stop
      ·exact h
theorem kZ (w:World)(cs:Array Value)(T:TypeId)(j:Nat)(v:Value)(hv:cs[j]?=some v):(w.alloc (.cells cs T)).cell? ⟨w.heap.size,j,none⟩=some v:=(ajY _ w.heap.size j _ _ _ (ajF w _)).trans hv
theorem agf {B:Nat}{m size:Int}{W W1 W2 W3:World}(hB:B<=W.heap.size)(e1:W1=W.alloc (.cells #[.int .i64 m,.slice none 0 0] 37))(e2:W2=W1.alloc (.cells #[.slice none 0 0,.int .i64 0] 41))(e3:W3=W2.alloc (.cells #[.pointer (some ⟨W.heap.size,0,none⟩),.pointer (some ⟨W1.heap.size,0,none⟩),.int .i64 size] 43)) :
 ∃G,KH W.heap.size W3 B W2.heap.size G m size [] ⟨[],0⟩/\(∀k,G k->W.heap.size<=k)/\Below W.heap.size W W3:=by
 have k1:Below W.heap.size W W1:=by rw[e1];exact(ajb _ _).alloc (Xc _) _
 have k2:Below W1.heap.size W1 W2:=by rw[e2];exact(ajb _ _).alloc (Xc _) _
 have k3:Below W2.heap.size W2 W3:=by rw[e3];exact(ajb _ _).alloc (Xc _) _
 have s1:W1.heap.size=W.heap.size+1:=by rw[e1];simp
 have s2:W2.heap.size=W1.heap.size+1:=by rw[e2];simp
 have s3:W3.heap.size=W2.heap.size+1:=by rw[e3];simp
 have d0:W1.cell? ⟨W.heap.size,0,none⟩=some (.int .i64 m):=by rw[e1];exact kZ _ _ _ _ _ rfl
 have d1:W1.cell? ⟨W.heap.size,1,none⟩=some (.slice none 0 0):=by rw[e1];exact kZ _ _ _ _ _ rfl
 have d2:W1.frozen? ⟨W.heap.size,1,none⟩=false:=by rw[e1];exact akf _ _ _ _
 have c0:W2.cell? ⟨W1.heap.size,0,none⟩=some (.slice none 0 0):=by rw[e2];exact kZ _ _ _ _ _ rfl
 have c1:W2.cell? ⟨W1.heap.size,1,none⟩=some (.int .i64 0):=by rw[e2];exact kZ _ _ _ _ _ rfl
 have c2:∀j,W2.frozen? ⟨W1.heap.size,j,none⟩=false:=λj=>by rw[e2];exact akf _ _ _ _
 have x0:W3.cell? ⟨W2.heap.size,0,none⟩=some (.pointer (some ⟨W.heap.size,0,none⟩)):=by rw[e3];exact kZ _ _ _ _ _ rfl
 have x1:W3.cell? ⟨W2.heap.size,1,none⟩=some (.pointer (some ⟨W1.heap.size,0,none⟩)):=by rw[e3];exact kZ _ _ _ _ _ rfl
 have x2:W3.cell? ⟨W2.heap.size,2,none⟩=some (.int .i64 size):=by rw[e3];exact kZ _ _ _ _ _ rfl
 have x3:W3.frozen? ⟨W2.heap.size,1,none⟩=false:=by rw[e3];exact akf _ _ _ _
 have b13:Below W1.heap.size W1 W3:=k2.trans (k3.mono (by omega));have b03:Below W.heap.size W W3:=k1.trans (b13.mono (by omega));have hd:∀j,W3.cell? ⟨W.heap.size,j,none⟩=W1.cell? ⟨W.heap.size,j,none⟩:=λj=>b13.cell (p:=⟨W.heap.size,j,none⟩) (by show W.heap.size<W1.heap.size;omega)
 have hc:∀j,W3.cell? ⟨W1.heap.size,j,none⟩=W2.cell? ⟨W1.heap.size,j,none⟩:=λj=>k3.cell (p:=⟨W1.heap.size,j,none⟩) (by show W1.heap.size<W2.heap.size;omega)
 have hcf:∀j,W3.frozen? ⟨W1.heap.size,j,none⟩=W2.frozen? ⟨W1.heap.size,j,none⟩:=λj=>k3.frozen (p:=⟨W1.heap.size,j,none⟩) (by show W1.heap.size<W2.heap.size;omega)
 have hdf:W3.frozen? ⟨W.heap.size,1,none⟩=false:=(b13.frozen (p:=⟨W.heap.size,1,none⟩) (by show W.heap.size<W1.heap.size;omega)).trans d2;clear e1 e2 e3;have hdk:aY W3 B W.heap.size m (.slice none 0 0) []:=⟨(hd 0).trans d0,(hd 1).trans d1,hdf,hB,by omega,qO.empty _ _,by simp[Value.ownBlock]⟩;have hch:qg W3 B W1.heap.size (λk=>k=W1.heap.size) ⟨[],0⟩:=⟨.slice none 0 0,⟨by omega,by omega⟩,(hc 0).trans c0,(hc 1).trans c1,(hcf 0).trans (c2 0),(hcf 1).trans (c2 1),aT.empty _ _,by simp[Value.ownBlock],λk=>by simp[Value.ownBlock]⟩;have hft:∀k,jG W.heap.size (.slice none 0 0) k->k=W.heap.size:=λk hk=>by
  rcases hk with y|y
  ·exact y
  ·simp[Value.ownBlock] at y
 refine⟨saF W2.heap.size W.heap.size (.slice none 0 0) (λk=>k=W1.heap.size),⟨W1.heap.size,.slice none 0 0,λk=>k=W1.heap.size,⟨hdk,hch,by omega,by omega,x0,x1,x2,x3,λk hk z=>?_,λz=>?_,λz=>?_⟩,λk=>amq⟩,λk z=>?_,b03⟩
 ·have:=hft k hk;omega
 ·have:=hft _ z;omega
 ·omega
 ·rcases z with y|y|y
  ·omega
  ·have:=hft _ y;omega
  ·omega
abbrev aiu (P:Pn.cu)(a:Option Addr)(c:Nat)(x:Nat):Obj:=.cells #[.string P.n,.slice a P.f.length c,.int .i64 (nth P.v 0),.int .i64 (nth P.v 1),.int .i64 (nth P.v 2),.int .i64 (nth P.v 3),.int .i64 (nth P.v 4),.int .i64 (nth P.v 5),.int .i64 (nth P.v 6),.int .i64 (nth P.v 7),.pointer (some ⟨x,0,none⟩),.slice none 0 0] 46
theorem PR.aht {RH:World->Nat->Nat->(Nat->Prop)->Pn.cu->Int->Int->dW->Prop}{SH:World->Nat->Nat->(Nat->Prop)->aJ->Prop}{T:World->Prop}(V:gQ T RH SH){w W W1 W2 W3 W4:World}{p:Nat}{F:Nat->Prop}{a:Option Addr}{c:Nat}{P:Pn.cu}{m size:Int}
 (h1:RH W w.heap.size p F P m size su) (b1:Below w.heap.size w W) (hrow:nZ w a P.f) (hne:P.f.length≠0) (e1:W1=W.alloc (.cells #[.int .i64 m,.slice none 0 0] 37)) (e2:W2=W1.alloc (.cells #[.slice none 0 0,.int .i64 0] 41)) (e3:W3=W2.alloc (.cells #[.pointer (some ⟨W.heap.size,0,none⟩),.pointer (some ⟨W1.heap.size,0,none⟩),.int .i64 size] 43)) (e4:W4=W3.alloc (aiu P a c W2.heap.size)) :
 PR RH (λ_=>False) w W4 p W3.heap.size W2.heap.size W.heap.size a c P m size su su:=by
 obtain⟨G,s1,s2,s3⟩:=agf (B:=w.heap.size) b1.size e1 e2 e3;have k4:Below W3.heap.size W3 W4:=by rw[e4];exact(ajb _ _).alloc (Xc _) _
 have hb:Below W.heap.size W W4:=ak s3 k4;have hsz:=b1.size;have hsz3:=s3.size;have s4:W4.heap.size=W3.heap.size+1:=by rw[e4];simp
 have hy:∀j v,(#[.string P.n,.slice a P.f.length c,.int .i64 (nth P.v 0),.int .i64 (nth P.v 1),.int .i64 (nth P.v 2),.int .i64 (nth P.v 3),.int .i64 (nth P.v 4),.int .i64 (nth P.v 5),.int .i64 (nth P.v 6),.int .i64 (nth P.v 7),.pointer (some ⟨W2.heap.size,0,none⟩),.slice none 0 0]:Array Value)[j]?=some v->W4.cell? ⟨W3.heap.size,j,none⟩=some v:=λj v hv=>by rw[e4];exact kZ _ _ _ _ _ hv
 have hfz:W4.frozen? ⟨W3.heap.size,11,none⟩=false:=by rw[e4];exact akf _ _ _ _
 have hold:∀z,a=some z->z.block<w.heap.size:=λz hz=>by
  obtain⟨b,o,q1,q2,_⟩:=hrow 0 (by omega);rw[q1] at hz
  cases hz
  exact q2
 have hrow4:nZ W4 a P.f:=(hrow.from b1 (Xc _)).from hb (Xc _);refine⟨F,rvF W3.heap.size (.slice none 0 0) G,V.bZ (A:=λ_=>False) h1 (aH.aA hb) (λ_ _ z=>z),⟨.slice none 0 0,G,⟨⟨by omega,hy 0 _ rfl,hy 1 _ rfl,hy 2 _ rfl,hy 3 _ rfl,hy 4 _ rfl,hy 5 _ rfl,hy 6 _ rfl,hy 7 _ rfl,hy 8 _ rfl,hy 9 _ rfl⟩,hrow4,hold,s1.bZ (A:=λ_=>False) (aH.aA k4) (λ_ _ z=>z),hy 10 _ rfl,hy 11 _ rfl,hfz,by omega,AO.empty _ _,by simp[Value.ownBlock],λz=>?_,λk hk=>by simp[Value.ownBlock] at hk⟩,λk=>amq⟩,λk hk z=>?_,ak b1 hb,λ_ z=>z.elim⟩
 ·have:=(s1.own _ z).2;omega
 ·have:=(V.own h1 k hk).2;rcases z with u|u|u
  ·omega
  ·simp[Value.ownBlock] at u
  ·have:=s2 k u;omega
theorem aeo {P:Pn.cu}(h:P.v.length=8):(⟨P.n,P.f,[nth P.v 0,nth P.v 1,nth P.v 2,nth P.v 3,nth P.v 4,nth P.v 5,nth P.v 6,nth P.v 7]⟩:Pn.cu)=P:=by
 obtain⟨n,f,v⟩:=P;match v,h with
 | [x0,x1,x2,x3,x4,x5,x6,x7],_=>rfl
abbrev stV (c:uX):Value:=.agg #[.int .i64 c.k,.int .i64 c.now,.int .i64 c.n,.string c.x.s,.string c.x.i,.string c.x.h,.string c.x.d,.int .i64 c.x.x,.int .i64 c.x.ro,.string c.f]
abbrev Kv (c:uX):Obj:=.cells #[.int .i64 c.k,.int .i64 c.now,.int .i64 c.n,.string c.x.s,.string c.x.i,.string c.x.h,.string c.x.d,.int .i64 c.x.x,.int .i64 c.x.ro,.string c.f] 50
structure UC (w:World)(b:Nat)(c:uX):Prop where
 lt:b<w.heap.size
 c0:w.cell? ⟨b,0,none⟩=some (.int .i64 c.k)
 c1:w.cell? ⟨b,1,none⟩=some (.int .i64 c.now)
 c2:w.cell? ⟨b,2,none⟩=some (.int .i64 c.n)
 c3:w.cell? ⟨b,3,none⟩=some (.string c.x.s)
 c4:w.cell? ⟨b,4,none⟩=some (.string c.x.i)
 c5:w.cell? ⟨b,5,none⟩=some (.string c.x.h)
 c6:w.cell? ⟨b,6,none⟩=some (.string c.x.d)
 c7:w.cell? ⟨b,7,none⟩=some (.int .i64 c.x.x)
 c8:w.cell? ⟨b,8,none⟩=some (.int .i64 c.x.ro)
 c9:w.cell? ⟨b,9,none⟩=some (.string c.f)
theorem UC.new (w:World)(c:uX):UC (w.alloc (Kv c)) w.heap.size c:=⟨by simp,by simp,by simp,by simp,by simp,by simp,by simp,by simp,by simp,by simp,by simp⟩
theorem UC.same {w w':World}{b:Nat}{c:uX}(h:UC w b c)(hs:w.heap.size<=w'.heap.size)(hb:w'.heap[b]?=w.heap[b]?):UC w' b c:=by
 have e:∀j,w'.cell? ⟨b,j,none⟩=w.cell? ⟨b,j,none⟩:=λj=>akD (w:=w) (a:=⟨b,j,none⟩) hb
 exact⟨ajc h.lt hs,by rw[e];exact h.c0,by rw[e];exact h.c1,by rw[e];exact h.c2,by rw[e];exact h.c3,by rw[e];exact h.c4,by rw[e];exact h.c5,by rw[e];exact h.c6,by rw[e];exact h.c7,by rw[e];exact h.c8,by rw[e];exact h.c9⟩
theorem UC.stay {Cs:Nat->Prop}{w w':World}{b:Nat}{c:uX}(h:UC w b c)(hs:aO Cs w w')(hb:Cs b):UC w' b c:=h.same hs.1 (hs.2 b hb)
abbrev Us (b y x:Nat)(n:Int)(w:World):Prop:=w.cell? ⟨b,2,none⟩=some (.int .i64 n)/\w.cell? ⟨y,10,none⟩=some (.pointer (some ⟨x,0,none⟩))
section
variable {RH:World->Nat->Nat->(Nat->Prop)->Pn.cu->Int->Int->dW->Prop}{SH:World->Nat->Nat->(Nat->Prop)->aJ->Prop}{T:World->Prop}{Cs:Nat->Prop}{w W:World}{p y x d:Nat}{a:Option Addr}{c:Nat}{P:Pn.cu}{m size:Int}{st:dW}
theorem jQ (V:gQ T RH SH)(h:PR RH Cs w W p y x d a c P m size st st)(s:uX):PR RH (λk=>Cs k\/k=W.heap.size) w (W.alloc (Kv s)) p y x d a c P m size st st/\UC (W.alloc (Kv s)) W.heap.size s/\aO Cs W (W.alloc (Kv s)):=by
 have b0:Below W.heap.size W (W.alloc (Kv s)):=(ajb _ _).alloc (Xc _) _;exact⟨h.lF V b0 (λk hk=>by
  rcases hk with u|u
  ·exact .inl u
  ·exact .inr ⟨by omega,by subst u;simp⟩),UC.new W s,h.stay b0⟩
theorem aep (V:gQ T RH SH)(h:PR RH Cs w W p y x d a c P m size st st)(hf:Fit P m size st)(hi:st.ids.length<=1000)(s:uX)(hs:wE s)(hk:s.k=0) :
 Calls prog 12 #[.pointer (some ⟨p,0,none⟩),.pointer (some ⟨y,0,none⟩),stV s] W λe w'=>e=.returned (.bool true)/\PR RH Cs w w' p y x d a c P m size (eX P m size s.now s.x st).2 (eX P m size s.now s.x st).2/\aO Cs W w':=by
 obtain⟨r0,t0,s0⟩:=jQ V h s;have P1:=aj (r0.left V (λF hF=>V.G6 s.now s.x hs.x hF hf r0.bl.size));have PB:Hid (∀W2,PR RH (λk=>Cs k\/k=W.heap.size) w W2 p y x d a c P m size (eX P m size s.now s.x st).2 st->Calls prog 31 #[.pointer (some ⟨y,0,none⟩),.int .i64 s.now,G5 s.x] W2 λe w'=>e=.returned (.tuple #[.int .i64 (eX P m size s.now s.x st).1.1,.bool (eX P m size s.now s.x st).1.2.1,.int .i64 (eX P m size s.now s.x st).1.2.2])/\PR RH (λk=>Cs k\/k=W.heap.size) w w' p y x d a c P m size (eX P m size s.now s.x st).2 (eX P m size s.now s.x st).2/\aO (λk=>Cs k\/k=W.heap.size) W2 w'):=aj (λW2 h2=>h2.right V (λG hG=>hG.G6 hf h2.bl.size hi s.now s.x hs.x))
 have T0:=aj t0;have S0:=aj s0;have HV:=aj (λ(W':World) (st1 st2:dW) (h':PR RH (λk=>Cs k\/k=W.heap.size) w W' p y x d a c P m size st1 st2)=>h'.aZ V (jR:=Cs) (λk u=>.inl u));obtain⟨hbl,c0,c1,c2,c3,c4,c5,c6,c7,c8,c9⟩:=t0;obtain⟨R,hR⟩:∃R,eX P m size s.now s.x st=R:=⟨_,rfl⟩;rw[hR] at P1 PB ⊢;obtain⟨⟨N,Bq,E⟩,st1⟩:=R;rw[hk] at c0;clear hk;clear h r0 s0 hR V hf;go_enter func12,ntmps12;go_wp2_with fail;refine(ah P1).mono ?_;rintro e w1 ⟨rfl,q1,s1⟩;have P2:=aj (ah PB w1 q1);have T1:=aj ((ah T0).stay s1 (.inr rfl));have S1:=aj ((ah S0).trans (s1.aZ (λk u=>.inl u)))
 clear P1 PB q1 s1 hbl c0 c1 c2 c3 c4 c5 c6 c7 c8 c9 T0 S0;obtain⟨hbl,c0,c1,c2,c3,c4,c5,c6,c7,c8,c9⟩:=ah T1;go_wp2_with fail;refine(ah P2).mono ?_;rintro e w2 ⟨rfl,q2,s2⟩;have HE:=aj (show PR RH Cs w w2 p y x d a c P m size st1 st1/\aO Cs W w2 from⟨ah HV _ _ _ q2,(ah S1).trans (s2.aZ (λk u=>.inl u))⟩);clear P2 q2 s2 hbl c0 c1 c2 c3 c4 c5 c6 c7 c8 c9 T1 S1;go_wp2_with fail;go_ret;refine⟨?_,ah HE⟩;first|rfl|simp
theorem Xn (V:gQ T RH SH)(M:sO RH)(h:PR RH Cs w W p y x d a c P m size st st)(hf:Fit P m size st)(s:uX)(hs:wE s)(hk:s.k=2) :
 Calls prog 12 #[.pointer (some ⟨p,0,none⟩),.pointer (some ⟨y,0,none⟩),stV s] W λe w'=>e=.returned (.bool true)/\PR RH Cs w w' p y x d a c P m size (xI m size s.f s.n st).2 (xI m size s.f s.n st).2/\aO Cs W w':=by
 obtain⟨r0,t0,s0⟩:=jQ V h s;have P1:=aj (r0.left V (λF hF=>M.MF s.f s.n hs.f hF hf r0.bl.size));have PB:Hid (∀W2,PR RH (λk=>Cs k\/k=W.heap.size) w W2 p y x d a c P m size (xI m size s.f s.n st).2 st->Calls prog 35 #[.pointer (some ⟨y,0,none⟩),.string s.f,.int .i64 s.n] W2 λe w'=>e=.returned (.tuple #[.int .i64 (xI m size s.f s.n st).1.1,.int .i64 (xI m size s.f s.n st).1.2])/\PR RH (λk=>Cs k\/k=W.heap.size) w w' p y x d a c P m size (xI m size s.f s.n st).2 (xI m size s.f s.n st).2/\aO (λk=>Cs k\/k=W.heap.size) W2 w'):=aj (λW2 h2=>h2.right V (λG hG=>hG.MF hf h2.bl.size s.f hs.f s.n))
 have T0:=aj t0;have S0:=aj s0;have HV:=aj (λ(W':World) (st1 st2:dW) (h':PR RH (λk=>Cs k\/k=W.heap.size) w W' p y x d a c P m size st1 st2)=>h'.aZ V (jR:=Cs) (λk u=>.inl u));obtain⟨hbl,c0,c1,c2,c3,c4,c5,c6,c7,c8,c9⟩:=t0;obtain⟨R,hR⟩:∃R,xI m size s.f s.n st=R:=⟨_,rfl⟩;rw[hR] at P1 PB ⊢;obtain⟨⟨N,E⟩,st1⟩:=R;rw[hk] at c0;clear hk;clear h r0 s0 hR V hf;go_enter func12,ntmps12;go_wp2_with fail;refine(ah P1).mono ?_;rintro e w1 ⟨rfl,q1,s1⟩;have P2:=aj (ah PB w1 q1);have T1:=aj ((ah T0).stay s1 (.inr rfl));have S1:=aj ((ah S0).trans (s1.aZ (λk u=>.inl u)))
 clear P1 PB q1 s1 hbl c0 c1 c2 c3 c4 c5 c6 c7 c8 c9 T0 S0;obtain⟨hbl,c0,c1,c2,c3,c4,c5,c6,c7,c8,c9⟩:=ah T1;go_wp2_with fail;refine(ah P2).mono ?_;rintro e w2 ⟨rfl,q2,s2⟩;have HE:=aj (show PR RH Cs w w2 p y x d a c P m size st1 st1/\aO Cs W w2 from⟨ah HV _ _ _ q2,(ah S1).trans (s2.aZ (λk u=>.inl u))⟩);clear P2 q2 s2 hbl c0 c1 c2 c3 c4 c5 c6 c7 c8 c9 T1 S1;go_wp2_with fail;go_ret;refine⟨?_,ah HE⟩;first|rfl|simp
theorem aer (V:gQ T RH SH)(M:sO RH)(h:PR RH Cs w W p y x d a c P m size st st)(hf:Fit P m size st)(s:uX)(hk:s.k=3) :
 Calls prog 12 #[.pointer (some ⟨p,0,none⟩),.pointer (some ⟨y,0,none⟩),stV s] W λe w'=>e=.returned (.bool true)/\PR RH Cs w w' p y x d a c P m size (jc P m size s.now st).2 (jc P m size s.now st).2/\aO Cs W w':=by
 obtain⟨r0,t0,s0⟩:=jQ V h s;have P1:=aj (r0.left V (λF hF=>M.age s.now hF hf r0.bl.size));have PB:Hid (∀W2,PR RH (λk=>Cs k\/k=W.heap.size) w W2 p y x d a c P m size (jc P m size s.now st).2 st->Calls prog 37 #[.pointer (some ⟨y,0,none⟩),.int .i64 s.now] W2 λe w'=>e=.returned (.tuple #[.int .i64 (jc P m size s.now st).1.1,.int .i64 (jc P m size s.now st).1.2])/\PR RH (λk=>Cs k\/k=W.heap.size) w w' p y x d a c P m size (jc P m size s.now st).2 (jc P m size s.now st).2/\aO (λk=>Cs k\/k=W.heap.size) W2 w'):=aj (λW2 h2=>h2.right V (λG hG=>hG.age hf h2.bl.size s.now))
 have T0:=aj t0;have S0:=aj s0;have HV:=aj (λ(W':World) (st1 st2:dW) (h':PR RH (λk=>Cs k\/k=W.heap.size) w W' p y x d a c P m size st1 st2)=>h'.aZ V (jR:=Cs) (λk u=>.inl u));obtain⟨hbl,c0,c1,c2,c3,c4,c5,c6,c7,c8,c9⟩:=t0;obtain⟨R,hR⟩:∃R,jc P m size s.now st=R:=⟨_,rfl⟩;rw[hR] at P1 PB ⊢;obtain⟨⟨N,E⟩,st1⟩:=R;rw[hk] at c0;clear hk;clear h r0 s0 hR V hf;go_enter func12,ntmps12;go_wp2_with fail;refine(ah P1).mono ?_;rintro e w1 ⟨rfl,q1,s1⟩;have P2:=aj (ah PB w1 q1);have T1:=aj ((ah T0).stay s1 (.inr rfl));have S1:=aj ((ah S0).trans (s1.aZ (λk u=>.inl u)))
 clear P1 PB q1 s1 hbl c0 c1 c2 c3 c4 c5 c6 c7 c8 c9 T0 S0;obtain⟨hbl,c0,c1,c2,c3,c4,c5,c6,c7,c8,c9⟩:=ah T1;go_wp2_with fail;refine(ah P2).mono ?_;rintro e w2 ⟨rfl,q2,s2⟩;have HE:=aj (show PR RH Cs w w2 p y x d a c P m size st1 st1/\aO Cs W w2 from⟨ah HV _ _ _ q2,(ah S1).trans (s2.aZ (λk u=>.inl u))⟩);clear P2 q2 s2 hbl c0 c1 c2 c3 c4 c5 c6 c7 c8 c9 T1 S1;go_wp2_with fail;go_ret;refine⟨?_,ah HE⟩;first|rfl|simp
theorem Xo (V:gQ T RH SH)(C:uq RH)(h:PR RH Cs w W p y x d a c P m size st st)(hf:Fit P m size st)(s:uX)(hk:s.k=5) :
 Calls prog 12 #[.pointer (some ⟨p,0,none⟩),.pointer (some ⟨y,0,none⟩),stV s] W λe w'=>e=.returned (.bool true)/\PR RH Cs w w' p y x d a c P m size ⟨st.es,st.s,[]⟩ ⟨st.es,st.s,[]⟩/\aO Cs W w':=by
 obtain⟨r0,t0,s0⟩:=jQ V h s;have P1:=aj (r0.left V (λF hF=>C.uQ s.n hF hf r0.bl.size));have PB:Hid (∀W2,PR RH (λk=>Cs k\/k=W.heap.size) w W2 p y x d a c P m size ⟨st.es,st.s,[]⟩ st->Calls prog 40 #[.pointer (some ⟨y,0,none⟩),.int .i64 s.n] W2 λe w'=>e=.returned (.tuple #[])/\PR RH (λk=>Cs k\/k=W.heap.size) w w' p y x d a c P m size ⟨st.es,st.s,[]⟩ ⟨st.es,st.s,[]⟩/\aO (λk=>Cs k\/k=W.heap.size) W2 w'):=aj (λW2 h2=>h2.right V (λG hG=>hG.uQ hf h2.bl.size s.n));have T0:=aj t0;have S0:=aj s0;have HV:=aj (λ(W':World) (st1 st2:dW) (h':PR RH (λk=>Cs k\/k=W.heap.size) w W' p y x d a c P m size st1 st2)=>h'.aZ V (jR:=Cs) (λk u=>.inl u))
 obtain⟨hbl,c0,c1,c2,c3,c4,c5,c6,c7,c8,c9⟩:=t0;obtain⟨st1,hR⟩:∃st1,(⟨st.es,st.s,[]⟩:dW)=st1:=⟨_,rfl⟩;rw[hR] at P1 PB ⊢;rw[hk] at c0;clear hk;clear h r0 s0 hR V hf;go_enter func12,ntmps12;go_wp2_with fail;refine(ah P1).mono ?_;rintro e w1 ⟨rfl,q1,s1⟩;have P2:=aj (ah PB w1 q1);have T1:=aj ((ah T0).stay s1 (.inr rfl));have S1:=aj ((ah S0).trans (s1.aZ (λk u=>.inl u)));clear P1 PB q1 s1 hbl c0 c1 c2 c3 c4 c5 c6 c7 c8 c9 T0 S0;obtain⟨hbl,c0,c1,c2,c3,c4,c5,c6,c7,c8,c9⟩:=ah T1;go_wp2_with fail;refine(ah P2).mono ?_;rintro e w2 ⟨rfl,q2,s2⟩;have HE:=aj (show PR RH Cs w w2 p y x d a c P m size st1 st1/\aO Cs W w2 from⟨ah HV _ _ _ q2,(ah S1).trans (s2.aZ (λk u=>.inl u))⟩)
 clear P2 q2 s2 hbl c0 c1 c2 c3 c4 c5 c6 c7 c8 c9 T1 S1;go_wp2_with fail;go_ret;exact⟨rfl,ah HE⟩
theorem aa3 (V:gQ T RH SH)(h:PR RH Cs w W p y x d a c P m size st st)(s:uX)(h0:s.k≠0)(h1:s.k≠1)(h2:s.k≠2)(h3:s.k≠3)(h4:s.k≠4)(h5:s.k≠5) :
 Calls prog 12 #[.pointer (some ⟨p,0,none⟩),.pointer (some ⟨y,0,none⟩),stV s] W λe w'=>e=.returned (.bool true)/\PR RH Cs w w' p y x d a c P m size st st/\aO Cs W w':=by
 obtain⟨r0,t0,s0⟩:=jQ V h s;have HE:=aj (show PR RH Cs w (W.alloc (Kv s)) p y x d a c P m size st st/\aO Cs W (W.alloc (Kv s)) from⟨r0.aZ V (λk u=>.inl u),s0⟩);obtain⟨hbl,c0,c1,c2,c3,c4,c5,c6,c7,c8,c9⟩:=t0;have e0:(s.k==0)=false:=by simpa using h0
 have e1:(s.k==1)=false:=by simpa using h1
 have e2:(s.k==2)=false:=by simpa using h2
 have e3:(s.k==3)=false:=by simpa using h3
 have e4:(s.k==4)=false:=by simpa using h4
 have e5:(s.k==5)=false:=by simpa using h5
 clear h r0 s0 V;go_enter func12,ntmps12;go_wp2_with fail;go_ret;exact⟨rfl,ah HE⟩
theorem Xp (V:gQ T RH SH)(M:sO RH)(h:PR RH Cs w W p y x d a c P m size st st)(hf:Fit P m size st)(s:uX)(hk:s.k=1) :
 Calls prog 12 #[.pointer (some ⟨p,0,none⟩),.pointer (some ⟨y,0,none⟩),stV s] W λe w'=>e=.returned (.bool true)/\PR RH Cs w w' p y x d a c P m size (pX m size st (bT s.n 0)) (pX m size st (bT s.n 0))/\aO Cs W w':=by
 obtain⟨r00,t00,s00⟩:=jQ V h s;have bd:Below (W.alloc (Kv s)).heap.size (W.alloc (Kv s)) (W.alloc (Kv s)).drew:=(ajb _ _).drew;have r0:=r00.next V bd;have s0:aO Cs W (W.alloc (Kv s)).drew:=s00.trans ((r00.aZ V (jR:=Cs) (λk u=>.inl u)).stay bd);have t0:UC (W.alloc (Kv s)).drew W.heap.size s:=t00.same (Xc _) rfl;have P1:=aj (r0.left V (λF hF=>M.erase s.n hF hf r0.bl.size));have PB:Hid (∀W2,PR RH (λk=>Cs k\/k=W.heap.size) w W2 p y x d a c P m size (pX m size st (bT s.n 0)) st->Calls prog 33 #[.pointer (some ⟨x,0,none⟩),.agg #[.int .i64 2,.int .i64 s.n,.int .i64 0,.string ⟨#[]⟩,.string ⟨#[]⟩,.string ⟨#[]⟩]] W2 λe w'=>e=.returned (.int .i64 (iJ st.es st.s m size (bT s.n 0)))/\PR RH (λk=>Cs k\/k=W.heap.size) w w' p y x d a c P m size (pX m size st (bT s.n 0)) (pX m size st (bT s.n 0))/\aO (λk=>Cs k\/k=W.heap.size) W2 w'):=aj (λW2 h2=>h2.right V (λG hG=>hG.erase hf h2.bl.size s.n))
 obtain⟨ch0,G0,v10,_,vyl,_,_⟩:=r0.lU;have k0:Us W.heap.size y x s.n (W.alloc (Kv s)).drew:=⟨t0.c2,v10⟩;have T0:=aj t0;have S0:=aj s0;have HV:=aj (λ(W':World) (st1 st2:dW) (h':PR RH (λk=>Cs k\/k=W.heap.size) w W' p y x d a c P m size st1 st2)=>h'.aZ V (jR:=Cs) (λk u=>.inl u));have HS:=aj (λ(W':World) (st1 st2:dW) (h':PR RH (λk=>Cs k\/k=W.heap.size) w W' p y x d a c P m size st1 st2)=>show W'.cell? ⟨y,10,none⟩=some (.pointer (some ⟨x,0,none⟩)) from by obtain⟨_,_,u,_⟩:=h'.lU;exact u);obtain⟨hbl,c0,c1,c2,c3,c4,c5,c6,c7,c8,c9⟩:=t00;obtain⟨E,hE⟩:∃E,iJ st.es st.s m size (bT s.n 0)=E:=⟨_,rfl⟩
 obtain⟨st1,hR⟩:∃st1,pX m size st (bT s.n 0)=st1:=⟨_,rfl⟩;rw[hE,hR] at P1 PB;rw[hR];rw[hk] at c0;clear hk;clear h r0 r00 s0 s00 t0 hR hE V hf v10 bd;go_enter func12,ntmps12;go_wp2_with fail;go_region_held3 (Us W.heap.size y x s.n) (first|assumption|go_keep)
  (first
   | (go_at_call 32;refine(ah P1).mono ?_;rintro e w1 ⟨rfl,q1,s1⟩;have k1:Us W.heap.size y x s.n w1:=⟨((ah T0).stay s1 (.inr rfl)).c2,ah HS _ _ _ q1⟩;have P2:=aj (ah PB w1 q1);have T1:=aj ((ah T0).stay s1 (.inr rfl));have S1:=aj ((ah S0).trans (s1.aZ (λk u=>.inl u)));clear q1 s1)
   | (go_at_call 33;refine(ah P2).mono ?_;rintro e w2 ⟨rfl,q2,s2⟩;have k2:Us W.heap.size y x s.n w2:=⟨((ah T1).stay s2 (.inr rfl)).c2,ah HS _ _ _ q2⟩;have HE:=aj (show PR RH Cs w w2 p y x d a c P m size st1 st1/\aO Cs W w2 from⟨ah HV _ _ _ q2,(ah S1).trans (s2.aZ (λk u=>.inl u))⟩);clear q2 s2))
 clear P1 P2 PB;go_wp2_with fail;go_ret;refine⟨?_,ah HE⟩;first|rfl|simp
theorem Qc (V:gQ T RH SH)(M:sO RH)(h:PR RH Cs w W p y x d a c P m size st st)(hf:Fit P m size st)(s:uX)(hk:s.k=4) :
 Calls prog 12 #[.pointer (some ⟨p,0,none⟩),.pointer (some ⟨y,0,none⟩),stV s] W λe w'=>e=.returned (.bool true)/\PR RH Cs w w' p y x d a c P m size ⟨lT st.es st.s m size,st.s,st.ids⟩ ⟨lT st.es st.s m size,st.s,st.ids⟩/\aO Cs W w':=by
 obtain⟨r00,t00,s00⟩:=jQ V h s;have bd:Below (W.alloc (Kv s)).heap.size (W.alloc (Kv s)) (W.alloc (Kv s)).drew:=(ajb _ _).drew;have r0:=r00.next V bd;have s0:aO Cs W (W.alloc (Kv s)).drew:=s00.trans ((r00.aZ V (jR:=Cs) (λk u=>.inl u)).stay bd);have t0:UC (W.alloc (Kv s)).drew W.heap.size s:=t00.same (Xc _) rfl;have P1:=aj (r0.left V (λF hF=>M.Ak hF hf r0.bl.size));have PB:Hid (∀W2,PR RH (λk=>Cs k\/k=W.heap.size) w W2 p y x d a c P m size ⟨lT st.es st.s m size,st.s,st.ids⟩ st->Calls prog 39 #[.pointer (some ⟨x,0,none⟩)] W2 λe w'=>e=.returned (.int .i64 (rX st.es st.s m size))/\PR RH (λk=>Cs k\/k=W.heap.size) w w' p y x d a c P m size ⟨lT st.es st.s m size,st.s,st.ids⟩ ⟨lT st.es st.s m size,st.s,st.ids⟩/\aO (λk=>Cs k\/k=W.heap.size) W2 w'):=aj (λW2 h2=>h2.right V (λG hG=>hG.Ak hf h2.bl.size))
 obtain⟨ch0,G0,v10,_,vyl,_,_⟩:=r0.lU;have k0:Us W.heap.size y x s.n (W.alloc (Kv s)).drew:=⟨t0.c2,v10⟩;have T0:=aj t0;have S0:=aj s0;have HV:=aj (λ(W':World) (st1 st2:dW) (h':PR RH (λk=>Cs k\/k=W.heap.size) w W' p y x d a c P m size st1 st2)=>h'.aZ V (jR:=Cs) (λk u=>.inl u));have HS:=aj (λ(W':World) (st1 st2:dW) (h':PR RH (λk=>Cs k\/k=W.heap.size) w W' p y x d a c P m size st1 st2)=>show W'.cell? ⟨y,10,none⟩=some (.pointer (some ⟨x,0,none⟩)) from by obtain⟨_,_,u,_⟩:=h'.lU;exact u);obtain⟨hbl,c0,c1,c2,c3,c4,c5,c6,c7,c8,c9⟩:=t00;obtain⟨E,hE⟩:∃E,rX st.es st.s m size=E:=⟨_,rfl⟩
 obtain⟨st1,hR⟩:∃st1,(⟨lT st.es st.s m size,st.s,st.ids⟩:dW)=st1:=⟨_,rfl⟩;rw[hE,hR] at P1 PB;rw[hR];rw[hk] at c0;clear hk;clear h r0 r00 s0 s00 t0 hR hE V hf v10 bd;go_enter func12,ntmps12;go_wp2_with fail;go_region_held3 (Us W.heap.size y x s.n) (first|assumption|go_keep)
  (first
   | (go_at_call 38;refine(ah P1).mono ?_;rintro e w1 ⟨rfl,q1,s1⟩;have k1:Us W.heap.size y x s.n w1:=⟨((ah T0).stay s1 (.inr rfl)).c2,ah HS _ _ _ q1⟩;have P2:=aj (ah PB w1 q1);have T1:=aj ((ah T0).stay s1 (.inr rfl));have S1:=aj ((ah S0).trans (s1.aZ (λk u=>.inl u)));clear q1 s1)
   | (go_at_call 39;refine(ah P2).mono ?_;rintro e w2 ⟨rfl,q2,s2⟩;have k2:Us W.heap.size y x s.n w2:=⟨((ah T1).stay s2 (.inr rfl)).c2,ah HS _ _ _ q2⟩;have HE:=aj (show PR RH Cs w w2 p y x d a c P m size st1 st1/\aO Cs W w2 from⟨ah HV _ _ _ q2,(ah S1).trans (s2.aZ (λk u=>.inl u))⟩);clear q2 s2))
 clear P1 P2 PB;go_wp2_with fail;go_ret;refine⟨?_,ah HE⟩;first|rfl|simp
theorem Ut (V:gQ T RH SH)(M:sO RH)(C:uq RH)(h:PR RH Cs w W p y x d a c P m size st st)(hf:Fit P m size st)(hi:st.ids.length<=1000)(s:uX)(hs:wE s) :
 Calls prog 12 #[.pointer (some ⟨p,0,none⟩),.pointer (some ⟨y,0,none⟩),stV s] W λe w'=>e=.returned (.bool true)/\PR RH Cs w w' p y x d a c P m size (stepT P m size s st) (stepT P m size s st)/\aO Cs W w':=by
 unfold stepT;by_cases h0:s.k=0
 ·rw[if_pos h0];exact aep V h hf hi s hs h0
 rw[if_neg h0];by_cases h1:s.k=1
 ·rw[if_pos h1];exact Xp V M h hf s h1
 rw[if_neg h1];by_cases h2:s.k=2
 ·rw[if_pos h2];exact Xn V M h hf s hs h2
 rw[if_neg h2];by_cases h3:s.k=3
 ·rw[if_pos h3];exact aer V M h hf s h3
 rw[if_neg h3];by_cases h4:s.k=4
 ·rw[if_pos h4];exact Qc V M h hf s h4
 rw[if_neg h4];by_cases h5:s.k=5
 ·rw[if_pos h5];exact Xo V C h hf s h5
 rw[if_neg h5];exact aa3 V h s h0 h1 h2 h3 h4 h5
end
