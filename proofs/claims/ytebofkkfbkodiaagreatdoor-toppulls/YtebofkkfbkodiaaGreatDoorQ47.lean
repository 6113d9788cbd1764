/- A part. -/
import Derived.Test.YtebofkkfbkodiaaGreatDoorQ23
import Derived.Test.YtebofkkfbkodiaaGreatDoorQ43
namespace Go.Proofs.YtebofkkfbkodiaaGreatDoor
open Go.RowKit Go.Proofs.Tryz
namespace Dk
variable {tx:ad}{st:aH}{F1 F2:af}{d:Nat}{push:Bool}{q:List dD}
structure Mb where
 c:bM
 q:List dD
structure Sr where
 P:Pn.aX
 m:Int
 z:Int
 st:Str
 cs:List Mb
structure Sv where
 l:List Sr
 t:Int
def Mb.nm (y:Mb):ad:=y.c.t.n
def Sr.nm (x:Sr):ad:=x.P.n
def jL {α:Type}(nm:α->ad)(n:ad)(l:List α):Option α:=l.find? λx=>decide (nm x=n)
def Dp {α:Type}(nm:α->ad)(n:ad)(f:α->α)(l:List α):List α:=l.map λx=>if nm x=n then f x else x
def ahN {α:Type}(nm:α->ad)(n:ad)(l:List α):List α:=l.filter λx=>decide (nm x≠n)
def Sv.put (s:Sv)(n:ad)(f:Sr->Sr):Sv:=⟨Dp Sr.nm n f s.l,s.t⟩
def Sr.put (x:Sr)(n:ad)(f:Mb->Mb):Sr:={x with cs:=Dp Mb.nm n f x.cs}
def hasB (cs:List Mb)(done:Bool)(r:Rc):Bool:=cs.any λy=>aN y.c.t.f r.s&&(um y.c r.q==done)
def oN (x:Sr)(r:Rc):Bool:=if pv x.P 6=2 then !hasB x.cs true r else hasB x.cs false r
def oO (m z:Int)(need:Rc->Bool):List Rc->Str->Str
 | [],st=>st
 | r::l,st=>if need r=true then oO m z need l st else if ji st.es st.s m z (dF r.q 0)≠0 then st else oO m z need l (Ag m z st (dF r.q 0))
def Sr.sweep (x:Sr):Sr:=if pv x.P 6=0 then x else {x with st:=oO x.m x.z (oN x) x.st.s.l x.st}
def sV (f g:List ad):Bool:=f.any λa=>g.any λb=>aT a b
def pY (s:Sv)(p:Pn.aX):Int:=if (jL Sr.nm p.n s.l).isSome=true then 5 else if 4<=s.l.length then 8 else if (s.l.any λx=>sV p.f x.P.f)=true then 10 else 0
def fP (s:Sv)(tx:ad)(m z:Int):Sv×Int :=
 if (Pn.cu tx).2≠0 then (s,(Pn.cu tx).2) else if pY s (Pn.cu tx).1≠0 then (s,pY s (Pn.cu tx).1)
 else if (eX m 1 65536&&eX z 1 4096)=false then (s,1) else (⟨s.l++[⟨(Pn.cu tx).1,m,z,kG,[]⟩],s.t⟩,0)
def ahO (s:Sv)(n:ad):Sv×Int:=if (jL Sr.nm n s.l).isSome=true then (⟨ahN Sr.nm n s.l,s.t⟩,0) else (s,4)
def sF (cs:List Mb)(t:Tk.bJ):Int:=if t.ack≠2\/t.fr≠0 then 1 else if (cs.any λy=>aT t.f y.c.t.f)=true then 10 else 0
def oP (x:Sr)(t:Tk.bJ):Int:=if (jL Mb.nm t.n x.cs).isSome=true then 5 else if 6<=x.cs.length then 8 else if pv x.P 6=2 then sF x.cs t else 0
def Sr.join (x:Sr)(t:Tk.bJ):Sr:={x with cs:=x.cs++[⟨⟨t,eH t x.st.s,[],0⟩,[]⟩]}
def takeC (s:Sv)(n tx:ad):Sv×Int :=
 if (Tk.dw tx).2≠0 then (s,(Tk.dw tx).2) else match jL Sr.nm n s.l with
 | none=>(s,4)
 | some x=>if oP x (Tk.dw tx).1≠0 then (s,oP x (Tk.dw tx).1) else (s.put n λx=>(x.join (Tk.dw tx).1).sweep,0)
def Sv.at (s:Sv)(n who:ad):Option (Sr×Mb):=(jL Sr.nm n s.l).bind λx=>(jL Mb.nm who x.cs).map λy=>(x,y)
def agK (s:Sv)(n who:ad):Sv×Int:=if (s.at n who).isSome=true then (s.put n λx=>Sr.sweep {x with cs:=ahN Mb.nm who x.cs},0) else (s,4)
def nT (s:Sv)(p:Po):Sv×(ad×Int×Bool×Int) :=
 if aC false p.s≠0 then (s,(noB,0,false,aC false p.s)) else match s.l.find? λx=>bV x.P p.s with
 | none=>(s,(noB,0,false,10))
 | some x=>(s.put x.nm λx=>Sr.sweep {x with st:=(dX x.P x.m x.z s.t p x.st).2},(x.nm,(dX x.P x.m x.z s.t p x.st).1))
def nD (s:Sv)(n who:ad):Sv×(mM×Int):=match s.at n who with
 | none=>(s,(dP,4))
 | some (x,y)=>(s.put n λx=>(x.put who λy=>⟨(aK y.c x.st.s.l s.t).1,y.q⟩).sweep,(oW (aK y.c x.st.s.l s.t).1 x.st.s.l (aK y.c x.st.s.l s.t).2.1,(aK y.c x.st.s.l s.t).2.2))
def GN (s:Sv)(n who:ad)(q so k:Int):Sv×Int:=match s.at n who with
 | none=>(s,4)
 | some (_,y)=>(s.put n λx=>(x.put who λy=>⟨(iT y.c s.t q so k).1,y.q⟩).sweep,(iT y.c s.t q so k).2)
def jD (s:Sv)(n who:ad)(p:dD):Sv×Int:=match s.at n who with
 | none=>(s,4)
 | some (_,y)=>if y.c.t.pu=true then (s,11) else (s.put n λx=>x.put who λy=>⟨y.c,oC s.t p y.q⟩,sK s.t p y.q)
def nG (l:List Rc)(now:Int):Nat->bM->bM×List mM
 | 0,c=>(c,[])
 | k+1,c=>if (aK c l now).2.2≠0 then ((aK c l now).1,[]) else ((nG l now k (aK c l now).1).1,oW (aK c l now).1 l (aK c l now).2.1::(nG l now k (aK c l now).1).2)
def jM (l:List Rc)(now:Int):Nat->Mb->Mb×List mM
 | 0,y=>(y,[])
 | k+1,y=>if xA now y.q<=0 then (⟨y.c,Hy now y.q⟩,[]) else if (aK y.c l now).2.2≠0 then (⟨(aK y.c l now).1,KU now (Hy now y.q)⟩,[])
  else ((jM l now k ⟨(aK y.c l now).1,ug now (Hy now y.q)⟩).1,oW (aK y.c l now).1 l (aK y.c l now).2.1::(jM l now k ⟨(aK y.c l now).1,ug now (Hy now y.q)⟩).2)
def jG (l:List Rc)(now:Int)(y:Mb):Mb×List mM:=if y.c.t.pu=true then (⟨(nG l now 200 y.c).1,y.q⟩,(nG l now 200 y.c).2) else jM l now 501 y
def lq (s:Sv)(n who:ad):Sv×(List mM×Int):=match s.at n who with
 | none=>(s,([],4))
 | some (x,y)=>(s.put n λx=>(x.put who λy=>(jG x.st.s.l s.t y).1).sweep,((jG x.st.s.l s.t y).2,0))
def agL (s:Sv)(n:ad)(q:Int):Sv×Int:=match jL Sr.nm n s.l with
 | none=>(s,4)
 | some x=>(s.put n λx=>{x with st:=Ag x.m x.z x.st (dF q 0)},ji x.st.es x.st.s x.m x.z (dF q 0))
def agM (s:Sv)(n f:ad)(below:Int):Sv×(Int×Int):=match jL Sr.nm n s.l with
 | none=>(s,(0,4))
 | some x=>(s.put n λx=>{x with st:=(pgP x.m x.z f below x.st).2},(pgP x.m x.z f below x.st).1)
def ahP (s:Sv)(n:ad):Sv×Int:=match jL Sr.nm n s.l with
 | none=>(s,4)
 | some x=>(s.put n λx=>{x with st:=⟨ahm x.st.es x.st.s x.m x.z,x.st.s,x.st.ids⟩},ahl x.st.es x.st.s x.m x.z)
def Sr.tick (now:Int)(x:Sr):Sr:=Sr.sweep {x with st:=(ail x.P x.m x.z now x.st).2}
def ahQ (s:Sv)(n:Int):Sv×Int:=if n<1\/100000<n\/1099511627776<s.t+n then (s,1) else (⟨s.l.map (Sr.tick (s.t+n)),s.t+n⟩,0)
def Sr.stop (x:Sr):Sr:={x with st:=⟨x.st.es,x.st.s,[]⟩}
def UW (s:Sv):Sv:=⟨s.l.map Sr.stop,s.t⟩
def GR (s:Sv)(n:ad):List Rc×Int:=match jL Sr.nm n s.l with
 | none=>([],4)
 | some x=>(x.st.s.l,0)
def ai7 (s:Sv)(n who:ad):(Int×Int×Int×Int)×Int:=match s.at n who with
 | none=>((0,0,0,0),4)
 | some (_,y)=>((agc y.c,y.c.pl-1,y.c.cn,(y.c.pe.length:Int)),0)
structure Mb.Ok (N:Nat)(y:Mb):Prop where
 go:y.c.Go N
 MV:yO y.q
structure Sr.Ok (N:Nat)(x:Sr):Prop where
 fit:Fit x.P x.m x.z x.st
 small:gI x.P
 few:x.cs.length<=6
 nd:(x.cs.map Mb.nm).Nodup
 all:∀y∈x.cs,y.Ok N
structure Sv.Ok (N:Nat)(s:Sv):Prop where
 t:0<=s.t/\s.t<=1099511627776
 few:s.l.length<=4
 nd:(s.l.map Sr.nm).Nodup
 all:∀x∈s.l,x.Ok N
 apart:s.l.Pairwise λx y=>sV x.P.f y.P.f=false
section
variable {α:Type}{nm:α->ad}{n:ad}{f:α->α}{l:List α}{x:α}
theorem by_some (h:jL nm n l=some x):x∈l/\nm x=n:=⟨akY h,by simpa using List.find?_some h⟩
theorem by_none (h:jL nm n l=none):∀y∈l,nm y≠n:=λy hy=>by simpa using akW.1 h y hy
theorem rU (hd:(l.map nm).Nodup)(hx:x∈l):jL nm (nm x) l=some x:=by
 induction l with
 | nil=>cases hx
 | cons a r ih =>
  rw[akw,amE] at hd;unfold jL;rcases akb.1 hx with rfl|hr
  ·simp
  ·have:nm a≠nm x:=λe=>hd.1 (e▸List.mem_map_of_mem hr)
   rw[List.find?_cons_of_neg (by simpa using this)];exact ih hd.2 hr
theorem uQ:jL nm n l=none↔n∉l.map nm:=by
 constructor
 ·intro h hn;obtain⟨y,hy,e⟩:=alh.1 hn;exact by_none h y hy e
 ·intro h
  cases e:jL nm n l with
  | none=>rfl
  | some x=>exact absurd (alh.2 ⟨x,by_some e⟩) h
theorem GU (h:∀x∈l,nm x=n->nm (f x)=nm x):(Dp nm n f l).map nm=l.map nm:=by
 unfold Dp;rw[List.map_map];refine alP λx hx=>?_
 simp only[Function.comp];split
 ·exact h x hx ‹_›
 ·rfl
theorem UY {y:α}(h:y∈Dp nm n f l):∃x∈l,y=if nm x=n then f x else x:=by
 obtain⟨x,hx,e⟩:=alh.1 h;exact⟨x,hx,e.symm⟩
theorem ac5:(Dp nm n f l).length=l.length:=by unfold Dp;rw[akk]
theorem Xe (m:ad)(h:∀x∈l,nm x=n->nm (f x)=nm x):jL nm m (Dp nm n f l)=(jL nm m l).map λx=>if nm x=n then f x else x:=by
 induction l with
 | nil=>rfl
 | cons a r ih =>
  have ih:=ih (λx hx=>h x (ajS _ hx));have ha:=h a (ajP ..);unfold jL Dp at *;rw[akw];by_cases e:nm a=m
  ·rw[List.find?_cons_of_pos (by split<;>simp_all),List.find?_cons_of_pos (by simpa using e)];rfl
  ·rw[List.find?_cons_of_neg (by split<;>simp_all),List.find?_cons_of_neg (by simpa using e)];exact ih
end
theorem Mb.Ok.more {N M:Nat}{y:Mb}(h:y.Ok N)(hm:N<=M):y.Ok M:=⟨h.go.more hm,h.MV⟩
theorem Sr.Ok.more {N M:Nat}{x:Sr}(h:x.Ok N)(hm:N<=M):x.Ok M:=⟨h.fit,h.small,h.few,h.nd,λy hy=>(h.all y hy).more hm⟩
theorem Sv.Ok.more {N M:Nat}{s:Sv}(h:s.Ok N)(hm:N<=M):s.Ok M:=⟨h.t,h.few,h.nd,λx hx=>(h.all x hx).more hm,h.apart⟩
theorem Sv.Ok.put {N M:Nat}{s:Sv}{n:ad}{f:Sr->Sr}(h:s.Ok N)(hm:N<=M)(hf:∀x∈s.l,x.nm=n->(f x).Ok M/\(f x).P=x.P):(s.put n f).Ok M:=by
 have hp:∀x∈s.l,(if x.nm=n then f x else x).P=x.P:=λx hx=>by
  split
  ·exact(hf x hx ‹_›).2
  ·rfl
 refine⟨h.t,by show(Dp _ _ _ _).length<=4;rw[ac5];exact h.few,?_,λy hy=>?_,?_⟩
 ·show((Dp _ _ _ _).map _).Nodup;rw[GU (λx hx e=>by unfold Sr.nm;rw[(hf x hx e).2])];exact h.nd
 ·obtain⟨x,hx,rfl⟩:=UY hy;split
  ·exact(hf x hx ‹_›).1
  ·exact(h.all x hx).more hm
 ·show(Dp _ _ _ _).Pairwise _;unfold Dp;rw[List.pairwise_map];refine List.Pairwise.imp_of_mem (λ{x y} hx hy hxy=>?_) h.apart;rw[hp x hx,hp y hy];exact hxy
theorem Sr.Ok.put {N M:Nat}{x:Sr}{n:ad}{f:Mb->Mb}(h:x.Ok N)(hm:N<=M)(hf:∀y∈x.cs,y.nm=n->(f y).Ok M/\(f y).c.t=y.c.t):(x.put n f).Ok M:=by
 refine⟨h.fit,h.small,by show(Dp _ _ _ _).length<=6;rw[ac5];exact h.few,?_,λy hy=>?_⟩
 ·show((Dp _ _ _ _).map _).Nodup;rw[GU (λx hx e=>by unfold Mb.nm;rw[(hf x hx e).2])];exact h.nd
 ·obtain⟨z,hz,rfl⟩:=UY hy;split
  ·exact(hf z hz ‹_›).1
  ·exact(h.all z hz).more hm
theorem Sr.Ok.str {N:Nat}{x:Sr}{st:Str}(h:x.Ok N)(hf:Fit x.P x.m x.z st):({x with st:=st}:Sr).Ok N:=⟨hf,h.small,h.few,h.nd,h.all⟩
theorem Fit.sweep {P:Pn.aX}{m z:Int}{need:Rc->Bool}:∀{l:List Rc} {st:Str},Fit P m z st->Fit P m z (oO m z need l st)
 | [],_,h=>h
 | r::l,st,h=>by
  unfold oO;split
  ·exact Fit.sweep h
  ·split
   ·exact h
   ·exact Fit.sweep (h.did _)
theorem Sr.Ok.sweep {N:Nat}{x:Sr}(h:x.Ok N):x.sweep.Ok N:=by
 unfold Sr.sweep;split
 ·exact h
 ·exact h.str h.fit.sweep
theorem vY (x:Sr):x.sweep.P=x.P/\x.sweep.m=x.m/\x.sweep.z=x.z/\x.sweep.cs=x.cs:=by
 unfold Sr.sweep;split<;>exact⟨rfl,rfl,rfl,rfl⟩
theorem Sv.Ok.one {N:Nat}{s:Sv}{x:Sr}{n:ad}(h:s.Ok N)(hx:x∈s.l)(e:x.nm=n):jL Sr.nm n s.l=some x:=by rw[<-e];exact rU h.nd hx
theorem Sr.Ok.one {N:Nat}{x:Sr}{y:Mb}{n:ad}(h:x.Ok N)(hy:y∈x.cs)(e:y.nm=n):jL Mb.nm n x.cs=some y:=by rw[<-e];exact rU h.nd hy
theorem D7 {s:Sv}{n who:ad}{x:Sr}{y:Mb}(h:s.at n who=some (x,y)):jL Sr.nm n s.l=some x/\jL Mb.nm who x.cs=some y:=by
 unfold Sv.at at h
 cases e:jL Sr.nm n s.l with
 | none=>rw[e] at h;cases h
 | some x' =>
  rw[e] at h;simp only[Option.bind_some] at h
  cases e2:jL Mb.nm who x'.cs with
  | none=>rw[e2] at h;cases h
  | some y'=>rw[e2] at h;cases h;exact⟨rfl,e2⟩
theorem Rf (f g:List ad):sV f g=sV g f:=by
 unfold sV;rw[akK];simp only[akN];constructor
 ·rintro ⟨a,ha,b,hb,h⟩;exact⟨b,hb,a,ha,by rw[yZ];exact h⟩
 ·rintro ⟨a,ha,b,hb,h⟩;exact⟨b,hb,a,ha,by rw[yZ];exact h⟩
theorem GV {p:Pn.aX}{s:Sv}(h:pY s p=0):jL Sr.nm p.n s.l=none/\s.l.length<4/\∀x∈s.l,sV p.f x.P.f=false:=by
 unfold pY at h;split at h
 ·cases h
 ·split at h
  ·cases h
  ·split at h
   ·cases h
   ·rename_i h1 h2 h3;refine⟨by simpa using h1,by omega,λx hx=>?_⟩;simp only[akN,not_exists,not_and] at h3;simpa using h3 x hx
theorem Rh (h:(Pn.cu tx).2=0):Pn.aZ (Pn.cu tx).1=0:=(Pn.xJ (s:=tx) (x:=(Pn.cu tx).1) (by rw[<-h])).1
theorem Ri (h:(Tk.dw tx).2=0):Tk.iV (Tk.dw tx).1=0:=(Tk.xJ (s:=tx) (x:=(Tk.dw tx).1) (by rw[<-h])).1
section
variable {N:Nat}{s:Sv}(h:s.Ok N)
include h
theorem Sv.Ok.stream (tx:ad)(m z:Int)(hs:gI (Pn.cu tx).1):(fP s tx m z).1.Ok N:=by
 unfold fP;split
 ·exact h
 ·split
  ·exact h
  ·split
   ·exact h
   ·rename_i h1 h2 h3;obtain⟨g1,g2,g3⟩:=GV (Classical.not_not.1 h2);have hb:eX m 1 65536=true/\eX z 1 4096=true:=by simpa[Bool.and_eq_true] using h3
    refine⟨h.t,by simp;omega,?_,λx hx=>?_,?_⟩
    ·simp only[akt,akw,alZ];rw[List.nodup_append];refine⟨h.nd,by simp,λa ha b hb e=>?_⟩;rw[akd] at hb;subst e;rw[hb] at ha;exact uQ.1 g1 ha
    ·rcases akg.1 hx with q|q
     ·exact h.all x q
     ·rw[akd] at q;subst q;exact⟨Fit.nil (Rh (Classical.not_not.1 h1)) hb.1 hb.2,hs,by simp,by simp,λy hy=>by cases hy⟩
    ·rw[akO];refine⟨h.apart,by simp,λx hx y hy=>?_⟩;rw[akd] at hy;subst hy;rw[Rf];exact g3 x hx
theorem Sv.Ok.took (n tx:ad)(hs:jU (Tk.dw tx).1):(takeC s n tx).1.Ok N:=by
 unfold takeC;split
 ·exact h
 ·rename_i h1;split
  ·exact h
  ·split
   ·exact h
   ·rename_i x0 h2 h3;refine h.put (agH _) λx hx e=>?_
    have e2:=h.one hx e;rw[h2] at e2
    cases e2
    have h3:=Classical.not_not.1 h3;unfold oP at h3;split at h3
    ·cases h3
    ·split at h3
     ·cases h3
     ·rename_i h4 h5;have ho:=h.all x0 hx;refine⟨Sr.Ok.sweep ⟨ho.fit,ho.small,by simp[Sr.join];omega,?_,λy hy=>?_⟩,(vY _).1⟩
      ·simp only[Sr.join,akt,akw,alZ];rw[List.nodup_append];refine⟨ho.nd,by simp,λa ha b hb e=>?_⟩;rw[akd] at hb;subst e;rw[hb] at ha;exact uQ.1 (show jL Mb.nm (Tk.dw tx).1.n x0.cs=none by simpa using h4) ha
      ·rcases akg.1 hy with q|q
       ·exact ho.all y q
       ·rw[akd] at q;subst q;exact⟨(bM.Go.new (Ri (Classical.not_not.1 h1)) hs ho.fit.vM.ok).more (ajO _),yO.nil⟩
theorem Sv.Ok.pub (p:Po):(nT s p).1.Ok N:=by
 unfold nT;split
 ·exact h
 ·split
  ·exact h
  ·exact h.put (agH _) λx hx e=>⟨Sr.Ok.sweep ((h.all x hx).str (h.all x hx).fit.pub),(vY _).1⟩
theorem Sv.Ok.next (n who:ad):(nD s n who).1.Ok (N+1):=by
 unfold nD;split
 ·exact h.more (alE _)
 ·exact h.put (alE _) λx hx e=>⟨Sr.Ok.sweep ((h.all x hx).put (alE _) λy hy e=>⟨⟨((h.all x hx).all y hy).go.next (h.all x hx).fit.vM.ok _,((h.all x hx).all y hy).MV⟩,jy _ _ _⟩),(vY _).1⟩
theorem Sv.Ok.ans (n who:ad)(q so k:Int):(GN s n who q so k).1.Ok N:=by
 unfold GN;split
 ·exact h
 ·exact h.put (agH _) λx hx e=>⟨Sr.Ok.sweep ((h.all x hx).put (agH _) λy hy e=>⟨⟨((h.all x hx).all y hy).go.ans _ _ _ _,((h.all x hx).all y hy).MV⟩,uy _ _ _ _ _⟩),(vY _).1⟩
theorem Sv.Ok.pull (n who:ad)(p:dD):(jD s n who p).1.Ok N:=by
 unfold jD;split
 ·exact h
 ·split
  ·exact h
  ·exact h.put (agH _) λx hx e=>⟨(h.all x hx).put (agH _) λy hy e=>⟨⟨((h.all x hx).all y hy).go,((h.all x hx).all y hy).MV.ask _ _⟩,rfl⟩,rfl⟩
omit h in
theorem Xf {st:aH}(hs:st.Ok)(now:Int):∀(k:Nat) {c:bM} {N:Nat},c.Go N->(nG st.l now k c).1.Go (N+k)/\(nG st.l now k c).1.t=c.t
 | 0,c,N,h=>⟨h,rfl⟩
 | k+1,c,N,h=>by
  unfold nG;split
  ·exact⟨(h.next hs now).more (by omega),jy _ _ _⟩
  ·have:=Xf hs now k (h.next hs now);exact⟨this.1.more (by omega),this.2.trans (jy _ _ _)⟩
omit h in
theorem Xg {st:aH}(hs:st.Ok)(now:Int):∀(k:Nat) {y:Mb} {N:Nat},y.Ok N->(jM st.l now k y).1.Ok (N+k)/\(jM st.l now k y).1.c.t=y.c.t
 | 0,c,N,h=>⟨h,rfl⟩
 | k+1,c,N,h=>by
  unfold jM;split
  ·exact⟨⟨h.go.more (by omega),h.MV.at now⟩,rfl⟩
  ·split
   ·exact⟨⟨(h.go.next hs now).more (by omega),(h.MV.at now).idle now⟩,jy _ _ _⟩
   ·have:=Xg hs now k (y:=⟨(aK c.c st.l now).1,ug now (Hy now c.q)⟩) ⟨h.go.next hs now,(h.MV.at now).take now⟩;exact⟨this.1.more (by omega),this.2.trans (jy _ _ _)⟩
omit h in
theorem Rj (hs:st.Ok)(now:Int){y:Mb}(h:y.Ok N):(jG st.l now y).1.Ok (N+501)/\(jG st.l now y).1.c.t=y.c.t:=by
 unfold jG;split
 ·have:=Xf hs now 200 h.go;exact⟨⟨this.1.more (by omega),h.MV⟩,this.2⟩
 ·exact Xg hs now 501 h
end
theorem J6 {d:Nat}:∀(us:List Value) (o:Nat) {w w':I},w'.heap[d]?=w.heap[d]?->(w'.setCells d o us).heap[d]?=(w.setCells d o us).heap[d]?
 | [],_,_,_,h=>h
 | u::r,o,w,w',h=>J6 r (o+1) (by simp only[World.setCell];rw[Array.getElem?_modify,Array.getElem?_modify,h])
abbrev wF:=I->af->Prop
structure Own (B:Nat)(X:wF):Prop where
 own:∀{w F},X w F->∀k,F k->B<=k/\k<w.heap.size
 aF:∀{w w' F} {A:af},X w F->aA A w w'->(∀k,F k->¬A k)->X w' F
def Dd (X:wF)(w w':I)(F:af):Prop:=∃F',X w' F'/\aA F w w'/\∀k,F' k->F k\/w.heap.size<=k
section
variable {B:Nat}{X X' Y Y' Z:wF}{w w' w1 w2:I}{F G:af}
theorem Own.next (O:Own B X)(h:X w F)(hb:ai w w'):X w' F:=O.aF (A:=λ_=>False) h (aA.of_below hb) (λ_ _ z=>z)
theorem Own.same (O:Own B X)(h:X w F)(hb:ai w w'):Dd X w w' F:=⟨F,O.next h hb,aA.of_below hb,λ_ z=>.inl z⟩
theorem Dd.trans (h:Dd X w w1 F)(k:∀F1,X w1 F1->Dd Y w1 w2 F1):Dd Y w w2 F:=by
 obtain⟨F1,h1,h2,h3⟩:=h;obtain⟨F2,k1,k2,k3⟩:=k F1 h1;have:=h2.size;refine⟨F2,k1,h2.more k2 (λi hi z=>?_),λi z=>?_⟩
 ·rcases h3 i z with y|y
  ·exact y
  ·omega
 ·rcases k3 i z with y|y
  ·exact h3 i y
  ·exact .inr (by omega)
theorem Dd.fst (hb:ai w w1)(h:Dd X w1 w2 F):Dd X w w2 F:=by
 obtain⟨F1,h1,h2,h3⟩:=h;have:=hb.size;exact⟨F1,h1,(aA.of_below hb).trans h2,λi z=>(h3 i z).imp id (λy=>by omega)⟩
theorem Dd.snd (O:Own B X)(h:Dd X w w1 F)(hb:ai w1 w2):Dd X w w2 F:=h.trans λ_ z=>O.same z hb
theorem Dd.to (h:Dd X w w' F)(k:∀F',X w' F'->Y w' F'):Dd Y w w' F:=by
 obtain⟨F1,h1,h2⟩:=h;exact⟨F1,k F1 h1,h2⟩
def Two (X Y:wF):wF:=λw F=>∃F1 F2,X w F1/\Y w F2/\(∀k,F1 k->¬F2 k)/\∀k,F k↔F1 k\/F2 k
theorem Own.two (OX:Own B X)(OY:Own B Y):Own B (Two X Y) where
 own:=λ⟨_,_,h1,h2,_,h4⟩ k hk=>((h4 k).1 hk).elim (OX.own h1 k) (OY.own h2 k)
 aF:=λ⟨F1,F2,h1,h2,h3,h4⟩ hc hn=>⟨F1,F2,OX.aF h1 hc (λk hk=>hn k ((h4 k).2 (.inl hk))),OY.aF h2 hc (λk hk=>hn k ((h4 k).2 (.inr hk))),h3,h4⟩
theorem Two.both (OX:Own B X)(OY:Own B Y)(h:Two X Y w F):∃F1 F2,X w F1/\Y w F2/\(∀k,F1 k->¬F2 k)/\(∀k,F1 k->F k)/\(∀k,F2 k->F k)/\(∀{X':wF} {w':I},Dd X' w w' F1->Dd (Two X' Y) w w' F)/\∀{Y':wF} {w':I},Dd Y' w w' F2->Dd (Two X Y') w w' F:=by
 obtain⟨F1,F2,h1,h2,h3,h4⟩:=h;refine⟨F1,F2,h1,h2,h3,λk hk=>(h4 k).2 (.inl hk),λk hk=>(h4 k).2 (.inr hk),λ{X' w'} ⟨F1',g1,g2,g3⟩=>⟨λk=>F1' k\/F2 k,⟨F1',F2,g1,OY.aF h2 g2 (λk hk z=>h3 k z hk),λk hk z=>?_,λk=>alJ⟩,g2.mono (λk _ z=>(h4 k).2 (.inl z)),λk hk=>?_⟩,λ{Y' w'} ⟨F2',g1,g2,g3⟩=>⟨λk=>F1 k\/F2' k,⟨F1,F2',OX.aF h1 g2 h3,g1,λk hk z=>?_,λk=>alJ⟩,g2.mono (λk _ z=>(h4 k).2 (.inr z)),λk hk=>?_⟩⟩
 ·rcases g3 k hk with y|y
  ·exact h3 k y z
  ·have:=(OY.own h2 k z).2;omega
 ·rcases hk with z|z
  ·exact(g3 k z).imp (λy=>(h4 k).2 (.inl y)) id
  ·exact .inl ((h4 k).2 (.inr z))
 ·rcases g3 k z with y|y
  ·exact h3 k hk y
  ·have:=(OX.own h1 k hk).2;omega
 ·rcases hk with z|z
  ·exact .inl ((h4 k).2 (.inl z))
  ·exact(g3 k z).imp (λy=>(h4 k).2 (.inr y)) id
theorem Two.swap (h:Two X Y w F):Two Y X w F:=by
 obtain⟨F1,F2,h1,h2,h3,h4⟩:=h;exact⟨F2,F1,h2,h1,λk hk z=>h3 k z hk,λk=>(h4 k).trans Or.comm⟩
theorem Two.afT (OY:Own B Y)(h2:Y w F2)(h3:∀k,F1 k->¬F2 k)(h4:∀k,F k↔F1 k\/F2 k)(h:Dd X' w w' F1):Dd (Two X' Y) w w' F:=by
 obtain⟨F1',g1,g2,g3⟩:=h;refine⟨λk=>F1' k\/F2 k,⟨F1',F2,g1,OY.aF h2 g2 (λk hk z=>h3 k z hk),λk hk z=>?_,λk=>alJ⟩,g2.mono (λk _ z=>(h4 k).2 (.inl z)),λk hk=>?_⟩
 ·rcases g3 k hk with y|y
  ·exact h3 k y z
  ·have:=(OY.own h2 k z).2;omega
 ·rcases hk with z|z
  ·exact(g3 k z).imp (λy=>(h4 k).2 (.inl y)) id
  ·exact .inl ((h4 k).2 (.inr z))
theorem Two.J7 (OX:Own B X)(h1:X w F1)(h3:∀k,F1 k->¬F2 k)(h4:∀k,F k↔F1 k\/F2 k)(h:Dd Y' w w' F2):Dd (Two X Y') w w' F :=
 (Two.afT OX (X':=Y') h1 (λk hk z=>h3 k z hk) (λk=>(h4 k).trans Or.comm) h).to λ_=>Two.swap
theorem ac6 {A:af}{us:List Value}(h:aA A w w')(hd:d<w.heap.size)(hA:¬A d):aA A (w.setCells d 0 us) (w'.setCells d 0 us):=by
 have c1:=jo (g:=d) us 0 w;have c2:=jo (g:=d) us 0 w';have s1:=vV us 0 w (b:=d);have s2:=vV us 0 w' (b:=d);refine⟨c2.os.trans (h.os.trans c1.os.symm),c2.tape.trans (h.tape.trans c1.tape.symm),c2.output.trans (h.output.trans c1.output.symm),by rw[s1,s2];exact h.size,λk hk hn=>?_⟩;rw[s1] at hk;have hs:=h.size;by_cases e:k=d
 ·subst e;exact J6 us 0 (h.block k hk hA)
 ·rw[c2.block k (by omega) e,c1.block k hk e];exact h.block k hk hn
theorem Dd.both (O:Own B X)(us:List Value)(h:Dd X w w' F)(hd:d<w.heap.size)(hF:¬F d):Dd X (w.setCells d 0 us) (w'.setCells d 0 us) F:=by
 obtain⟨F',h1,h2,h3⟩:=h;refine⟨F',O.aF h1 (jo (g:=d) us 0 w') (λk hk z=>?_),ac6 h2 hd hF,λk hk=>(h3 k hk).imp id (λz=>by rw[vV];exact z)⟩;subst z;rcases h3 _ hk with q|q
 ·exact hF q
 ·omega
def Blk (B b:Nat)(l:List Value):wF:=λw F=>B<=b/\CB w b l/\(∀j,w.frozen? (aq b j)=false)/\∀k,F k↔k=b
theorem Own.blk (B b:Nat)(l:List Value):Own B (Blk B b l) where
 own:=λ⟨h1,h2,_,h4⟩ k hk=>by rw[(h4 k).1 hk];exact⟨h1,h2.lt⟩
 aF:=λ{w w' F A} ⟨h1,h2,h3,h4⟩ hc hn=>by
  have hb:¬A b:=hn b ((h4 b).2 rfl);exact⟨h1,h2.aF hc hb,λj=>(hc.frozen (p:=aq b j) h2.lt hb).trans (h3 j),h4⟩
theorem Own.ex {α:Type}{f:α->wF}(O:∀a,Own B (f a)):Own B (λw F=>∃a,f a w F) where
 own:=λ⟨a,h⟩=>(O a).own h
 aF:=λ⟨a,h⟩ hc hn=>⟨a,(O a).aF h hc hn⟩
def Up (B:Nat)(X:Nat->wF):wF:=λw F=>∃B',B<=B'/\B'<=w.heap.size/\X B' w F
theorem Own.up {X:Nat->wF}(O:∀B,Own B (X B)):Own B (Up B X) where
 own:=λ⟨B',h1,_,h3⟩ k hk=>by have:=(O B').own h3 k hk;exact⟨by omega,this.2⟩
 aF:=λ⟨B',h1,h2,h3⟩ hc hn=>⟨B',h1,ajA h2 hc.size,(O B').aF h3 hc hn⟩
theorem Up.open {X:Nat->wF}(h:Up B X w F):∃B',B'<=w.heap.size/\X B' w F/\∀{Y:Nat->wF} {w'},Dd (Y B') w w' F->Dd (Up B Y) w w' F:=by
 obtain⟨B',h1,h2,h3⟩:=h;exact⟨B',h2,h3,λ⟨F',g1,g2,g3⟩=>⟨F',⟨B',h1,ajA h2 g2.size,g1⟩,g2,g3⟩⟩
end
section
variable {α:Type}{nm:α->ad}{Q:α->Nat->wF}{B:Nat}{mb:Option Nat}{w w':I}{F:af}{l:List α}
def zZ (nm:α->ad)(bO:ad->Nat)(l:List α):Ps:=l.map λx=>(nm x,bO (nm x))
structure Aa (nm:α->ad)(Q:α->Nat->wF)(B:Nat)(mb:Option Nat)(l:List α)(w:I)(bO:ad->Nat)(fO:ad->Nat->Prop):Prop where
 ptr:mV w mb (zZ nm bO l)
 nd:(l.map nm).Nodup
 each:∀x∈l,Q x (bO (nm x)) w (fO (nm x))
 apart:∀x∈l,∀y∈l,nm x≠nm y->∀k,fO (nm x) k->¬fO (nm y) k
 Zz:∀b,mb=some b->B<=b/\∀x∈l,¬fO (nm x) b
def agN (nm:α->ad)(mb:Option Nat)(l:List α)(fO:ad->Nat->Prop)(k:Nat):Prop:=mb=some k\/∃x∈l,fO (nm x) k
def yt (nm:α->ad)(Q:α->Nat->wF)(B:Nat)(mb:Option Nat)(l:List α):wF:=λw F=>∃bO fO,Aa nm Q B mb l w bO fO/\∀k,F k↔agN nm mb l fO k
theorem Ac (nm:α->ad)(bO:ad->Nat)(l:List α)(n:ad):cZ (zZ nm bO l) n=(jL nm n l).map λx=>bO (nm x):=by
 unfold cZ zZ jL;rw[List.find?_map,Option.map_map];rfl
theorem Own.bag (O:∀x b,Own B (Q x b)):Own B (yt nm Q B mb l) where
 own:=λ{w F} ⟨bO,fO,h,hF⟩ k hk=>by
  rcases(hF k).1 hk with z|⟨x,hx,z⟩
  ·subst z;exact⟨(h.Zz k rfl).1,h.ptr.lt⟩
  ·exact(O x _).own (h.each x hx) k z
 aF:=λ⟨bO,fO,h,hF⟩ hc hn=>⟨bO,fO,⟨h.ptr.aF hc (λb hb=>hn b ((hF b).2 (.inl hb))),h.nd,λx hx=>(O x _).aF (h.each x hx) hc (λk hk=>hn k ((hF k).2 (.inr ⟨x,hx,hk⟩))),h.apart,h.Zz⟩,hF⟩
theorem Aa.next (O:∀x b,Own B (Q x b)){bO:ad->Nat}{fO:ad->Nat->Prop}(h:Aa nm Q B mb l w bO fO)(hb:ai w w'):Aa nm Q B mb l w' bO fO :=
 ⟨h.ptr.aF (A:=λ_=>False) (aA.of_below hb) (λ_ _ z=>z),h.nd,λx hx=>(O x _).next (h.each x hx) hb,h.apart,h.Zz⟩
theorem Aa.one (O:∀x b,Own B (Q x b)){bO:ad->Nat}{fO:ad->Nat->Prop}(h:Aa nm Q B mb l w bO fO)(hF:∀k,F k↔agN nm mb l fO k){x:α}(hx:x∈l) :
 Q x (bO (nm x)) w (fO (nm x))/\(∀k,fO (nm x) k->F k)/\∀{f:α->α} {w'},nm (f x)=nm x->Dd (Q (f x) (bO (nm x))) w w' (fO (nm x))->Dd (yt nm Q B mb (Dp nm (nm x) f l)) w w' F:=by
 refine⟨h.each x hx,λk hk=>(hF k).2 (.inr ⟨x,hx,hk⟩),λ{f w'} hf ⟨F',g1,g2,g3⟩=>?_⟩;have hup:∀y∈l,nm y=nm x->y=x:=λy hy e=>by
  have a:=rU h.nd hy;have b:=rU h.nd hx;rw[e,b] at a;exact(ajU a).symm
 have ac7:(Dp nm (nm x) f l).map nm=l.map nm:=GU λy hy e=>by rw[hup y hy e,hf]
 have hout:∀y∈l,nm y≠nm x->∀k,fO (nm y) k->¬fO (nm x) k:=λy hy e=>h.apart y hy x hx e
 have hps:zZ nm bO (Dp nm (nm x) f l)=zZ nm bO l:=by
  unfold zZ;have:=congrArg (List.map λn=>(n,bO n)) ac7;rw[List.map_map,List.map_map] at this;exact this
 have hold:∀y∈l,∀k,fO (nm y) k->k<w.heap.size:=λy hy k hk=>((O y _).own (h.each y hy) k hk).2
 have hin:∀y',y'∈Dp nm (nm x) f l->(y'=f x/\nm y'=nm x)\/(y'∈l/\nm y'≠nm x):=λy' hy'=>by
  obtain⟨y,hy,rfl⟩:=UY hy';by_cases e:nm y=nm x
  ·left;rw[if_pos e,hup y hy e];exact⟨rfl,hf⟩
  ·right;rw[if_neg e];exact⟨hy,e⟩
 refine⟨λk=>agN nm mb (Dp nm (nm x) f l) (λn=>if n=nm x then F' else fO n) k,⟨bO,λn=>if n=nm x then F' else fO n,⟨?_,by rw[ac7];exact h.nd,λy hy=>?_,λy hy z hz hyz k hk=>?_,λb hb=>⟨(h.Zz b hb).1,λy hy=>?_⟩⟩,λ_=>alJ⟩,g2.mono (λk _ hk=>(hF k).2 (.inr ⟨x,hx,hk⟩)),λk hk=>?_⟩
 ·rw[hps];exact h.ptr.aF g2 (λb hb=>(h.Zz b hb).2 x hx)
 ·rcases hin y hy with ⟨rfl,e⟩|⟨hy,e⟩
  ·simp only[e,if_pos];exact g1
  ·simp only[if_neg e];exact(O y _).aF (h.each y hy) g2 (hout y hy e)
 ·rcases hin y hy with ⟨rfl,e⟩|⟨hy,e⟩
  ·rcases hin z hz with ⟨rfl,e2⟩|⟨hz,e2⟩
   ·exact absurd rfl hyz
   ·simp only[e,if_pos] at hk;simp only[if_neg e2];intro hk2;rcases g3 k hk with q|q
    ·exact hout z hz e2 k hk2 q
    ·have:=hold z hz k hk2;omega
  ·simp only[if_neg e] at hk;rcases hin z hz with ⟨rfl,e2⟩|⟨hz,e2⟩
   ·simp only[e2,if_pos];intro hk2;rcases g3 k hk2 with q|q
    ·exact hout y hy e k hk q
    ·have:=hold y hy k hk;omega
   ·simp only[if_neg e2];exact h.apart y hy z hz hyz k hk
 ·rcases hin y hy with ⟨rfl,e⟩|⟨hy,e⟩
  ·simp only[e,if_pos];intro q;rcases g3 b q with q|q
   ·exact(h.Zz b hb).2 x hx q
   ·subst hb;have:=h.ptr.lt;omega
  ·simp only[if_neg e];exact(h.Zz b hb).2 y hy
 ·rcases hk with z|⟨y,hy,z⟩
  ·exact .inl ((hF k).2 (.inl z))
  ·rcases hin y hy with ⟨rfl,e⟩|⟨hy,e⟩
   ·simp only[e,if_pos] at z;exact(g3 k z).imp (λq=>(hF k).2 (.inr ⟨x,hx,q⟩)) id
   ·simp only[if_neg e] at z;exact .inl ((hF k).2 (.inr ⟨y,hy,z⟩))
theorem yt.add {b:Nat}(O:∀x b,Own B (Q x b)){mt et:TypeId}(hm:prog.underlying mt=some (.map 9 et))(h:yt nm Q B (some b) l w F)(hl:l.length<1000){x:α}(hn:jL nm (nm x) l=none)(hs:(nm x).size<=maxLen){c:Nat}{Fx:af}(hx:Q x c w Fx)(hd:∀k,Fx k->¬F k) :
 ∃w',(Instr.mapUpdate mt (.map (some b)) (.string (nm x)) (ae c)).run prog w=.ok () w'/\yt nm Q B (some b) (l++[x]) w' (λk=>F k\/Fx k)/\aA (λk=>k=b) w w':=by
 obtain⟨bO,fO,h,hF⟩:=h;have hlen:(zZ nm bO l).length<maxLen:=by unfold zZ maxLen;rw[akk];omega
 obtain⟨w',hr,hp,hc⟩:=h.ptr.store hm hlen (nm x) hs c (by rw[Ac,hn];rfl);have hne:∀y∈l,nm y≠nm x:=by_none hn;have hin:∀y,y∈l++[x]->y∈l\/y=x:=λy hy=>by simpa using hy
 have hFy:∀y∈l,∀k,fO (nm y) k->F k:=λy hy k hk=>(hF k).2 (.inr ⟨y,hy,hk⟩)
 refine⟨w',hr,⟨λn=>if n=nm x then c else bO n,λn=>if n=nm x then Fx else fO n,⟨?_,?_,λy hy=>?_,λy hy z hz hyz k hk=>?_,λb' hb=>?_⟩,λk=>?_⟩,hc⟩
 ·have:zZ nm (λn=>if n=nm x then c else bO n) (l++[x])=zZ nm bO l++[(nm x,c)]:=by
   unfold zZ;rw[akt,alP (g:=λy=>(nm y,bO (nm y))) (λy hy=>by simp only[if_neg (hne y hy)])];simp
  rw[this];exact hp
 ·rw[akt,List.nodup_append];refine⟨h.nd,by simp,λa ha b hb e=>?_⟩;obtain⟨y,hy,rfl⟩:=alh.1 ha;simp at hb;exact hne y hy (e.trans hb)
 ·rcases hin y hy with hy|rfl
  ·simp only[if_neg (hne y hy)];exact(O y _).aF (h.each y hy) hc (λk hk z=>(h.Zz b rfl).2 y hy (z▸hk))
  ·simp only[if_pos];exact(O y _).aF hx hc (λk hk z=>hd k hk ((hF k).2 (.inl (by rw[z]))))
 ·rcases hin y hy with hy1|rfl
  ·simp only[if_neg (hne y hy1)] at hk;rcases hin z hz with hz'|e
   ·simp only[if_neg (hne z hz')];exact h.apart y hy1 z hz' hyz k hk
   ·subst e;simp only[if_pos];exact λq=>hd k q (hFy y hy1 k hk)
  ·simp only[if_pos] at hk;rcases hin z hz with hz'|e
   ·simp only[if_neg (hne z hz')];exact λq=>hd k hk (hFy z hz' k q)
   ·exact absurd (by rw[e]) hyz
 ·refine⟨(h.Zz b' hb).1,λy hy=>?_⟩;rcases hin y hy with hy|rfl
  ·simp only[if_neg (hne y hy)];exact(h.Zz b' hb).2 y hy
  ·simp only[if_pos];exact λq=>hd b' q ((hF b').2 (.inl hb))
 ·constructor
  ·rintro (z|z)
   ·rcases(hF k).1 z with q|⟨y,hy,q⟩
    ·exact .inl q
    ·exact .inr ⟨y,by simp[hy],by simp only[if_neg (hne y hy)];exact q⟩
   ·exact .inr ⟨x,by simp,by simp only[if_pos];exact z⟩
  ·rintro (z|⟨y,hy,q⟩)
   ·exact .inl ((hF k).2 (.inl z))
   ·rcases hin y hy with hy|rfl
    ·simp only[if_neg (hne y hy)] at q;exact .inl (hFy y hy k q)
    ·simp only[if_pos] at q;exact .inr q
theorem yt.made (B:Nat)(hB:B<=w.heap.size):yt nm Q B (some w.heap.size) [] (w.alloc (.map #[] 0)) (λk=>k=w.heap.size):=by
 refine⟨λ_=>0,λ_ _=>False,⟨mV.made w,by simp,λx hx=>(by cases hx),λx hx=>(by cases hx),λb hb=>⟨by cases hb;exact hB,λx hx=>(by cases hx)⟩⟩,λk=>⟨λe=>.inl (by rw[e]),λe=>?_⟩⟩;rcases e with e|⟨x,hx,_⟩
 ·exact(ajU e).symm
 ·cases hx
theorem yt.nil (B:Nat)(w:I):yt nm Q B none [] w (λ_=>False):=by
 refine⟨λ_=>0,λ_ _=>False,⟨.inl ⟨rfl,rfl⟩,by simp,λx hx=>(by cases hx),λx hx=>(by cases hx),λb hb=>(by cases hb)⟩,λk=>⟨λe=>e.elim,λe=>?_⟩⟩;rcases e with e|⟨x,hx,_⟩
 ·cases e
 ·cases hx
end
structure Cl where
 k:Int
 a:ad
 b:ad
 n:Int
 m:Int
 p:Po
 so:Int
 an:Int
 nw:Bool
def ai8 (s:Sv)(c:Cl):Sv :=
 if c.k=0 then (fP s c.a c.n c.m).1 else if c.k=1 then (ahO s c.a).1 else if c.k=2 then (takeC s c.a c.b).1 else if c.k=3 then (agK s c.a c.b).1
 else if c.k=4 then (nT s c.p).1 else if c.k=5 then (nD s c.a c.b).1 else if c.k=6 then (GN s c.a c.b c.n c.so c.an).1
 else if c.k=7 then (jD s c.a c.b ⟨c.n,c.m,c.nw⟩).1 else if c.k=8 then (lq s c.a c.b).1 else if c.k=9 then (agL s c.a c.n).1
 else if c.k=10 then (agM s c.a c.b c.n).1 else if c.k=11 then (ahP s c.a).1 else if c.k=12 then (ahQ s c.n).1 else if c.k=13 then UW s else s
theorem UZ:gI Pn.iG:=⟨by decide,λk hk=>absurd hk (akh k),by decide,rfl⟩
theorem CZ {n:ad}(h:Pn.eF n=true):n.size<=140737488355328:=by
 unfold Pn.eF at h;simp only[ajN,ajG] at h;omega
theorem Rk (tx:ad):(Pn.cu tx).1=Pn.iG\/Pn.aZ (Pn.cu tx).1=0:=by
 unfold Pn.cu;split
 ·exact .inl rfl
 ·split
  ·split
   ·split
    ·exact .inr (by assumption)
    ·exact .inl rfl
   ·exact .inl rfl
  ·exact .inl rfl
theorem qg (tx:ad):gI (Pn.cu tx).1:=by
 rcases Rk tx with h|h
 ·rw[h];exact UZ
 ·obtain⟨h1,h2,_,h4,_,h6⟩:=Pn.kU h;refine⟨CZ h1,λk hk=>?_,by omega,(Pn.OJ h6).1⟩;have:=(Pn.E8 (Pn.vI h4 (tk (Pn.cu tx).1.f k) (by unfold tk;rw[ajC hk];exact ako hk))).1;omega
theorem Rl (tx:ad):(Tk.dw tx).1=Tk.dB\/Tk.iV (Tk.dw tx).1=0:=by
 unfold Tk.dw;split
 ·exact .inl rfl
 ·split
  ·split
   ·split
    ·exact .inr (by assumption)
    ·exact .inl rfl
   ·exact .inl rfl
  ·exact .inl rfl
theorem ig (tx:ad):jU (Tk.dw tx).1:=by
 rcases Rl tx with h|h
 ·rw[h];exact⟨by decide,by decide,by decide⟩
 ·obtain⟨h1,h2,h3,_⟩:=Tk.Bg h;have:=(Pn.E8 h2).1;exact⟨CZ h1,by omega,by omega⟩
def Str.bare (st:Str):Str:=⟨st.es,st.s,[]⟩
def Alike (s m:Sv):Prop:=UW s=UW m
abbrev tT0:ad:=⟨#[107,101,101,112,32,107,46,62]⟩
abbrev tT1:ad:=⟨#[104,101,101,100,32,104,46,62,32,107,101,101,112,61,49]⟩
abbrev tT2:ad:=⟨#[119,111,114,107,32,119,46,62,32,107,101,101,112,61,50]⟩
abbrev aO:ad:=⟨#[107,101,101,112]⟩
abbrev GX:ad:=⟨#[104,101,101,100]⟩
abbrev GY:ad:=⟨#[119,111,114,107]⟩
abbrev tU0:ad:=⟨#[97,108,108,32,107,46,62,32,119,97,105,116,61,53]⟩
abbrev tU1:ad:=⟨#[111,110,101,32,104,46,97,46,62,32,119,97,105,116,61,53]⟩
abbrev tU2:ad:=⟨#[116,119,111,32,104,46,62,32,119,97,105,116,61,53,32,109,111,115,116,61,50]⟩
abbrev tU3:ad:=⟨#[97,32,119,46,97,46,42,32,119,97,105,116,61,53]⟩
abbrev tU4:ad:=⟨#[98,32,119,46,98,46,42,32,119,97,105,116,61,53,32,109,111,115,116,61,50]⟩
def tN:Nat->ad
 | 0=>aO
 | 1=>GX
 | _=>GY
def tM:Nat->ad
 | 0=>⟨#[97,108,108]⟩
 | 1=>⟨#[111,110,101]⟩
 | _=>⟨#[97]⟩
def tX:Nat->ad
 | 0=>⟨#[107,46,120]⟩
 | 1=>⟨#[104,46,97,46,120]⟩
 | _=>⟨#[119,46,97,46,120]⟩
abbrev nH (n d:ad):Po:=⟨n,⟨#[]⟩,⟨#[]⟩,d,-1,0⟩
def tB0:Sv:=⟨[],0⟩
def tB1:Sv:=(fP tB0 tT0 65536 4096).1
def tB2:Sv:=(fP tB1 tT1 65536 4096).1
def tB3:Sv:=(fP tB2 tT2 65536 4096).1
def tB4:Sv:=(takeC tB3 aO tU0).1
def tB5:Sv:=(takeC tB4 GX tU1).1
def tB6:Sv:=(takeC tB5 GX tU2).1
def tB7:Sv:=(takeC tB6 GY tU3).1
def tB8:Sv:=(takeC tB7 GY tU4).1
theorem agO (N:Nat):(⟨[],0⟩:Sv).Ok N:=⟨by show(0:Int)<=0/\(0:Int)<=1099511627776;omega,ajO _,List.Pairwise.nil,(λx hx=>by cases hx),List.Pairwise.nil⟩
theorem ac8:tB0.Ok 0:=agO 0
theorem ac9:tB1.Ok 0:=ac8.stream _ _ _ (qg _)
theorem ada:tB2.Ok 0:=ac9.stream _ _ _ (qg _)
theorem adb:tB3.Ok 0:=ada.stream _ _ _ (qg _)
theorem ade:tB4.Ok 0:=adb.took _ _ (ig _)
theorem adf:tB5.Ok 0:=ade.took _ _ (ig _)
theorem adg:tB6.Ok 0:=adf.took _ _ (ig _)
theorem adh:tB7.Ok 0:=adg.took _ _ (ig _)
theorem U1:tB8.Ok 0:=adh.took _ _ (ig _)
def tP:Nat->Sv
 | 0=>tB8
 | i+1=>(nT (tP i) (nH (tX i) ⟨#[100]⟩)).1
theorem Xh:∀i,(tP i).Ok 0
 | 0=>U1
 | i+1=>(Xh i).pub _
def tQ:Nat->Sv
 | 0=>tP 3
 | i+1=>(GN (nD (tQ i) (tN i) (tM i)).1 (tN i) (tM i) 1 1 0).1
theorem Xi:∀i,(tQ i).Ok i
 | 0=>Xh 3
 | i+1=>((Xi i).next _ _).ans _ _ _ _ _
theorem aiL:∀i,i<3->(nT (tP i) (nH (tX i) ⟨#[100]⟩)).2.2.1=1/\(nT (tP i) (nH (tX i) ⟨#[100]⟩)).2.2.2.2=0:=by decide +kernel
theorem agQ:∀i,i<3->(GR (tP 3) (tN i)).1.length=1:=by decide +kernel
theorem aiM:∀i,i<3->((nD (tQ i) (tN i) (tM i)).2.2=0/\(nD (tQ i) (tN i) (tM i)).2.1.q=1)/\(GN (nD (tQ i) (tN i) (tM i)).1 (tN i) (tM i) 1 1 0).2=0:=by decide +kernel
theorem agR:∀i,i<3->(GR (tQ 3) (tN i)).1.length=if i<2 then 1 else 0:=by decide +kernel
theorem afx (i:Nat):(tX i).size<=140737488355328:=by
 match i with
 | 0=>decide
 | 1=>decide
 | _+2=>show(tX 2).size<=140737488355328;decide
theorem MW (i:Nat):(tN i).size<=maxLen:=by
 match i with
 | 0=>decide
 | 1=>decide
 | _+2=>show(tN 2).size<=maxLen;decide
theorem Xj (i:Nat):(tM i).size<=maxLen:=by
 match i with
 | 0=>decide
 | 1=>decide
 | _+2=>show(tM 2).size<=maxLen;decide
def Same (n:ad)(s m:Sv):Prop:=jL Sr.nm n s.l=jL Sr.nm n m.l/\s.t=m.t
section
variable {n a:ad}{s m r:Sv}
theorem ZA {f:Sr->Sr}(hf:∀x,(f x).nm=x.nm)(ha:a≠n):Same n (s.put a f) s:=by
 refine⟨?_,rfl⟩;show jL Sr.nm n (Dp Sr.nm a f s.l)=jL Sr.nm n s.l;rw[Xe n (λx _ _=>hf x)]
 cases e:jL Sr.nm n s.l with
 | none=>rfl
 | some x =>
  have:=(by_some e).2;show some (if x.nm=a then f x else x)=some x;rw[if_neg (λz:x.nm=a=>ha (z.symm.trans this))]
theorem adi (x:Sr):x.sweep.nm=x.nm:=by unfold Sr.nm;rw[(vY x).1]
end
abbrev x9:ad:=⟨#[112]⟩
def tPt (push:Bool):ad:=if push=true then ⟨#[112,32,107,46,62,32,119,97,105,116,61,57,32,112,117,115,104]⟩ else ⟨#[112,32,107,46,62,32,119,97,105,116,61,57]⟩
abbrev tKf:ad:=⟨#[107,46,62]⟩
def ZB:Pn.aX:=⟨aO,[tKf],[0,0,0,0,0,0,0,0]⟩
def tPc (push:Bool):Tk.bJ:=⟨x9,tKf,0,0,2,9,[],0,0,push⟩
def tPs (push:Bool):Sv:=(takeC tB8 aO (tPt push)).1
theorem agS (push:Bool):(tPs push).Ok 0:=U1.took _ _ (ig _)
theorem ahR (push:Bool):(takeC tB8 aO (tPt push)).2=0:=by cases push<;>decide +kernel
structure Kp (push:Bool)(s:Sv)(n:Nat)(q:List dD)(x:Sr)(y:Mb):Prop where
 by1:jL Sr.nm aO s.l=some x
 pl:x.P=ZB
 by2:jL Mb.nm x9 x.cs=some y
 co:y=⟨⟨tPc push,1,[],0⟩,q⟩
 num:x.st.s.l.length=n
 all:∀r∈x.st.s.l,ng tKf r.s=true/\1<=r.q
 t:s.t=0
def xOf (s:Sv):Sr:=(jL Sr.nm aO s.l).getD ⟨Pn.iG,0,0,kG,[]⟩
def yOf (s:Sv):Mb:=(jL Mb.nm x9 (xOf s).cs).getD ⟨⟨Tk.dB,0,[],0⟩,[]⟩
theorem adk (push:Bool):∃x y,Kp push (tPs push) 0 [] x y:=by
 have h0:(xOf (tPs push)).st.s.l.length=0:=by cases push<;>kernel_rfl
 refine⟨xOf (tPs push),yOf (tPs push),?_,?_,?_,?_,h0,(λr hr=>absurd (List.length_pos_of_mem hr) (by omega)),?_⟩
 ·cases push<;>kernel_rfl
 ·cases push<;>kernel_rfl
 ·cases push<;>kernel_rfl
 ·cases push<;>kernel_rfl
 ·cases push<;>kernel_rfl
theorem ZC {P:Pn.aX}{now:Int}{p:Po}(h:sN P now p=0):bV P p.s=true:=by
 unfold sN at h;split at h
 ·cases h
 ·split at h
  ·rename_i q;exact absurd h q
  ·split at h
   ·cases h
   ·rename_i q;simpa using q
theorem adl (m z now:Int)(p:Po)(st:Str)(hi:p.i.size=0)(hx:p.x=-1)(hr:p.ro=0) :
 ((dX ZB m z now p st).1.2.2=0->(dX ZB m z now p st).2.s.l=st.s.l++[iH (st.s.last+1) now p]/\bV ZB p.s=true)/\((dX ZB m z now p st).1.2.2≠0->(dX ZB m z now p st).2.s.l=st.s.l):=by
 have hag:oG ZB now p st.ids=false:=by unfold oG;simp[hi]
 have h1:pv ZB 1=0:=rfl;have h3:bT ZB st.s.l p=false:=rfl;have h0:bK ZB st.s.l p=false:=rfl;have hroom:kW ZB m z now p st.es st.s=(0,st.es,st.s):=by
  unfold kW;rw[if_neg (λq=>q.1 h1)];unfold pO;rw[h3,h0];rfl
 unfold dX;by_cases hp:sN ZB now p≠0
 ·rw[if_pos hp];exact⟨λq=>absurd q hp,λ_=>rfl⟩
 ·rw[if_neg hp,hag,if_neg (by simp),if_neg (by rw[hx];simp),hroom,if_neg (by simp)];have ht:=ZC (Classical.not_not.1 hp);show((mF m z now p st.ids st.es st.s).1.2.2=0->_)/\((mF m z now p st.ids st.es st.s).1.2.2≠0->_);unfold mF;by_cases hd:ji st.es st.s m z (iH (st.s.last+1) now p)≠0
  ·rw[if_pos hd];exact⟨λq=>absurd q hd,λ_=>rfl⟩
  ·rw[if_neg hd,if_pos hr];have hd0:=Classical.not_not.1 hd;refine⟨λ_=>⟨?_,ht⟩,λq=>absurd rfl q⟩;show(oV st.es st.s m z _).l=_;unfold oV;rw[if_pos hd0];unfold kV;rw[if_neg (by rw[(VZ hd0).1];simp),if_pos (show(iH (st.s.last+1) now p).k=1 from rfl)]
theorem agT {s:Sv}{n N:Nat}{x:Sr}{y:Mb}(h:Kp push s n q x y)(ho:s.Ok N)(p:Po)(hi:p.i.size=0)(hx:p.x=-1)(hr:p.ro=0) :
 ∃x',Kp push (nT s p).1 (if (nT s p).2.2.2.2=0/\(nT s p).2.1=aO then n+1 else n) q x' y:=by
 unfold nT;by_cases he:aC false p.s≠0
 ·rw[if_pos he];exact⟨x,by rw[if_neg (λz=>he z.1)];exact h⟩
 rw[if_neg he]
 cases hf:s.l.find? λx=>bV x.P p.s with
 | none=>exact⟨x,by rw[if_neg (λz=>absurd (show(10:Int)=0 from z.1) (by decide))];exact h⟩
 | some z =>
  show ∃x',Kp push (s.put z.nm λx=>Sr.sweep {x with st:=(dX x.P x.m x.z s.t p x.st).2}) (if (dX z.P z.m z.z s.t p z.st).1.2.2=0/\z.nm=aO then n+1 else n) q x' y;by_cases hz:z.nm=aO
  ·have hzx:z=x:=by
    have:=ho.one (akY hf) hz;rw[h.by1] at this;exact(ajU this).symm
   subst hzx;have hsw:∀st,Sr.sweep {z with st:=st}={z with st:=st}:=λst=>by unfold Sr.sweep;rw[if_pos (by show pv z.P 6=0;rw[h.pl];rfl)]
   obtain⟨k1,k2⟩:=adl z.m z.z s.t p z.st hi hx hr;rw[<-h.pl] at k1 k2;have hl:=(ho.all z (by_some h.by1).1).fit.vM.ok.last;have hby:jL Sr.nm aO (s.put z.nm λx=>Sr.sweep {x with st:=(dX x.P x.m x.z s.t p x.st).2}).l=some {z with st:=(dX z.P z.m z.z s.t p z.st).2}:=by
    show jL Sr.nm aO (Dp Sr.nm z.nm _ s.l)=_;rw[Xe aO (f:=λx:Sr=>Sr.sweep {x with st:=(dX x.P x.m x.z s.t p x.st).2}) (λx _ _=>adi _),h.by1];show some (if z.nm=z.nm then _ else _)=_;rw[if_pos rfl,hsw]
   by_cases e0:(dX z.P z.m z.z s.t p z.st).1.2.2=0
   ·obtain⟨a1,a2⟩:=k1 e0;refine⟨{z with st:=(dX z.P z.m z.z s.t p z.st).2},?_⟩;rw[if_pos ⟨e0,hz⟩];refine⟨hby,h.pl,h.by2,h.co,by rw[a1,ajB,h.num];rfl,λr hr=>?_,h.t⟩;rw[a1] at hr;rcases akg.1 hr with w|w
    ·exact h.all r w
    ·rw[akd] at w;subst w;refine⟨?_,by show(1:Int)<=z.st.s.last+1;omega⟩;rw[h.pl] at a2;unfold bV at a2;simpa[ZB,iH] using a2
   ·exact⟨{z with st:=(dX z.P z.m z.z s.t p z.st).2},by rw[if_neg (λw=>e0 w.1)];exact⟨hby,h.pl,h.by2,h.co,by rw[k2 e0];exact h.num,λr hr=>h.all r (by rw[k2 e0] at hr;exact hr),h.t⟩⟩
  ·have hs:=ZA (s:=s) (n:=aO) (a:=z.nm) (f:=λx=>Sr.sweep {x with st:=(dX x.P x.m x.z s.t p x.st).2}) (λx=>adi _) hz;exact⟨x,by rw[if_neg (λw=>hz w.2)];exact⟨hs.1.trans h.by1,h.pl,h.by2,h.co,h.num,h.all,h.t⟩⟩
theorem Xk {s:Sv}{n:Nat}{x:Sr}{y:Mb}(h:Kp push s n q x y):s.at aO x9=some (x,y):=by
 unfold Sv.at;rw[h.by1];show(jL Mb.nm x9 x.cs).map _=_;rw[h.by2];rfl
theorem afy {s:Sv}{n:Nat}{x:Sr}{y:Mb}(h:Kp push s n q x y)(hq:NoEnd q)(b:Int) :
 (push=true->jD s aO x9 ⟨b,0,false⟩=(s,11))/\(push=false->(jD s aO x9 ⟨b,0,false⟩).2≠11/\∃x' y',Kp push (jD s aO x9 ⟨b,0,false⟩).1 n (if (jD s aO x9 ⟨b,0,false⟩).2=0 then q++[⟨b,0,false⟩] else q) x' y'):=by
 have hpu:y.c.t.pu=push:=by rw[h.co];rfl
 have hyq:y.q=q:=by rw[h.co]
 have hE:jD s aO x9 ⟨b,0,false⟩=if push=true then (s,11) else (s.put aO λx=>x.put x9 λy=>⟨y.c,oC 0 ⟨b,0,false⟩ y.q⟩,sK 0 ⟨b,0,false⟩ q):=by
  unfold jD;rw[Xk h];show(if y.c.t.pu=true then (s,(11:Int)) else (s.put aO λx=>x.put x9 λy=>⟨y.c,oC s.t ⟨b,0,false⟩ y.q⟩,sK s.t ⟨b,0,false⟩ y.q))=_;rw[hpu,hyq,h.t]
 rw[hE];refine⟨λe=>by rw[if_pos e],λe=>?_⟩;have hne:¬push=true:=by rw[e];decide
 rw[if_neg hne];have hk:=hq.keep 0;have he:oC 0 ⟨b,0,false⟩ q=if sK 0 ⟨b,0,false⟩ q=0 then q++[⟨b,0,false⟩] else q:=by
  unfold oC sK;rw[hk];split
  ·split<;>rfl
  ·rfl
 refine⟨?_,{x with cs:=Dp Mb.nm x9 (λy=>⟨y.c,oC 0 ⟨b,0,false⟩ y.q⟩) x.cs},⟨y.c,oC 0 ⟨b,0,false⟩ y.q⟩,⟨?_,h.pl,?_,?_,h.num,h.all,h.t⟩⟩
 ·show sK 0 ⟨b,0,false⟩ q≠11;unfold sK;split
  ·split<;>decide
  ·decide
 ·show jL Sr.nm aO (Dp Sr.nm aO _ s.l)=_;rw[Xe aO (f:=λx:Sr=>x.put x9 λy=>⟨y.c,oC 0 ⟨b,0,false⟩ y.q⟩) (λx _ _=>rfl),h.by1];show some (if x.nm=aO then _ else _)=_;rw[if_pos (by_some h.by1).2];rfl
 ·show jL Mb.nm x9 (Dp Mb.nm x9 _ x.cs)=_;rw[Xe x9 (f:=λy:Mb=>⟨y.c,oC 0 ⟨b,0,false⟩ y.q⟩) (λx _ _=>rfl),h.by2];show some (if y.nm=x9 then _ else _)=_;rw[if_pos (by_some h.by2).2]
 ·show(⟨y.c,oC 0 ⟨b,0,false⟩ y.q⟩:Mb)=⟨_,if sK 0 ⟨b,0,false⟩ q=0 then _ else _⟩;rw[hyq,he,h.co]
def cJ (push:Bool)(l:List Rc)(j:Nat):bM:=⟨tPc push,Bl 1 l j,(l.take j).map λr=>⟨r.q,1,0+Tk.fH (tPc push) 1⟩,(j:Int)⟩
theorem adn (hs:st.Ok)(ha:∀r∈st.l,ng tKf r.s=true/\1<=r.q){j:Nat}(hj:j<=st.l.length) :
 aK (cJ push st.l j) st.l 0=if j<st.l.length then (cJ push st.l (j+1),some (rc st.l j,1),0) else (cJ push st.l j,none,4):=by
 have hU:kY tKf 1 st.l=st.l:=akZ.2 (λr hr=>by rw[(ha r hr).1,ajH (ha r hr).2];rfl);have hn:=Ub (f:=tKf) (p:=1) hs (k:=j) (by rw[hU];exact hj);rw[hU] at hn;have hag:kH (cJ push st.l j).t st.l 0 (cJ push st.l j).pe=((cJ push st.l j).pe,none):=by
  have:=abo (t:=tPc push) (l:=st.l) (now:=0) (a:=(cJ push st.l j).pe) (λp hp=>by
   obtain⟨r,_,rfl⟩:=alh.1 hp;show(0:Int)<0+Tk.fH (tPc push) 1
   cases push<;>decide +kernel) []
  rw[akQ] at this;rw[show(cJ push st.l j).t=tPc push from rfl,this];show(_++[],none)=_;rw[akQ]
 rw[Pq (by decide) (by rw[hag]),hag];unfold newC;rw[if_neg (by unfold LW;simp[cJ,tPc]),show aV (cJ push st.l j).t.f st.l (cJ push st.l j).pl=st.l[j]? from hn];by_cases hlt:j<st.l.length
 ·rw[if_pos hlt,ajC hlt,<-bU hlt];show((⟨tPc push,(rc st.l j).q+1,_++[_],_⟩:bM),_,_)=(⟨tPc push,(rc st.l j).q+1,_,_⟩,_,_);congr 2
  rw[List.take_add_one,ajC hlt,<-bU hlt];show _=((st.l.take j)++[rc st.l j]).map _;rw[akt];rfl
 ·rw[if_neg hlt,ald (by omega)]
theorem ado {push:Bool}{st:aH}(hs:st.Ok)(ha:∀r∈st.l,ng tKf r.s=true/\1<=r.q):∀(d j k:Nat),j+d=st.l.length->d<k->(nG st.l 0 k (cJ push st.l j)).2.map (·.q)=(st.l.drop j).map (·.q)
 | _,_,0,_,h=>absurd h (akh _)
 | d,j,k+1,hj,hk=>by
  unfold nG;rw[adn hs ha (by omega)];by_cases hlt:j<st.l.length
  ·rw[if_pos hlt];match d,hj,hk with
   | 0,hj,_=>omega
   | d+1,hj,hk =>
    show((rc st.l j).q::(nG st.l 0 k (cJ push st.l (j+1))).2.map (·.q))=_;rw[ado hs ha d (j+1) k (by omega) (by omega),bU hlt,ajW hlt,akw]
  ·rw[if_neg hlt,aki (by omega)];rfl
theorem sum_nil (hb:∀p∈q,1<=p.b)(h:mQ q<=0):q=[]:=by
 cases q with
 | nil=>rfl
 | cons p r =>
  have h0:∀r:List dD,(∀p∈r,1<=p.b)->0<=mQ r:=by
   intro r;induction r with
   | nil=>intro _;exact amb _
   | cons a r ih=>intro hr;have:=ih (λx hx=>hr x (ajS _ hx));have:=hr a (ajP ..);simp only[mQ];omega
  have:=h0 r (λx hx=>hb x (ajS _ hx));have:=hb p (ajP ..);simp only[mQ] at h;omega
theorem adp (hb:∀p∈q,1<=p.b):∀p∈qB q,1<=p.b:=by
 cases q with
 | nil=>exact hb
 | cons p r =>
  intro x hx;have hp:=hb p (ajP ..);have hx2:x∈(if p.b-1=0 then r else ⟨p.b-1,p.t,p.nw⟩::r):=hx;split at hx2
  ·exact hb x (ajS _ hx2)
  ·rcases akb.1 hx2 with z|z
   ·subst z;show 1<=p.b-1;omega
   ·exact hb x (ajS _ z)
theorem adq {push:Bool}{st:aH}(hs:st.Ok)(ha:∀r∈st.l,ng tKf r.s=true/\1<=r.q):∀(S j k:Nat) (q:List dD),j<=st.l.length->NoEnd q->(∀p∈q,1<=p.b)->mQ q=(S:Int)->S<k->(jM st.l 0 k ⟨cJ push st.l j,q⟩).2.map (·.q)=((st.l.drop j).take S).map (·.q)
 | _,_,0,_,_,_,_,_,h=>absurd h (akh _)
 | S,j,k+1,q,hj,hq,hb,hS,hk=>by
  have hw:xA 0 q=(q.length:Int):=by unfold xA;rw[if_pos (by decide),hq.keep]
  have hat:Hy 0 q=q:=by unfold Hy;rw[if_pos (by decide),hq.keep]
  have htk:ug 0 q=qB q:=by unfold ug;rw[if_pos (by decide),hq.keep]
  unfold jM;show(if xA 0 q<=0 then _ else _:Mb×List mM).2.map _=_;rw[hw];by_cases hz:(q.length:Int)<=0
  ·rw[if_pos hz];have:q=[]:=ajZ.1 (by omega);subst this;have:S=0:=by simp only[mQ] at hS;omega
   subst this;rfl
  ·rw[if_neg hz];have h1:=XE (l:=q) (by omega);have hpos:0<S:=by
    rcases amG S with z|z
    ·have:=sum_nil hb (by rw[hS,z];exact amb _);rw[this] at hz;exact absurd (by decide) hz
    ·exact z
   obtain⟨S',rfl⟩:∃S',S=S'+1:=⟨S-1,by omega⟩;show(if (aK (cJ push st.l j) st.l 0).2.2≠0 then _ else _:Mb×List mM).2.map _=_;rw[adn hs ha hj];by_cases hlt:j<st.l.length
   ·rw[if_pos hlt,hat,htk];show((rc st.l j).q::(jM st.l 0 k ⟨cJ push st.l (j+1),qB q⟩).2.map (·.q))=_;rw[adq hs ha S' (j+1) k (qB q) hlt hq.af6 (adp hb) (by rw[h1,hS];omega) (by omega),bU hlt,ajW hlt,alY,akw]
   ·rw[if_neg hlt,aki (by omega)];rfl
theorem adr {s:Sv}{n N:Nat}{x:Sr}{y:Mb}(h:Kp push s n q x y)(ho:s.Ok N)(hn:n<=60)(hq:NoEnd q)(hb:∀p∈q,1<=p.b){S:Nat}(hS:mQ q=(S:Int))(h5:S<=450) :
 (lq s aO x9).2.2=0/\(lq s aO x9).2.1.length=(if push=true then n else min n S)/\(lq s aO x9).2.1.Pairwise λa b=>a.q<b.q:=by
 have hs:=(ho.all x (by_some h.by1).1).fit.vM.ok;have key:∃l':List Rc,l'.Sublist x.st.s.l/\l'.length=(if push=true then n else min n S)/\(lq s aO x9).2.1.map (·.q)=l'.map (·.q):=by
  unfold lq;rw[Xk h];show ∃l':List Rc,_/\_/\(jG x.st.s.l s.t y).2.map (·.q)=_;rw[h.t];have hc:y.c=cJ push x.st.s.l 0:=by rw[h.co];rfl
  have hyq:y.q=q:=by rw[h.co]
  have hpu:y.c.t.pu=push:=by rw[h.co];rfl
  unfold jG;rw[hpu];by_cases e:push=true
  ·rw[if_pos e,if_pos e,hc];refine⟨x.st.s.l,amI _,h.num,?_⟩;show(nG x.st.s.l 0 200 (cJ push x.st.s.l 0)).2.map (·.q)=_;rw[ado hs h.all x.st.s.l.length 0 200 (by omega) (by have:=h.num;omega)];rfl
  ·rw[if_neg e,if_neg e];refine⟨x.st.s.l.take S,List.take_sublist _ _,by rw[ajL,h.num];exact Nat.min_comm _ _,?_⟩;show(jM x.st.s.l 0 501 y).2.map (·.q)=_;rw[show y=⟨cJ push x.st.s.l 0,q⟩ from by rw[<-hc,<-hyq],adq hs h.all S 0 501 q (ajO _) hq hb hS (by omega)];rfl
 obtain⟨l',h1,h2,h3⟩:=key;refine⟨?_,?_,?_⟩
 ·unfold lq;rw[Xk h]
 ·rw[<-h2,<-akk (f:=λd:mM=>d.q),h3,akk]
 ·have hp:(l'.map (·.q)).Pairwise λa b=>a<b:=List.pairwise_map.2 (hs.rise.sublist h1)
  rw[<-h3] at hp;exact List.pairwise_map.1 hp
