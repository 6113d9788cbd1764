/- A part. -/
import Derived.Test.YtebofkkfbkodiaaGreatDoorQ13
import Derived.Test.YtebofkkfbkodiaaGreatDoorQ17
import Derived.Deep.DeepCutAuto
set_option maxRecDepth 100000
set_option maxHeartbeats 8000000
namespace Go.Proofs.YtebofkkfbkodiaaGreatDoor
open Go.RowKit Go.Proofs.Tryz
namespace Dk
theorem Qy (w:I)(ty:TypeId)(a:Option Addr)(l:List Int)(c:Nat)(h:kK w a l)(hl:l.length<=100000) :
 ∃a' c' w',(Builtin.append_ #[26,26] ty #[.slice none 0 0,.slice a l.length c]).run prog w=.ok (.slice a' l.length c') w'/\Nums w' w.heap.size (.slice a' l.length c') l/\ai w w':=by
 obtain⟨i0,hi,hz0,hz1,hz2⟩:=alq afJ
 cases l with
 | nil =>
  refine⟨none,0,w,?_,alu w _ _ 1,agP _ _⟩
  cases a<;>simp[Builtin.append_,run_underlying underlying26,sizeOf,typeInfo,hi,Builtin.lenOf,Builtin.firstCells,loadCells,loadCellsFrom]
 | cons x r =>
  obtain⟨b,o,rfl,hb,_⟩:=h 0 (by simp);have hnews:∀j u,((x::r).map (Value.int .i64))[j]?=some u->w.cell? ((⟨b,o,none⟩:Addr).add j)=some u:=λj u hj=>by
   have hj2:j<(x::r).length:=by have:=(List.getElem?_eq_some_iff.1 hj).1;simpa using this
   obtain⟨b',o',e,_,hc⟩:=h j hj2
   cases e
   rw[alg,hc,<-hj,alj,ajC hj2];unfold nth;rw[ajC hj2];rfl
  obtain⟨v',w',hr,h2,h3,_⟩:=amj (P:=prog) w w.heap.size 26 ty 3 i0 _ 1 8 underlying26 hi hz0 hz1 hz2 rfl (by omega) (.slice none 0 0) 0 [] (alu w _ _ 1) ⟨b,o,none⟩ (x::r).length c ((x::r).map (Value.int .i64)) (by simp) hnews (λu hu=>by obtain⟨y,_,rfl⟩:=alh.1 hu;rfl) (by unfold maxLen;omega) (by omega) (agH _);rw[ajT,akD] at h2;have hN:Nums w' w.heap.size v' (x::r):=h2;obtain⟨a',c',rfl,_⟩:=hN.shape;exact⟨a',c',w',hr,hN,(aA.bC h3).below (agH _) (λk _ q=>by cases q)⟩
theorem CP {fn:Func}{p:Tmp}{tmps:Array Value}{w:I}{b:Nat}{t:Tk.bJ}{a:Option Addr}{c:Nat}(hf:fn.results=#[.cell p 98])(ha:tmps.getD p undef=ae b)(r:TB w b t a c) :
 (results fn tmps).run prog w=.ok (sJ t a c) w:=by
 have ha':tmps[p]?.getD undef=ae b:=by simpa using ha
 simp[results,hf,ha',asAddr,WG r]
abbrev jZ (t:Tk.bJ)(a:Option Addr)(c:Nat):List Value:=[.string t.n,.string t.f,aa t.fr,aa t.st,aa t.ack,aa t.wait,.slice a t.bo.length c,aa t.mo,aa t.pe,.bool t.pu]
theorem TB.of {w:I}{b:Nat}{t:Tk.bJ}{a:Option Addr}{c:Nat}(h:CB w b (jZ t a c)):TB w b t a c :=
 ⟨h.lt,h.cell 0 _ rfl,h.cell 1 _ rfl,h.cell 2 _ rfl,h.cell 3 _ rfl,h.cell 4 _ rfl,h.cell 5 _ rfl,h.cell 6 _ rfl,h.cell 7 _ rfl,h.cell 8 _ rfl,h.cell 9 _ rfl⟩
theorem CB.put {w:I}{b j:Nat}{vs:List Value}(h:CB w b vs)(hj:j<vs.length)(u:Value):CB (w.setCell (aq b j) u) b (vs.set j u):=by
 refine⟨by have:=h.lt;simpa[World.setCell] using this,λi x hi=>?_,λi=>by rw[World.frozen?_setCell];exact h.fr i⟩;by_cases e:i=j
 ·subst e;rw[List.getElem?_set_self hj] at hi
  cases hi
  exact akf _ _ _ (h.cell i vs[i] (ajC hj))
 ·rw[List.getElem?_set_ne (λq=>e q.symm)] at hi;rw[ajD _ _ _ _ (by intro z;injection z;omega)];exact h.cell i x hi
theorem JG (t:Tk.bJ)(a:Option Addr)(c:Nat)(w:I)(hs:jU t)(hb5:t.bo.length<=100000)(Pv:kK w a t.bo) :
 Calls prog 78 #[sJ t a c] w λe w'=>∃a' c',e=.returned (sJ t a' c')/\Nums w' w.heap.size (.slice a' t.bo.length c') t.bo/\ai w w':=by
 obtain⟨W0,hW0⟩:∃W0,W0=(w.alloc (rY t a c)).alloc Yv:=⟨_,rfl⟩;have b0:ai w W0:=by rw[hW0];exact(ax _ _).alloc (by simp) _
 have hsz:W0.heap.size=w.heap.size+2:=by rw[hW0];simp
 have x0:CB W0 w.heap.size (jZ t a c):=by rw[hW0];exact(CB.new w (jZ t a c) 98).next (ax _ _)
 have y0:CB W0 (w.heap.size+1) (jZ Tk.dB none 0):=by
  rw[hW0];have:=CB.new (w.alloc (rY t a c)) (jZ Tk.dB none 0) 98;rw[alH] at this;exact this
 have PCl:Hid (∀(s:ad) (X:I),s.size<=140737488355328->Calls prog 108 #[.string s] X λe w'=>e=.returned (.string s)/\ai X w'):=aj (λs X h=>clone_any s X (by omega));have n0:=x0.cell 0 _ rfl;have f0:=x0.fr 0;have hn:=hs.name;have hfl:=hs.filt;have hlt0:w.heap.size<W0.heap.size:=by omega
 have X0:=aj x0;have Y0:=aj y0;have HB:=aj b0;have HBo:=aj Pv;clear x0 y0 b0 Pv;go_enter func78,ntmps78;go_upto_region 1 with fail
 rw[<-hW0];clear hW0;go_upto_region 2 with (go_at_call 108;refine(ah PCl _ _ hn).mono ?_;rintro e w1 ⟨rfl,b1⟩;have m0:=(b1.cell (p:=aq w.heap.size 0) hlt0).trans n0;have mf:=(b1.frozen (p:=aq w.heap.size 0) hlt0).trans f0)
 obtain⟨W1,hW1⟩:∃W1,W1=w1.setCell (aq w.heap.size 0) (.string t.n):=⟨_,rfl⟩;have X1:Hid (CB W1 w.heap.size (jZ t a c)):=aj (by rw[hW1];exact((ah X0).next b1).put (j:=0) (by simp) _);have Y1:Hid (CB W1 (w.heap.size+1) (jZ Tk.dB none 0)):=aj (by rw[hW1];exact((ah Y0).next b1).aF (aA.setCell (A:=λk=>k=w.heap.size) (p:=aq w.heap.size 0) (aA.refl _ _) (.inl rfl) _) (by omega));have B1:Hid (ai w W1):=aj (by rw[hW1];exact((ah HB).trans (b1.mono (ah HB).size)).setCell (agH _) _);rw[<-hW1];have n1:=(ah X1).cell 1 _ rfl;have f1:=(ah X1).fr 1
 have hlt1:=(ah X1).lt;clear hW1 m0 mf b1 n0 f0 hlt0 X0 Y0;go_upto_region 3 with (go_at_call 108;refine(ah PCl _ _ hfl).mono ?_;rintro e w2 ⟨rfl,b2⟩;have m0:=(b2.cell (p:=aq w.heap.size 1) hlt1).trans n1;have mf:=(b2.frozen (p:=aq w.heap.size 1) hlt1).trans f1)
 obtain⟨W2,hW2⟩:∃W2,W2=w2.setCell (aq w.heap.size 1) (.string t.f):=⟨_,rfl⟩;have X2:Hid (CB W2 w.heap.size (jZ t a c)):=aj (by rw[hW2];exact((ah X1).next b2).put (j:=1) (by simp) _);have Y2:Hid (CB W2 (w.heap.size+1) (jZ Tk.dB none 0)):=aj (by rw[hW2];exact((ah Y1).next b2).aF (aA.setCell (A:=λk=>k=w.heap.size) (p:=aq w.heap.size 1) (aA.refl _ _) (.inl rfl) _) (by omega));have B2:Hid (ai w W2):=aj (by rw[hW2];exact((ah B1).trans (b2.mono (ah B1).size)).setCell (agH _) _);rw[<-hW2];have n6:=(ah X2).cell 6 _ rfl;have f6:=(ah X2).fr 6
 have hlt2:=(ah X2).lt;have aiy:=aj (ah Y2).lt;clear hW2 m0 mf b2 n1 f1 hlt1 X1 Y1 B1;obtain⟨a',c',w3,hrun,hN,b3⟩:=Qy W2 26 a t.bo c (by
  intro k hk;obtain⟨b',o,e1,e2,e3⟩:=ah HBo k hk;exact⟨b',o,e1,ajz e2 (ah B2).size,by rw[(ah B2).cell (p:=aq b' (o+k)) e2];exact e3⟩) hb5
 have qO:=aj hrun;have m6:=(b3.cell (p:=aq w.heap.size 6) hlt2).trans n6;have g6:=(b3.frozen (p:=aq w.heap.size 6) hlt2).trans f6;obtain⟨W3,hW3⟩:∃W3,W3=w3.setCell (aq w.heap.size 6) (.slice a' t.bo.length c'):=⟨_,rfl⟩;have c3:aA (λk=>k=w.heap.size) w3 W3:=by rw[hW3];exact aA.setCell (A:=λk=>k=w.heap.size) (p:=aq w.heap.size 6) (aA.refl _ _) (.inl rfl) _
 have X3:Hid (CB W3 w.heap.size (jZ t a' c')):=aj (by rw[hW3];exact((ah X2).next b3).put (j:=6) (by simp) _);have Y3:Hid (CB W3 (w.heap.size+1) (jZ Tk.dB none 0)):=aj (((ah Y2).next b3).aF c3 (by omega));have B3:Hid (ai w W3):=aj (by rw[hW3];exact((ah B2).trans (b3.mono (ah B2).size)).setCell (agH _) _);have N3:Hid (Nums W3 W2.heap.size (.slice a' t.bo.length c') t.bo):=aj (hN.aF c3 (λg hg q=>by omega));clear hrun hN b3 X2 Y2 f6;go_upto_region 4 with (at_builtin;refine akA _ rfl _ _ _ _ rfl _ _ rfl rfl _ _ (ah qO) ?_)
 rw[<-hW3];clear hW3 qO m6 g6 c3 n6;obtain⟨_,t0,t1,t2,t3,t4,t5,t6,t7,t8,t9⟩:=TB.of (ah X3);have z0:=(ah Y3).cell 0 _ rfl;have z1:=(ah Y3).cell 1 _ rfl;have z2:=(ah Y3).cell 2 _ rfl;have z3:=(ah Y3).cell 3 _ rfl;have z4:=(ah Y3).cell 4 _ rfl;have z5:=(ah Y3).cell 5 _ rfl;have z6:=(ah Y3).cell 6 _ rfl;have z7:=(ah Y3).cell 7 _ rfl;have z8:=(ah Y3).cell 8 _ rfl;have z9:=(ah Y3).cell 9 _ rfl;have q0:=(ah Y3).fr 0;have q1:=(ah Y3).fr 1;have q2:=(ah Y3).fr 2;have q3:=(ah Y3).fr 3;have q4:=(ah Y3).fr 4;have q5:=(ah Y3).fr 5;have q6:=(ah Y3).fr 6
 have q7:=(ah Y3).fr 7;have q8:=(ah Y3).fr 8;have q9:=(ah Y3).fr 9;have HF:Hid (CB (W3.setCells (w.heap.size+1) 0 (jZ t a' c')) (w.heap.size+1) (jZ t a' c')/\Nums (W3.setCells (w.heap.size+1) 0 (jZ t a' c')) w.heap.size (.slice a' t.bo.length c') t.bo/\ai w (W3.setCells (w.heap.size+1) 0 (jZ t a' c'))):=aj ⟨(ah Y3).gG (jZ t a' c') rfl,by
  have hn:=(ah N3).aF (A:=λk=>k=w.heap.size+1) (w':=W3.setCells (w.heap.size+1) 0 (jZ t a' c')) (by
   have:∀(us:List Value) (o:Nat) (X:I),aA (λk=>k=w.heap.size+1) X (X.setCells (w.heap.size+1) o us):=by
    intro us;induction us with
    | nil=>intro o X;exact aA.refl _ _
    | cons u r ih=>intro o X;exact(aA.setCell (A:=λk=>k=w.heap.size+1) (p:=aq (w.heap.size+1) o) (aA.refl _ _) (.inl rfl) u).trans (ih (o+1) _)
   exact this _ _ _) (λg hg q=>by have:=hlt2;have:=aiy.out;omega)
  refine⟨hn.1,?_⟩;rcases hn.2 with y|⟨g,cap,cur,h1,h2,r⟩
  ·exact .inl y
  ·exact .inr ⟨g,cap,cur,h1,ajA (ah B2).size h2,r⟩,oz (alE _) _ _ _ (ah B3)⟩
 clear X3 Y3 N3 B3 B2;go_wp2_with fail;exact ajY (CP rfl rfl (TB.of (ah HF).1)) rfl ⟨a',c',rfl,(ah HF).2⟩
section
variable {w:I}{B b:Nat}{c:bM}{a:Option Addr}{ca:Nat}{v:Value}
theorem Uw (h:Cm w B b c a ca v)(hs:jU c.t)(hb5:c.t.bo.length<=100000) :
 Calls prog 42 #[ae b] w λe w'=>∃a' c',e=.returned (sJ c.t a' c')/\Nums w' w.heap.size (.slice a' c.t.bo.length c') c.t.bo/\ai w w':=by
 obtain⟨W0,hW0⟩:∃W0,W0=w.alloc Yv:=⟨_,rfl⟩;have b0:ai w W0:=by rw[hW0];exact ax _ _
 have y0:CB W0 w.heap.size (jZ Tk.dB none 0):=by rw[hW0];exact CB.new w (jZ Tk.dB none 0) 98
 have h0:=h.next b0;obtain⟨hbl,t0,t1,t2,t3,t4,t5,t6,t7,t8,t9⟩:=h0.tb;have PC:=aj (JG c.t a ca W0 hs hb5 h0.bo);have Y0:=aj y0;have HB:=aj b0;clear h h0 y0 b0 hs;go_enter func42,ntmps42;go_upto_region 1 with fail
 rw[<-hW0];clear hW0;go_wp2_with fail;refine(ah PC).mono ?_;rintro e w1 ⟨a',c',rfl,hN,b1⟩;have Y1:=aj ((ah Y0).next b1);have B1:Hid (ai w w1):=aj ((ah HB).trans (b1.mono (ah HB).size));have hlt:w.heap.size<W0.heap.size:=(ah Y0).lt;have HF:Hid (CB (w1.setCells w.heap.size 0 (jZ c.t a' c')) w.heap.size (jZ c.t a' c')/\Nums (w1.setCells w.heap.size 0 (jZ c.t a' c')) w.heap.size (.slice a' c.t.bo.length c') c.t.bo/\ai w (w1.setCells w.heap.size 0 (jZ c.t a' c'))):=aj ⟨(ah Y1).gG (jZ c.t a' c') rfl,by
  have hn:=hN.aF (A:=λk=>k=w.heap.size) (w':=w1.setCells w.heap.size 0 (jZ c.t a' c')) (by
   have:∀(us:List Value) (o:Nat) (X:I),aA (λk=>k=w.heap.size) X (X.setCells w.heap.size o us):=by
    intro us;induction us with
    | nil=>intro o X;exact aA.refl _ _
    | cons u r ih=>intro o X;exact(aA.setCell (A:=λk=>k=w.heap.size) (p:=aq w.heap.size o) (aA.refl _ _) (.inl rfl) u).trans (ih (o+1) _)
   exact this _ _ _) (λg hg q=>by omega)
  refine⟨hn.1,?_⟩;rcases hn.2 with y|⟨g,cap,cur,h1,h2,r⟩
  ·exact .inl y
  ·exact .inr ⟨g,cap,cur,h1,by omega,r⟩,oz (agH _) _ _ _ (ah B1)⟩
 have z0:=(ah Y1).cell 0 _ rfl;have z1:=(ah Y1).cell 1 _ rfl;have z2:=(ah Y1).cell 2 _ rfl;have z3:=(ah Y1).cell 3 _ rfl;have z4:=(ah Y1).cell 4 _ rfl;have z5:=(ah Y1).cell 5 _ rfl;have z6:=(ah Y1).cell 6 _ rfl;have z7:=(ah Y1).cell 7 _ rfl;have z8:=(ah Y1).cell 8 _ rfl;have z9:=(ah Y1).cell 9 _ rfl;have q0:=(ah Y1).fr 0;have q1:=(ah Y1).fr 1;have q2:=(ah Y1).fr 2;have q3:=(ah Y1).fr 3;have q4:=(ah Y1).fr 4;have q5:=(ah Y1).fr 5;have q6:=(ah Y1).fr 6;have q7:=(ah Y1).fr 7;have q8:=(ah Y1).fr 8;have q9:=(ah Y1).fr 9;clear hN b1 Y0 Y1 B1 HB PC t0 t1 t2 t3 t4 t5 t6 t7 t8 t9
 go_wp2_with fail;exact ajY (CP rfl rfl (TB.of (ah HF).1)) rfl ⟨a',c',rfl,(ah HF).2⟩
end
