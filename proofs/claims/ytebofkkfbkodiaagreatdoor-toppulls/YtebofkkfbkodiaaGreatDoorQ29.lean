/- A part. -/
import Derived.Test.YtebofkkfbkodiaaGreatDoorQ4
import Derived.Test.YtebofkkfbkodiaaGreatDoorQ17
set_option maxRecDepth 100000
set_option maxHeartbeats 8000000
namespace Go.Proofs.YtebofkkfbkodiaaGreatDoor
open Go.RowKit Go.Proofs.Tryz
variable {v:ad}
theorem ae4 (s:ad)(w:I)(h:Pn.iU s.data.toList=true) :
 Calls prog 210 #[.string s] w λe w'=>e=.returned (.tuple #[aa (Pn.dU s.data.toList),.nilIface])/\ai w w':=by
 have hl:=(Pn.qN h).2.2.1;have e:s.data.toList.length=s.size:=by simp
 refine(Tryz.strconv_Atoi s _ (by omega) (Pn.Yp h) w).mono ?_;rintro e w' ⟨rfl,t,rfl⟩;exact⟨rfl,Joins.below_bytesWorld _ _ _ _ (agH _)⟩
theorem xW (s:ad)(w:I)(hs:s.size<=140737488355328)(h:Pn.iU s.data.toList=false) :
 Calls prog 166 #[.string s] w λe w'=>e=.returned (.tuple #[aa 0,.bool false])/\w'=w:=by
 have PN:=aj (λW=>zJ s W hs);rw[h] at PN;clear h;go_enter func166,ntmps166;go_wp2_with (first|(go_at_call 209;refine(ah PN _).mono ?_;rintro e w6 ⟨rfl,rfl⟩));go_ret2;exact⟨rfl,rfl⟩
theorem uI (s:ad)(w:I)(h:Pn.iU s.data.toList=true) :
 Calls prog 166 #[.string s] w λe w'=>e=.returned (.tuple #[aa (Pn.dU s.data.toList),.bool true])/\ai w w':=by
 have hl:=(Pn.qN h).2.2.1;have e:s.data.toList.length=s.size:=by simp
 have PN:=aj (λW=>zJ s W (by omega));have PA:=aj (ae4 s w h);rw[h] at PN;obtain⟨x,hx⟩:∃x,Pn.dU s.data.toList=x:=⟨_,rfl⟩;rw[hx] at PA ⊢;clear h hx hl e;go_enter func166,ntmps166;go_wp2_with (first|(go_at_call 209;refine(ah PN _).mono ?_;rintro e w6 ⟨rfl,rfl⟩));refine(ah PA).mono ?_;rintro e w7 ⟨rfl,b7⟩;have B7:=aj (λn=>below_drewN b7 n);clear PA PN b7;go_wp2;go_quiet (fail)
 go_wp2;go_ret2;exact⟨rfl,ah B7 _⟩
def nC (v:ad):Int:=if Pn.iU v.data.toList=true then Pn.dU v.data.toList else 0
theorem rH (v:ad)(b i:Nat)(x:Int)(w:I)(hs:v.size<=140737488355328)(hb:b<w.heap.size)(hc:w.cell? (aq b i)=some (aa x))(hf:w.frozen? (aq b i)=false) :
 Calls prog 205 #[.string v,.pointer (some ⟨b,i,none⟩)] w λe w'=>∃w2,e=.returned (.bool (Pn.iU v.data.toList))/\ai w w2/\w'=w2.setCell (aq b i) (aa (nC v)):=by
 have PR:Hid (Calls prog 166 #[.string v] w λe w'=>e=.returned (.tuple #[aa (nC v),.bool (Pn.iU v.data.toList)])/\ai w w'):=aj (by
  unfold nC
  cases hn:Pn.iU v.data.toList with
  | false =>
   refine(xW v w hs hn).mono ?_;rintro e w' ⟨rfl,rfl⟩;exact⟨rfl,agP _ _⟩
  | true =>
   refine(uI v w hn).mono ?_;rintro e w' ⟨rfl,h⟩;exact⟨rfl,h⟩)
 obtain⟨N,hN⟩:∃N,N=nC v:=⟨_,rfl⟩;obtain⟨R,hR⟩:∃R,R=Pn.iU v.data.toList:=⟨_,rfl⟩;rw[<-hN,<-hR] at PR;rw[<-hN,<-hR];have HC:=aj (λ(w2:I) (h2:ai w w2)=>show w2.cell? (aq b i)=some (aa x)/\w2.frozen? (aq b i)=false from⟨by rw[h2.cell (p:=aq b i) hb];exact hc,by rw[h2.frozen (p:=aq b i) hb];exact hf⟩);clear hN hR hc hf hb;go_enter func205,ntmps205;go_wp2_with fail;refine(ah PR).mono ?_;rintro e w2 ⟨rfl,b2⟩;obtain⟨c1,f1⟩:=ah HC w2 b2;have B2:=aj b2;clear PR b2;go_wp2_with fail;go_ret;exact⟨w2,rfl,ah B2,rfl⟩
def fZ (w0:I)(b:Nat)(t:Tk.bJ)(a:Option Addr)(c:Nat)(i:Nat)(v:List UInt8)(e:Ending)(w':I):Prop:=∃(r:Bool) (t':Tk.bJ) (a':Option Addr) (c':Nat),e=.returned (.bool r)/\(r=true->Tk.jY t i v=some t')/\(r=false->Tk.jY t i v=none)/\nP w0 w' b t' a' c'/\t'.bo.length<=t.bo.length+2000/\(i≠3->a'=a/\c'=c/\t'.bo=t.bo)
theorem YP (h:Pn.iU v.data.toList=true):nC v=Pn.dU v.data.toList/\¬Pn.dU v.data.toList<1:=by
 have:=(Pn.qN h).1;exact⟨by unfold nC;rw[if_pos h],by omega⟩
theorem DY {w0:I}{b:Nat}{t:Tk.bJ}{a:Option Addr}{c i:Nat}(f:Int->Tk.bJ)(w3:I)(Pv:∀x,(f x).bo=t.bo)(hs:Tk.jY t i v.data.toList=if Pn.dU v.data.toList<1 then none else some (f (Pn.dU v.data.toList)))(hr:nP w0 w3 b (f (nC v)) a c):fZ w0 b t a c i v.data.toList (.returned (.bool (Pn.iU v.data.toList))) w3:=by
 refine⟨_,f (nC v),a,c,rfl,λh=>?_,λh=>?_,hr,by rw[Pv];omega,λ_=>⟨rfl,rfl,Pv _⟩⟩
 ·obtain⟨e1,e2⟩:=YP h;rw[hs,if_neg e2,e1]
 ·rw[hs,if_pos (Pn.LQ h)]
theorem set0 (t:Tk.bJ)(v:List UInt8):Tk.jY t 0 v=if v=Tk.lastT then some {t with fr:=1} else if v=Tk.newT then some {t with fr:=2} else if Pn.dU v<1 then none else some {t with fr:=3,st:=Pn.dU v}:=rfl
theorem set1 (t:Tk.bJ)(v:List UInt8):Tk.jY t 1 v=if v=Tk.Ph then some {t with ack:=0} else if v=Tk.allT then some {t with ack:=1} else none:=rfl
theorem lst (v:ad):v.toList=v.data.toList:=akM ..
theorem Qx (v:ad)(w0 w:I)(b:Nat)(t:Tk.bJ)(a:Option Addr)(c:Nat)(h:nP w0 w b t a c) :
 Calls prog 204 #[.string v,ae b] w λe w'=>fZ w0 b t a c 1 v.data.toList e w':=by
 have c4:=h.tb.c4;have f4:=h.fr 4;have H:=aj h;clear h;by_cases h0:v.data.toList=Tk.Ph
 ·have HE:Hid (fZ w0 b t a c 1 v.data.toList (.returned (.bool true)) (w.setCell (aq b 4) (aa 0))):=aj ⟨true,_,a,c,rfl,λ_=>by rw[set1,if_pos h0],λz=>by simp at z,(ah H).ahv 0,by show t.bo.length<=_;omega,λ_=>⟨rfl,rfl,rfl⟩⟩;have e0:(v.toList==[110,111,110,101])=true:=by rw[lst,h0];rfl
  clear h0;go_enter func204,ntmps204;go_wp2_with fail;go_ret;exact ah HE
 ·have e0:(v.toList==[110,111,110,101])=false:=by rw[lst,ajM];exact h0
  by_cases h1:v.data.toList=Tk.allT
  ·have HE:Hid (fZ w0 b t a c 1 v.data.toList (.returned (.bool true)) (w.setCell (aq b 4) (aa 1))):=aj ⟨true,_,a,c,rfl,λ_=>by rw[set1,if_neg h0,if_pos h1],λz=>by simp at z,(ah H).ahv 1,by show t.bo.length<=_;omega,λ_=>⟨rfl,rfl,rfl⟩⟩;have e1:(v.toList==[97,108,108])=true:=by rw[lst,h1];rfl
   clear h0 h1;go_enter func204,ntmps204;go_wp2_with fail;go_ret;exact ah HE
  ·have HE:Hid (fZ w0 b t a c 1 v.data.toList (.returned (.bool false)) w):=aj ⟨false,t,a,c,rfl,λz=>by simp at z,λ_=>by rw[set1,if_neg h0,if_neg h1],ah H,by omega,λ_=>⟨rfl,rfl,rfl⟩⟩;have e1:(v.toList==[97,108,108])=false:=by rw[lst,ajM];exact h1
   clear h0 h1;go_enter func204,ntmps204;go_wp2_with fail;go_ret;exact ah HE
theorem Me (v:ad)(w0 w:I)(b:Nat)(t:Tk.bJ)(a:Option Addr)(c:Nat)(hs:v.size<=1024)(h:nP w0 w b t a c) :
 Calls prog 203 #[.string v,ae b] w λe w'=>fZ w0 b t a c 0 v.data.toList e w':=by
 have c2:=h.tb.c2;have f2:=h.fr 2;have H:=aj h;clear h;by_cases h0:v.data.toList=Tk.lastT
 ·have HE:Hid (fZ w0 b t a c 0 v.data.toList (.returned (.bool true)) (w.setCell (aq b 2) (aa 1))):=aj ⟨true,_,a,c,rfl,λ_=>by rw[set0,if_pos h0],λz=>by simp at z,(ah H).fr' 1,by show t.bo.length<=_;omega,λ_=>⟨rfl,rfl,rfl⟩⟩;have e0:(v.toList==[108,97,115,116])=true:=by rw[lst,h0];rfl
  clear h0;go_enter func203,ntmps203;go_wp2_with fail;go_ret;exact ah HE
 ·have e0:(v.toList==[108,97,115,116])=false:=by rw[lst,ajM];exact h0
  by_cases h1:v.data.toList=Tk.newT
  ·have HE:Hid (fZ w0 b t a c 0 v.data.toList (.returned (.bool true)) (w.setCell (aq b 2) (aa 2))):=aj ⟨true,_,a,c,rfl,λ_=>by rw[set0,if_neg h0,if_pos h1],λz=>by simp at z,(ah H).fr' 2,by show t.bo.length<=_;omega,λ_=>⟨rfl,rfl,rfl⟩⟩;have e1:(v.toList==[110,101,119])=true:=by rw[lst,h1];rfl
   clear h0 h1;go_enter func203,ntmps203;go_wp2_with fail;go_ret;exact ah HE
  ·have H2:=aj ((ah H).fr' 3);have PN:=aj (rH v b 3 t.st (w.setCell (aq b 2) (aa 3)) (by omega) (ah H2).tb.lt (ah H2).tb.c3 ((ah H2).fr 3));have HE:Hid (∀w2,Below (w.setCell (aq b 2) (aa 3)).heap.size (w.setCell (aq b 2) (aa 3)) w2->fZ w0 b t a c 0 v.data.toList (.returned (.bool (Pn.iU v.data.toList))) (w2.setCell (aq b 3) (aa (nC v)))):=aj (λw2 b2=>DY (a:=a) (c:=c) (λx=>{t with fr:=3,st:=x}) _ (λ_=>rfl) (by rw[set0,if_neg h0,if_neg h1]) (((ah H2).next b2).st' (nC v)));have e1:(v.toList==[110,101,119])=false:=by rw[lst,ajM];exact h1
   clear h0 h1;go_enter func203,ntmps203;go_wp2_with fail;refine(ah PN).mono ?_;rintro e w3 ⟨w2,rfl,b2,rfl⟩;have HE2:=aj (ah HE w2 b2);clear b2 PN HE;go_wp2_with fail;go_ret;exact ah HE2
