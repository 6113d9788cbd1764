/- A part. -/
import Derived.Test.YtmhbobnfmncdbaaGreatDoorQ22
import Derived.Test.YtmhbobnfmncdbaaGreatDoorQ30
namespace Go.Proofs.YtmhbobnfmncdbaaGreatDoor
open Go.RowKit Go.Proofs.Tryz
namespace Dk
def Gh (E:Nat->Prop)(w wr:World)(ta:Option Addr)(tc cq hh:Nat)(s:bD)(c:aV):Prop:=∃B F B' v,jm wr B cq F s/\Hm wr B' hh c ta tc v/\(w.heap.size<=B/\B<=wr.heap.size)/\(w.heap.size<=B'/\B'<=wr.heap.size)/\(∀k,F k->¬gu hh v k)/\(∀k,E k↔F k\/gu hh v k)/\Below w.heap.size w wr/\(c.t.bo≠[]->∀z,ta=some z->z.block<w.heap.size)
section
variable {E:Nat->Prop}{w wr w':World}{ta:Option Addr}{tc cq hh N:Nat}{s:bD}{c c':aV}
theorem Gh.own (h:Gh E w wr ta tc cq hh s c):∀k,E k->w.heap.size<=k/\k<wr.heap.size:=λk hk=>by
 obtain⟨B,F,B',v,h1,h2,h3,h4,h5,h6,h7,_⟩:=h;rcases(h6 k).1 hk with z|z|z
 ·have:=h1.own k z;omega
 ·rw[z];exact⟨by have:=h2.bB;omega,h2.tb.lt⟩
 ·have:=World.ownsRow.lt h2.row k z;omega
theorem Gh.aW {A:Nat->Prop}(h:Gh E w wr ta tc cq hh s c)(hc:aB A wr w')(hA:∀k,E k->¬A k)(hw:∀k,A k->w.heap.size<=k):Gh E w w' ta tc cq hh s c:=by
 obtain⟨B,F,B',v,h1,h2,h3,h4,h5,h6,h7,h8⟩:=h;have hs:=hc.size;exact⟨B,F,B',v,h1.aW hc (λk hk=>hA k ((h6 k).2 (.inl hk))),h2.aW hc (hA hh ((h6 hh).2 (.inr (.inl rfl)))) (λg hg=>hA g ((h6 g).2 (.inr (.inr hg)))) (λn z hz y=>by have:=h8 n z hz;have:=hw _ y;omega),⟨h3.1,by omega⟩,⟨h4.1,by omega⟩,h5,h6,h7.trans (hc.below h7.size (λk hk z=>by have:=hw k z;omega)),h8⟩
theorem Gh.below (h:Gh E w wr ta tc cq hh s c)(hb:Below wr.heap.size wr w'):Gh E w w' ta tc cq hh s c:=h.aW (A:=λ_=>False) (aB.of_below hb) (λ_ _ z=>z) (λ_ z=>z.elim)
theorem Gh.did (h:Gh E w wr ta tc cq hh s c)(ht:c'.t=c.t){fn:FuncId}{args:Array Value}{Q:Ending->World->Prop}
 (hc:∀B F B' v,jm wr B cq F s->Hm wr B' hh c ta tc v->(∀k,F k->¬gu hh v k)->Calls prog fn args wr λe w'=>Q e w'/\aF wr w' B' hh ta tc v c') :
 Calls prog fn args wr λe w'=>Q e w'/\∃E',Gh E' w w' ta tc cq hh s c'/\aB E wr w'/\∀k,E' k->E k\/wr.heap.size<=k:=by
 obtain⟨B,F,B',v,h1,h2,h3,h4,h5,h6,h7,h8⟩:=h;refine(hc B F B' v h1 h2 h5).mono ?_;rintro e w' ⟨hq,v',k1,k2,k3⟩;have hs:=k2.size;refine⟨hq,λk=>F k\/gu hh v' k,⟨B,F,B',v',h1.aW k2 (λk hk z=>h5 k hk z),k1,⟨h3.1,by omega⟩,⟨h4.1,by omega⟩,λk hk z=>?_,λk=>Iff.rfl,h7.trans (k2.below h7.size (λk hk z=>?_)),by rw[ht];exact h8⟩,k2.mono (λk _ z=>(h6 k).2 (.inr z)),λk hk=>?_⟩
 ·rcases z with z|z
  ·exact h5 k hk (.inl z)
  ·rcases k3 k z with y|y
   ·exact h5 k hk (.inr y)
   ·have:=(h1.own k hk).2;omega
 ·rcases z with z|z
  ·have:=h2.bB;omega
  ·have:=(World.ownsRow.lt h2.row k z).1;omega
 ·rcases hk with z|z|z
  ·exact .inl ((h6 k).2 (.inl z))
  ·exact .inl ((h6 k).2 (.inr (.inl z)))
  ·rcases k3 k z with y|y
   ·exact .inl ((h6 k).2 (.inr (.inr y)))
   ·exact .inr y
theorem Gh.X8 {s':bD}(h:Gh E w wr ta tc cq hh s c){fn:FuncId}{args:Array Value}{Q:Ending->World->Prop}
 (hc:∀B F,jm wr B cq F s->B<=wr.heap.size->Calls prog fn args wr λe w'=>Q e w'/\ny jm wr w' B cq F s') :
 Calls prog fn args wr λe w'=>Q e w'/\∃E',Gh E' w w' ta tc cq hh s' c/\aB E wr w'/\∀k,E' k->E k\/wr.heap.size<=k:=by
 obtain⟨B,F,B',v,h1,h2,h3,h4,h5,h6,h7,h8⟩:=h;refine(hc B F h1 h3.2).mono ?_;rintro e w' ⟨hq,F',k1,k2,k3⟩;have hs:=k2.size;have hF:=λk (hk:F k)=>h1.own k hk
 refine⟨hq,λk=>F' k\/gu hh v k,⟨B,F',B',v,k1,h2.aW k2 (λz=>h5 hh z (.inl rfl)) (λg hg z=>h5 g z (.inr hg)) (λn z hz y=>by have:=h8 n z hz;have:=(hF _ y).1;omega),⟨h3.1,by omega⟩,⟨h4.1,by omega⟩,λk hk z=>?_,λk=>Iff.rfl,h7.trans (k2.below h7.size (λk hk z=>by have:=(hF k z).1;omega)),h8⟩,k2.mono (λk _ z=>(h6 k).2 (.inl z)),λk hk=>?_⟩
 ·rcases k3 k hk with y|y
  ·exact h5 k y z
  ·rcases z with z|z
   ·have:=h2.tb.lt;omega
   ·have:=(World.ownsRow.lt h2.row k z).2;omega
 ·rcases hk with z|z
  ·rcases k3 k z with y|y
   ·exact .inl ((h6 k).2 (.inl y))
   ·exact .inr y
  ·exact .inl ((h6 k).2 (.inr z))
end
def Duo (SH:World->Nat->Nat->(Nat->Prop)->bD->Prop)(CH:World->Nat->Nat->(Nat->Prop)->aV->Prop)(Cs:Nat->Prop)(w wr:World)(ta:Option Addr)(tc q b:Nat)(s:bD)(c:aV)(cq hh:Nat)(s':bD)(c':aV):Prop:=∃E,mY SH CH (λk=>Cs k\/E k) w wr q b s c/\Gh E w wr ta tc cq hh s' c'/\∀k,Cs k->¬E k
section
variable {SH:World->Nat->Nat->(Nat->Prop)->bD->Prop}{CH:World->Nat->Nat->(Nat->Prop)->aV->Prop}{Cs D:Nat->Prop}{w wr w':World}{ta:Option Addr}{tc q b cq hh N:Nat}{s s' t:bD}{c c' d:aV}
theorem Duo.base (h:Duo SH CH Cs w wr ta tc q b s c cq hh s' c'):Below w.heap.size w wr:=by obtain⟨E,h1,_⟩:=h;exact h1.base
theorem Duo.with (H:aS SH)(C:eF SH CH)(h:Duo SH CH Cs w wr ta tc q b s c cq hh s' c')(hb:Below wr.heap.size wr w')(hd:∀k,D k->Cs k\/wr.heap.size<=k/\k<w'.heap.size):Duo SH CH D w w' ta tc q b s c cq hh s' c':=by
 obtain⟨E,h1,h2,h3⟩:=h;refine⟨E,h1.with H C hb (λk hk=>?_),h2.below hb,λk hk z=>?_⟩
 ·rcases hk with z|z
  ·rcases hd k z with y|y
   ·exact .inl (.inl y)
   ·exact .inr y
  ·exact .inl (.inr z)
 ·rcases hd k hk with y|y
  ·exact h3 k y z
  ·have:=(h2.own k z).2;omega
theorem Duo.below (H:aS SH)(C:eF SH CH)(h:Duo SH CH Cs w wr ta tc q b s c cq hh s' c')(hb:Below wr.heap.size wr w'):Duo SH CH Cs w w' ta tc q b s c cq hh s' c':=h.with H C hb (λ_ hk=>.inl hk)
theorem Duo.Uc (h:Duo SH CH Cs w wr ta tc q b s c cq hh s' c'){fn:FuncId}{args:Array Value}{Q:Ending->World->Prop}
 (hc:∀E:Nat->Prop,mY SH CH (λk=>Cs k\/E k) w wr q b s c->Calls prog fn args wr λe w'=>Q e w'/\mY SH CH (λk=>Cs k\/E k) w w' q b t d/\aB (λk=>¬(Cs k\/E k)) wr w') :
 Calls prog fn args wr λe w'=>Q e w'/\Duo SH CH Cs w w' ta tc q b t d cq hh s' c'/\aB (λk=>w.heap.size<=k/\¬Cs k) wr w':=by
 obtain⟨E,h1,h2,h3⟩:=h;refine(hc E h1).mono ?_;rintro e w' ⟨hq,a1,a2⟩;have hb1:=h1.base;have hb2:=a1.base;have a3:aB (λk=>w.heap.size<=k/\¬(Cs k\/E k)) wr w':=⟨a2.os,a2.tape,a2.output,a2.size,λk hk hn=>by
  by_cases z:w.heap.size<=k
  ·exact a2.block k hk (λy=>hn ⟨z,y⟩)
  ·rw[hb2.block k (by omega),hb1.block k (by omega)]⟩
 exact⟨hq,⟨E,a1,h2.aW a3 (λk hk z=>z.2 (.inr hk)) (λk z=>z.1),h3⟩,a3.mono (λk _ z=>⟨z.1,λy=>z.2 (.inl y)⟩)⟩
theorem Duo.doc (H:aS SH)(C:eF SH CH)(h:Duo SH CH Cs w wr ta tc q b s c cq hh s' c'){fn:FuncId}{args:Array Value}{Q:Ending->World->Prop}
 (hc:∀E:Nat->Prop,Gh E w wr ta tc cq hh s' c'->Calls prog fn args wr λe w'=>Q e w'/\∃E',Gh E' w w' ta tc cq hh t d/\aB E wr w'/\∀k,E' k->E k\/wr.heap.size<=k) :
 Calls prog fn args wr λe w'=>Q e w'/\Duo SH CH Cs w w' ta tc q b s c cq hh t d/\aB (λk=>w.heap.size<=k/\¬Cs k) wr w':=by
 obtain⟨E,h1,h2,h3⟩:=h;refine(hc E h2).mono ?_;rintro e w' ⟨hq,E',a1,a2,a3⟩;have hs:=a2.size;have ho:=λk (hk:E k)=>h2.own k hk
 have hC:∀k,Cs k->k<wr.heap.size:=λk hk=>by obtain⟨_,_,_,_,_,_,_,_,_,_,h7⟩:=h1;exact(h7 k (.inl hk)).1
 refine⟨hq,⟨E',h1.aW H C a2 (λk z=>.inr z) (λk z=>(ho k z).1) (λk hk=>?_),a1,λk hk z=>?_⟩,a2.mono (λk _ z=>⟨(ho k z).1,λy=>h3 k y z⟩)⟩
 ·rcases hk with z|z
  ·exact .inl (.inl z)
  ·rcases a3 k z with y|y
   ·exact .inl (.inr y)
   ·exact .inr ⟨y,(a1.own k z).2⟩
 ·rcases a3 k z with y|y
  ·exact h3 k hk y
  ·have:=hC k hk;omega
end
