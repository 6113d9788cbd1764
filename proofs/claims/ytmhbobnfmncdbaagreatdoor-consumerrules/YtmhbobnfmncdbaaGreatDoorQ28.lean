/- A part. -/
import Derived.Test.YtmhbobnfmncdbaaGreatDoorQ18
import Derived.Test.YtmhbobnfmncdbaaGreatDoorQ20
import Derived.Test.YtmhbobnfmncdbaaGreatDoorQ21
namespace Go.Proofs.YtmhbobnfmncdbaaGreatDoor
open Go.RowKit
namespace Dk
def OH (w:World)(B b:Nat)(G:Nat->Prop)(c:bJ):Prop:=∃a ca v,Cm w B b c a ca v/\G=λk=>iP b v k\/∃z,a=some z/\z.block=k
theorem OH.did {w w':World}{B b:Nat}{c':bJ}{a:Option Addr}{ca:Nat}{v:Value}(hu:aV w w' B b a ca v c'):QB OH w w' B b (λk=>iP b v k\/∃z,a=some z/\z.block=k) c':=by
 obtain⟨v',k1,ch,hg⟩:=hu;refine⟨_,⟨a,ca,v',k1,rfl⟩,ch.mono (λ_ _ q=>.inl q),λk hk=>?_⟩;rcases hk with (hk|hk)|hk
 ·exact .inl (.inl (.inl hk))
 ·rcases hg k hk with q|q
  ·exact .inl (.inl (.inr q))
  ·exact .inr q
 ·exact .inl (.inr hk)
theorem Va {SH:World->Nat->Nat->(Nat->Prop)->bD->Prop}(H:aQ SH)(T:mX SH):bG SH OH where
 own:=by
  rintro w B b G c ⟨a,ca,v,h,rfl⟩ k hk;rcases hk with (rfl|hk)|⟨z,hz,rfl⟩
  ·exact⟨h.bB,h.tb.lt⟩
  ·exact h.row.lt k hk
  ·exact h.al z hz
 aT:=by
  rintro w w' B b G c A ⟨a,ca,v,h,rfl⟩ hc hn;exact⟨a,ca,v,h.aT hc (hn b (.inl (.inl rfl))) (λg hg=>hn g (.inl (.inr hg))) (λz hz=>hn z.block (.inr ⟨z,hz,rfl⟩)),rfl⟩
 bad:=λt a ca q hs hsl he=>Oc t a ca hs hsl he
 new:=by
  intro w B' q F s t a ca hs hsl he h hk hB;refine(Oe H t a ca hs hsl he h hk hB).mono ?_;rintro e w' ⟨⟨b,a',c',rfl,k⟩,hb⟩;exact⟨⟨b,_,rfl,a',c',_,k,rfl⟩,hb⟩
 next:=by
  rintro w B b G c B' q F s N ⟨a,ca,v,h,rfl⟩ hg hN hs hk hB hB' hF now;have hcn:=hg.cn;have hb:=hg.bo;refine(JU H T h hs hk hB' hB (λk z y=>hF k z (.inl y)) hg.waits (by omega) hg.filt hg.small.filt (by omega) (Nat.le_trans hg.len hN) (λp hp=>by have:=hg.nth p hp;omega) now).mono ?_;rintro e w' ⟨he,hu⟩;exact⟨he,OH.did hu⟩
 answer:=by
  rintro w B b G c N ⟨a,ca,v,h,rfl⟩ hg hN now q so n;have hb:=hg.bo;refine(FB h hg.ok hg.waits (by omega) (by have:=hg.len;omega) now q so n).mono ?_;rintro e w' ⟨he,hu⟩;exact⟨he,OH.did hu⟩
 done:=by
  rintro w B b G c N ⟨a,ca,v,h,rfl⟩ hg hN n;exact Oi h hg.ok (by have:=hg.len;omega) n
 due:=by
  rintro w B b G c N ⟨a,ca,v,h,rfl⟩ hg hN;exact QF h (by have:=hg.len;omega)
 info:=by
  rintro w B b G c N ⟨a,ca,v,h,rfl⟩ hg;exact Nw h hg.ok
 taker:=by
  rintro w B b G c N ⟨a,ca,v,h,rfl⟩ hg;exact Fe h hg.small (by have:=hg.bo;omega)
