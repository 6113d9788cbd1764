/- A part. -/
import Derived.Test.YtmhbobnfmncdbaaGreatDoorQ28
import Derived.Test.YtmhbobnfmncdbaaGreatDoorQ33
import Derived.Test.YtmhbobnfmncdbaaGreatDoorQ35
namespace Go.Proofs.YtmhbobnfmncdbaaGreatDoor
open Go.RowKit
namespace Dk
def TF (w:World)(B b:Nat)(G:Nat->Prop)(c:aV):Prop:=∃a ca v,Cm w B b c a ca v/\G=λk=>jF b v k\/∃z,a=some z/\z.block=k
theorem TF.did {w w':World}{B b:Nat}{c':aV}{a:Option Addr}{ca:Nat}{v:Value}(hu:bH w w' B b a ca v c'):Wp TF w w' B b (λk=>jF b v k\/∃z,a=some z/\z.block=k) c':=by
 obtain⟨v',k1,ch,hg⟩:=hu;refine⟨_,⟨a,ca,v',k1,rfl⟩,ch.mono (λ_ _ q=>.inl q),λk hk=>?_⟩;rcases hk with (hk|hk)|hk
 ·exact .inl (.inl (.inl hk))
 ·rcases hg k hk with q|q
  ·exact .inl (.inl (.inr q))
  ·exact .inr q
 ·exact .inl (.inr hk)
theorem TG {SH:World->Nat->Nat->(Nat->Prop)->aY->Prop}(H:aH SH)(T:FD SH):bZ SH TF where
 own:=by
  rintro w B b G c ⟨a,ca,v,h,rfl⟩ k hk;rcases hk with (rfl|hk)|⟨z,hz,rfl⟩
  ·exact⟨h.bB,h.tb.lt⟩
  ·exact h.row.lt k hk
  ·exact h.al z hz
 bn:=by
  rintro w w' B b G c A ⟨a,ca,v,h,rfl⟩ hc hn;exact⟨a,ca,v,h.bn hc (hn b (.inl (.inl rfl))) (λg hg=>hn g (.inl (.inr hg))) (λz hz=>hn z.block (.inr ⟨z,hz,rfl⟩)),rfl⟩
 bad:=λt a ca q hs hsl he=>SI t a ca hs hsl he
 new:=by
  intro w B' q F s t a ca hs hsl he h hk hB;refine(SK H t a ca hs hsl he h hk hB).mono ?_;rintro e w' ⟨⟨b,a',c',rfl,k⟩,hb⟩;exact⟨⟨b,_,rfl,a',c',_,k,rfl⟩,hb⟩
 next:=by
  rintro w B b G c B' q F s N ⟨a,ca,v,h,rfl⟩ hg hN hs hk hB hB' hF now;have hcn:=hg.cn;have hb:=hg.bo;refine(Oo H T h hs hk hB' hB (λk z y=>hF k z (.inl y)) hg.waits (by omega) hg.filt hg.small.filt (by omega) (Nat.le_trans hg.len hN) (λp hp=>by have:=hg.nth p hp;omega) now).mono ?_;rintro e w' ⟨he,hu⟩;exact⟨he,TF.did hu⟩
 answer:=by
  rintro w B b G c N ⟨a,ca,v,h,rfl⟩ hg hN now q so n;have hb:=hg.bo;refine(Jw h hg.ok hg.waits (by omega) (by have:=hg.len;omega) now q so n).mono ?_;rintro e w' ⟨he,hu⟩;exact⟨he,TF.did hu⟩
 done:=by
  rintro w B b G c N ⟨a,ca,v,h,rfl⟩ hg hN n;exact SS h hg.ok (by have:=hg.len;omega) n
 due:=by
  rintro w B b G c N ⟨a,ca,v,h,rfl⟩ hg hN;exact Ws h (by have:=hg.len;omega)
 info:=by
  rintro w B b G c N ⟨a,ca,v,h,rfl⟩ hg;exact Rn h hg.ok
 taker:=by
  rintro w B b G c N ⟨a,ca,v,h,rfl⟩ hg;exact Jg h hg.small (by have:=hg.bo;omega)
