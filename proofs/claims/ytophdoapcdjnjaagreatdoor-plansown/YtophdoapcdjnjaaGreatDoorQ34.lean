/- A part. -/
import Derived.Test.YtophdoapcdjnjaaGreatDoorQ21
import Derived.Test.YtophdoapcdjnjaaGreatDoorQ26
import Derived.Test.YtophdoapcdjnjaaGreatDoorQ29
namespace Go.Proofs.YtophdoapcdjnjaaGreatDoor
open Go.RowKit
namespace Dk
def Rh (w:World)(B b:Nat)(G:Nat->Prop)(c:dM):Prop:=∃a ca v,Cm w B b c a ca v/\G=λk=>jC b v k\/∃z,a=some z/\z.block=k
theorem Rh.did {w w':World}{B b:Nat}{c':dM}{a:Option Addr}{ca:Nat}{v:Value}(hu:aQ w w' B b a ca v c'):Wi Rh w w' B b (λk=>jC b v k\/∃z,a=some z/\z.block=k) c':=by
 obtain⟨v',k1,ch,hg⟩:=hu;refine⟨_,⟨a,ca,v',k1,rfl⟩,ch.mono (λ_ _ q=>.inl q),λk hk=>?_⟩;rcases hk with (hk|hk)|hk
 ·exact .inl (.inl (.inl hk))
 ·rcases hg k hk with q|q
  ·exact .inl (.inl (.inr q))
  ·exact .inr q
 ·exact .inl (.inr hk)
theorem WO {SH:World->Nat->Nat->(Nat->Prop)->aX->Prop}(H:dX SH)(T:Jy SH):nZ SH Rh where
 own:=by
  rintro w B b G c ⟨a,ca,v,h,rfl⟩ k hk;rcases hk with (rfl|hk)|⟨z,hz,rfl⟩
  ·exact⟨h.bB,h.tb.lt⟩
  ·exact h.row.lt k hk
  ·exact h.al z hz
 bW:=by
  rintro w w' B b G c A ⟨a,ca,v,h,rfl⟩ hc hn;exact⟨a,ca,v,h.bW hc (hn b (.inl (.inl rfl))) (λg hg=>hn g (.inl (.inr hg))) (λz hz=>hn z.block (.inr ⟨z,hz,rfl⟩)),rfl⟩
 bad:=λt a ca q hs hsl he=>Qy t a ca hs hsl he
 new:=by
  intro w B' q F s t a ca hs hsl he h hk hB;refine(Qz H t a ca hs hsl he h hk hB).mono ?_;rintro e w' ⟨⟨b,a',c',rfl,k⟩,hb⟩;exact⟨⟨b,_,rfl,a',c',_,k,rfl⟩,hb⟩
 next:=by
  rintro w B b G c B' q F s N ⟨a,ca,v,h,rfl⟩ hg hN hs hk hB hB' hF now;have hcn:=hg.cn;have hb:=hg.bo;refine(MO H T h hs hk hB' hB (λk z y=>hF k z (.inl y)) hg.waits (by omega) hg.filt hg.small.filt (by omega) (Nat.le_trans hg.len hN) (λp hp=>by have:=hg.nth p hp;omega) now).mono ?_;rintro e w' ⟨he,hu⟩;exact⟨he,Rh.did hu⟩
 answer:=by
  rintro w B b G c N ⟨a,ca,v,h,rfl⟩ hg hN now q so n;have hb:=hg.bo;refine(Ip h hg.ok hg.waits (by omega) (by have:=hg.len;omega) now q so n).mono ?_;rintro e w' ⟨he,hu⟩;exact⟨he,Rh.did hu⟩
 info:=by
  rintro w B b G c N ⟨a,ca,v,h,rfl⟩ hg;exact Qj h hg.ok
 taker:=by
  rintro w B b G c N ⟨a,ca,v,h,rfl⟩ hg;exact Ig h hg.small (by have:=hg.bo;omega)
