/- A part of the proof. -/
import Derived.Test.YtidekgipblnpkaaGreatDoorQ39
import Derived.Test.YtidekgipblnpkaaGreatDoorQ52
set_option maxRecDepth 100000
set_option maxHeartbeats 8000000
namespace Go.Proofs.YtidekgipblnpkaaGreatDoor.Dk
open Go.RowKit Go.Proofs.Tryz
def RHx (Has:World->Nat->Nat->(Nat->Prop)->Int->List ay->Prop)(SH:World->Nat->Nat->(Nat->Prop)->aG->Prop)(w:World)(B x:Nat)(F:Nat->Prop)(P:Pn.aU)(m size:Int)(st:Str):Prop:=∃B0,B<=B0/\B0<=w.heap.size/\Ui Has SH w B0 x F P m size st
section
variable {Has:World->Nat->Nat->(Nat->Prop)->Int->List ay->Prop}{SH:World->Nat->Nat->(Nat->Prop)->aG->Prop}{w w':World}{B B0 x:Nat}{F:Nat->Prop}{P:Pn.aU}{m size:Int}{st st':Str}
theorem RHx.did (h:uM (Ui Has SH) w w' B0 x F P m size st')(hB:B<=B0)(hw:B0<=w.heap.size):uM (RHx Has SH) w w' B x F P m size st':=by
 obtain⟨F',h1,h2,h3⟩:=h;exact⟨F',⟨B0,hB,Nat.le_trans hw h2.size,h1⟩,h2,h3⟩
theorem XO (h:Ui Has SH w B x F P m size st) :
 Calls prog 14 #[.pointer (some ⟨x,0,none⟩)] w λe w'=>∃q G,e=.returned (.pointer (some ⟨q,0,none⟩))/\SH w' B q G st.s/\(∀k,G k->F k)/\Below w.heap.size w w':=by
 obtain⟨FV,a,c,mb,h1,h2⟩:=h;have P1:=aj (KE h1.qE);have HF:=aj (λk (hk:FV k)=>(h2 k).2 (.inl hk));clear h1 h2;go_enter func14,ntmps14
 go_wp2_with fail
 refine(ah P1).mono ?_;rintro e w1 ⟨q,G,rfl,h1,h2,b1⟩;have B1:=aj (show SH w1 B q G st.s/\(∀k,G k->F k)/\Below w.heap.size w w1 from⟨h1,λk hk=>ah HF k (h2 k hk),b1⟩);clear P1 h1 h2 b1;go_wp2_with fail
 go_ret
 exact⟨q,G,rfl,ah B1⟩
theorem pY (U:tu Has SH)(N:Z8 Has)(T:jA SH)(V:mP SH):aK oz (RHx Has SH) SH where
 own:=λh k hk=>by
  obtain⟨B0,h1,_,FV,a,c,mb,h3,h4⟩:=h;have:=h3.own U.H U.S k ((h4 k).1 hk);exact⟨Nat.le_trans h1 this.1,this.2⟩
 dh:=λh hc hn=>by
  obtain⟨B0,h1,h2,FV,a,c,mb,h3,h4⟩:=h;exact⟨B0,h1,Nat.le_trans h2 hc.size,FV,a,c,mb,h3.dh U.H U.S hc (λk hk=>hn k ((h4 k).2 hk)),h4⟩
 wrong:=λw P a c m size hs hsl hc hG hp=>XM w P a c m size hs hsl hc hG hp
 bad:=λw P a c m size hs hsl hc hG hp hb=>aeS N w P a c m size hs hsl hc hG hp hb
 good:=λw P a c m size hs hsl hc hG hp hm hz=>(abO U N w P a c m size hs hsl hc hG hp hm hz).mono (by
  rintro e w' ⟨p,F,B0,he,⟨h1,h2,h3⟩,hb⟩;exact⟨p,F,he,⟨B0,h1,h2,h3⟩,hb⟩)
 publish:=λnow x hx h hf _=>by
  obtain⟨B0,h1,h2,h3⟩:=h;obtain⟨a,c,mb,r,hfin⟩:=h3.begin;refine(UH U T V r hf h2 now x hx).mono ?_;rintro e w' ⟨he,⟨mb',r'⟩,_⟩;exact⟨he,RHx.did (hfin _ _ _ _ r') h1 h2⟩
 store:=λh _ _=>by
  obtain⟨B0,h1,h2,h3⟩:=h;refine(XO h3).mono ?_;rintro e w' ⟨q,G,he,hs,hg,hb⟩;exact⟨q,G,he,U.S.low hs h1,hg,hb⟩
theorem OC (_U:tu Has SH):kT (RHx Has SH) where
 crash:=λkeep h hf _=>by(obtain⟨B0,h1,h2,h3⟩:=h;obtain⟨a,c,mb,r,hfin⟩:=h3.begin;refine(Xw _U r hf h2 keep).mono ?_;rintro e w' ⟨he,r',_⟩;exact⟨he,RHx.did (hfin _ _ _ _ r') h1 h2⟩)
 true':=trivial
end
end Go.Proofs.YtidekgipblnpkaaGreatDoor.Dk
