/- A part. -/
import Derived.Test.YtmhbobnfmncdbaaGreatDoorQ15
import Derived.Deep.DeepCutAuto
set_option maxRecDepth 100000
set_option maxHeartbeats 8000000
namespace Go.Proofs.YtmhbobnfmncdbaaGreatDoor
open Go.RowKit Go.Proofs.Tryz
theorem aaW (n lo hi:Int):dR n lo hi=Tk.inB n lo hi:=rfl
def IB (t:Tk.bY):Bool:=Tk.inB t.fr 0 3&&Tk.inB t.ack 0 2
def yO (t:Tk.bY):Bool:=if t.fr=3 then Tk.inB t.st 1 999999999 else decide (t.st=0)
def yt (t:Tk.bY):Bool:=if t.ack=0 then ((decide (t.wait=0)&&decide (t.mo=0))&&decide (t.pe=0))&&decide (t.bo.length=0) else ((Tk.inB t.wait 1 100000&&Tk.inB t.mo 0 20)&&Tk.inB t.pe 0 50)&&t.bo.all (λn=>Tk.inB n 1 100000)
theorem Ye (t:Tk.bY):((IB t&&yO t)&&yt t)=(Tk.jA t&&Tk.uw t):=by
 rw[Bool.eq_iff_iff];unfold IB yO yt Tk.jA Tk.uw Tk.kQ;constructor
 ·intro h;rw[Bool.and_eq_true,Bool.and_eq_true,Bool.and_eq_true] at h;obtain⟨⟨⟨h1,h2⟩,h3⟩,h4⟩:=h;have k1:=Tk.rX h1;have k2:=Tk.rX h2;rw[Bool.and_eq_true];refine⟨?_,?_⟩
  ·by_cases e:t.fr=3
   ·rw[if_pos e] at h3 ⊢;exact h3
   ·rw[if_neg e] at h3 ⊢;rw[h3,Bool.and_true];unfold Tk.inB;rw[decide_eq_true k1.1,decide_eq_true (by omega:t.fr<=2)];rfl
  ·by_cases e:t.ack=0
   ·rw[if_pos e] at h4 ⊢;simp only[Bool.and_eq_true] at h4 ⊢;exact⟨h4.1.1.1,h4.1.1.2,h4.1.2,h4.2⟩
   ·rw[if_neg e] at h4 ⊢;rw[if_pos (by omega)];simp only[Bool.and_eq_true] at h4 ⊢;exact⟨⟨h4.2,h4.1.1.1⟩,h4.1.1.2,h4.1.2⟩
 ·intro h;rw[Bool.and_eq_true] at h;obtain⟨h3,h4⟩:=h;rw[Bool.and_eq_true,Bool.and_eq_true,Bool.and_eq_true];refine⟨⟨⟨?_,?_⟩,?_⟩,?_⟩
  ·by_cases e:t.fr=3
   ·unfold Tk.inB;rw[e];decide
   ·rw[if_neg e,Bool.and_eq_true] at h3;have:=Tk.rX h3.1;unfold Tk.inB;rw[decide_eq_true this.1,decide_eq_true (by omega:t.fr<=3)];rfl
  ·by_cases e:t.ack=0
   ·unfold Tk.inB;rw[e];decide
   ·rw[if_neg e] at h4;by_cases e2:t.ack=1\/t.ack=2
    ·unfold Tk.inB;rw[decide_eq_true (by omega:0<=t.ack),decide_eq_true (by omega:t.ack<=2)];rfl
    ·rw[if_neg e2] at h4;cases h4
  ·by_cases e:t.fr=3
   ·rw[if_pos e] at h3 ⊢;exact h3
   ·rw[if_neg e,Bool.and_eq_true] at h3;rw[if_neg e];exact h3.2
  ·by_cases e:t.ack=0
   ·rw[if_pos e] at h4 ⊢;simp only[Bool.and_eq_true] at h4 ⊢;exact⟨⟨⟨h4.1,h4.2.1⟩,h4.2.2.1⟩,h4.2.2.2⟩
   ·rw[if_neg e] at h4 ⊢;by_cases e2:t.ack=1\/t.ack=2
    ·rw[if_pos e2] at h4;simp only[Bool.and_eq_true] at h4 ⊢;exact⟨⟨⟨h4.1.2,h4.2.1⟩,h4.2.2⟩,h4.1.1⟩
    ·rw[if_neg e2] at h4;cases h4
theorem QN {l:List Int}{q:Int->Bool}{i:Nat}(h:i<l.length):(l.take (i+1)).all q=((l.take i).all q&&q (Dk.nth l i)):=by
 rw[List.take_succ_eq_append_getElem h,List.all_append];have e:Dk.nth l i=l[i]:=by unfold Dk.nth;rw[List.getElem?_eq_getElem h];rfl
 rw[e];simp
theorem yu (t:Tk.bY)(a:Option Addr)(c:Nat)(w:World)(hs:iV t)(hsl:Dk.jV w a t.bo) :
 Calls prog 11 #[pF t a c] w λe w'=>e=.returned (.int .i64 (Tk.gG t))/\Below w.heap.size w w':=by
 have b0:Below w.heap.size w (w.alloc (qY t a c)):=(Below.refl _ _).alloc (Nat.le_refl _) _;have PN:=aj (Iw t.n (w.alloc (qY t a c)) hs.name);have PF:=aj (λW=>oq t.f W hs.filt);have HW:=aj (λ(W:World) (hW:Below (w.alloc (qY t a c)).heap.size (w.alloc (qY t a c)) W)=>show TB W w.heap.size t a c/\Dk.jV W a t.bo/\Below w.heap.size w W from⟨(TB.new w t a c).next hW,bK (bK hsl b0) hW,ay b0 hW⟩);have hl:=hs.many;obtain⟨_,c0,c1,c2,c3,c4,c5,c6,c7,c8,c9⟩:=TB.new w t a c;have EZ:Hid (Pn.bH t.n=false->Tk.gG t=3):=aj (λh=>by unfold Tk.gG;rw[if_pos h])
 have CJ:Hid (Pn.bH t.n=true->Tk.gG t=if aA true t.f≠0 then aA true t.f else if 5<t.bo.length then 2 else if ((IB t&&yO t)&&yt t)=true then 0 else 1):=aj (λh=>by unfold Tk.gG;rw[if_neg (by rw[h];simp),Ye]);obtain⟨N,hN⟩:∃N,Pn.bH t.n=N:=⟨_,rfl⟩;rw[hN] at PN EZ CJ;obtain⟨E,hE⟩:∃E,aA true t.f=E:=⟨_,rfl⟩;rw[hE] at PF CJ;obtain⟨R,hR⟩:∃R,Tk.gG t=R:=⟨_,rfl⟩;rw[hR] at EZ CJ ⊢;clear hN hE hR hs hsl b0;go_enter func11,ntmps11;go_wp2_with fail;refine(ah PN).mono ?_;rintro e w1 ⟨rfl,b1⟩;have B1:=aj b1;obtain⟨tb,_,be⟩:=ah HW w1 b1;have BE:=aj be;clear PN b1 be c0 c1 c2 c3 c4 c5 c6 c7 c8 c9
 obtain⟨hbl,c0,c1,c2,c3,c4,c5,c6,c7,c8,c9⟩:=tb
 cases N with
 | false =>
  obtain rfl:R=3:=ah EZ rfl;clear EZ CJ HW;go_wp2_with fail;go_ret;exact⟨rfl,ah BE⟩
 | true =>
  have HR:=aj (ah CJ rfl);have xR:=aj (ah PF w1);clear EZ CJ PF BE;go_wp2_with fail;refine(ah xR).mono ?_;rintro e w2 ⟨rfl,b2⟩;obtain⟨tb,hs2,be⟩:=ah HW w2 (ay (ah B1) b2);have BE:=aj be;have HS:=aj hs2;clear xR b2 be hs2 HW B1 hbl c0 c1 c2 c3 c4 c5 c6 c7 c8 c9;obtain⟨hbl,c0,c1,c2,c3,c4,c5,c6,c7,c8,c9⟩:=tb;by_cases hE0:E=0
  ·subst hE0;by_cases h5:5<t.bo.length
   ·have hd:(5:Int)<(t.bo.length:Int):=by omega
    obtain rfl:R=2:=by rw[ah HR,if_neg (by simp),if_pos h5]
    clear HR h5;go_wp2_with fail;go_ret;exact⟨rfl,ah BE⟩
   ·have hd:decide ((5:Int)<(t.bo.length:Int))=false:=decide_eq_false (by omega);have HR2:=aj (show R=if ((IB t&&yO t)&&yt t)=true then 0 else 1 from by rw[ah HR,if_neg (by simp),if_neg h5]);clear HR;go_upto_region 8 with fail
    go_cut [4] (λv wx=>v=.bool (IB t)/\wx=w2)
    case first =>
     clear HR2 HS;obtain⟨G,hG⟩:∃G,dR t.ack 0 2=G:=⟨_,rfl⟩;have HG:=aj hG;have HT:Hid (IB t=(dR t.fr 0 3&&dR t.ack 0 2)):=aj rfl;rw[hG] at HT;clear hG
     cases hF:dR t.fr 0 3 with
     | false =>
      have HF:=aj hF;rw[hF] at HT;clear hF;go_wp2_with (go_at_call 54;refine(iw _ _ _ _).mono ?_;rintro e w3 ⟨rfl,rfl⟩;rw[ah HF]);go_meet
      exact⟨by rw[ah HT];try rfl,rfl⟩
     | true =>
      have HF:=aj hF;rw[hF] at HT;clear hF;go_wp2_with (go_at_call 54;refine(iw _ _ _ _).mono ?_;rintro e w3 ⟨rfl,rfl⟩;first|rw[ah HF]|rw[ah HG]);go_meet
      exact⟨by rw[ah HT];try rfl,rfl⟩
    case rest =>
     obtain⟨rfl,hwx⟩:=hcut;rw[hwx];clear hwx;obtain⟨K,hK⟩:∃K,IB t=K:=⟨_,rfl⟩;rw[hK] at HR2 ⊢;clear hK;go_upto_if 30 with fail
     go_cut [4] (λv wx=>v=.bool (K&&yO t)/\wx=w2)
     case first =>
      clear HR2 HS;by_cases h3:t.fr=3
      ·have e3:(t.fr==3)=true:=by simpa using h3
       obtain⟨G,hG⟩:∃G,dR t.st 1 999999999=G:=⟨_,rfl⟩;have HG:=aj hG;have HT:Hid (yO t=dR t.st 1 999999999):=aj (by unfold yO;rw[if_pos h3];rfl);rw[hG] at HT;clear hG h3
       cases K with
       | false =>
        go_wp2_with fail;go_meet
        exact⟨by try rfl,rfl⟩
       | true =>
        go_wp2_with (go_at_call 54;refine(iw _ _ _ _).mono ?_;rintro e w3 ⟨rfl,rfl⟩;rw[ah HG]);go_meet
        exact⟨by rw[ah HT];try rfl,rfl⟩
      ·have e3:(t.fr==3)=false:=by simpa using h3
       have HT:Hid (yO t=(t.st==0)):=aj (by unfold yO;rw[if_neg h3];by_cases e:t.st=0<;>simp[e]);clear h3
       cases K with
       | false =>
        go_wp2_with fail;go_meet
        exact⟨by try rfl,rfl⟩
       | true =>
        go_wp2_with fail;go_meet
        exact⟨by rw[ah HT];try rfl,rfl⟩
     case rest =>
      obtain⟨rfl,hwx⟩:=hcut;rw[hwx];clear hwx;obtain⟨K2,hK2⟩:∃K2,(K&&yO t)=K2:=⟨_,rfl⟩;rw[hK2] at HR2 ⊢;clear hK2;go_upto_if 45 with fail
      go_cut [4] (λv wx=>v=.bool (K2&&yt t)/\wx=w2)
      case first =>
       clear HR2;by_cases h0:t.ack=0
       ·have e0:(t.ack==0)=true:=by simpa using h0
        have HT:Hid (yt t=((((t.wait==0)&&(t.mo==0))&&(t.pe==0))&&((t.bo.length:Int)==0))):=aj (by
         unfold yt;rw[if_pos h0];have f:∀x:Int,decide (x=0)=(x==0):=λx=>by by_cases e:x=0<;>simp[e]
         have g:decide (t.bo.length=0)=((t.bo.length:Int)==0):=by rw[<-f];exact decide_eq_decide.2 (by omega)
         rw[f,f,f,g])
        clear h0 HS
        cases K2 with
        | false =>
         go_wp2_with fail;go_meet
         exact⟨by try rfl,rfl⟩
        | true =>
         cases h5:(t.wait==0) with
         | false =>
          rw[h5] at HT;go_wp2_with fail;go_meet
          exact⟨by rw[ah HT];try rfl,rfl⟩
         | true =>
          rw[h5] at HT
          cases h7:(t.mo==0) with
          | false =>
           rw[h7] at HT;go_wp2_with fail;go_meet
           exact⟨by rw[ah HT];try rfl,rfl⟩
          | true =>
           rw[h7] at HT
           cases h8:(t.pe==0) with
           | false =>
            rw[h8] at HT;go_wp2_with fail;go_meet
            exact⟨by rw[ah HT];try rfl,rfl⟩
           | true =>
            rw[h8] at HT;go_wp2_with fail;go_meet
            exact⟨by rw[ah HT];try rfl,rfl⟩
       ·have e0:(t.ack==0)=false:=by simpa using h0
        obtain⟨G1,g1⟩:∃G,dR t.wait 1 100000=G:=⟨_,rfl⟩;obtain⟨G2,g2⟩:∃G,dR t.mo 0 20=G:=⟨_,rfl⟩;obtain⟨G3,g3⟩:∃G,dR t.pe 0 50=G:=⟨_,rfl⟩;have HT:Hid (yt t=(((G1&&G2)&&G3)&&t.bo.all (λn=>Tk.inB n 1 100000))):=aj (by unfold yt;rw[if_neg h0,<-g1,<-g2,<-g3];rfl);have H1:=aj g1;have H2:=aj g2;have H3:=aj g3;clear h0 g1 g2 g3;go_upto_region 14 with fail
        go_cut [4] (λv wx=>v=.bool (K2&&((G1&&G2)&&G3))/\wx=w2)
        case first =>
         clear HS HT
         cases K2 with
         | false =>
          go_wp2_with fail;go_meet
          exact⟨by try rfl,rfl⟩
         | true =>
          cases G1 with
          | false =>
           go_wp2_with (go_at_call 54;refine(iw _ _ _ _).mono ?_;rintro e w3 ⟨rfl,rfl⟩;first|rw[ah H1]|rw[ah H2]|rw[ah H3]);go_meet
           exact⟨by try rfl,rfl⟩
          | true =>
           cases G2 with
           | false =>
            go_wp2_with (go_at_call 54;refine(iw _ _ _ _).mono ?_;rintro e w3 ⟨rfl,rfl⟩;first|rw[ah H1]|rw[ah H2]|rw[ah H3]);go_meet
            exact⟨by try rfl,rfl⟩
           | true =>
            go_wp2_with (go_at_call 54;refine(iw _ _ _ _).mono ?_;rintro e w3 ⟨rfl,rfl⟩;first|rw[ah H1]|rw[ah H2]|rw[ah H3]);go_meet
            exact⟨by try rfl,rfl⟩
        case rest =>
         obtain⟨rfl,hwx⟩:=hcut;rw[hwx];clear hwx H1 H2 H3;obtain⟨K3,hK3⟩:∃K3,(K2&&((G1&&G2)&&G3))=K3:=⟨_,rfl⟩;have HT2:Hid ((K2&&yt t)=(K3&&t.bo.all (λn=>Tk.inB n 1 100000))):=aj (by rw[ah HT,<-hK3];simp only[Bool.and_assoc]);rw[hK3];clear HT hK3;go_wp2_with fail;go_loop [4,5] (λkv iv=>∃(i:Nat) (A:Bool),kv=.bool A/\iv=.int .i64 i/\i<=t.bo.length/\Hid (A=(K3&&(t.bo.take i).all (λn=>Tk.inB n 1 100000)))) (λ_ iv=>t.bo.length-(intOf iv).toNat)
         case atStart=>exact⟨0,K3,rfl,rfl,Nat.zero_le _,aj (by simp)⟩
         case round =>
          obtain⟨i,A,rfl,rfl,hi,HA⟩:=hrel;by_cases hlt:i<t.bo.length
          ·obtain⟨g,o,rfl,_,e1⟩:=ah HS i hlt;have HS2:=aj (QN (q:=λn=>Tk.inB n 1 100000) hlt);obtain⟨x,hx⟩:∃x,x=Dk.nth t.bo i:=⟨_,rfl⟩;rw[<-hx] at e1 HS2;clear hx;have hi2:(i:Int)<(t.bo.length:Int):=by omega
           cases A with
           | false =>
            have HA2:Hid (false=(K3&&(t.bo.take (i+1)).all (λn=>Tk.inB n 1 100000))):=aj (by rw[ah HS2,<-Bool.and_assoc,<-ah HA];rfl);clear HA HS2;go_wp2_with fail;go_round
            case rel=>exact⟨i+1,false,by try rfl,by go_num,by omega,HA2⟩
            case measure=>simp[intOf];omega
           | true =>
            obtain⟨G,hG⟩:∃G,dR x 1 100000=G:=⟨_,rfl⟩;have HG:=aj hG;have HA2:Hid (G=(K3&&(t.bo.take (i+1)).all (λn=>Tk.inB n 1 100000))):=aj (by rw[ah HS2,<-Bool.and_assoc,<-ah HA,<-hG];rfl);clear HA HS2 hG;go_wp2_with (go_at_call 54;refine(iw _ _ _ _).mono ?_;rintro e w3 ⟨rfl,rfl⟩;rw[ah HG]);go_round
            case rel=>exact⟨i+1,G,by try rfl,by go_num,by omega,HA2⟩
            case measure=>simp[intOf];omega
          ·obtain rfl:i=t.bo.length:=by omega
           rw[List.take_of_length_le (Nat.le_refl _)] at HA;go_wp2_with fail;go_meet
           exact⟨by rw[ah HT2,<-ah HA];try rfl,rfl⟩
      case rest =>
       obtain⟨rfl,hwx⟩:=hcut;rw[hwx];clear hwx HS c0 c1 c2 c3 c4 c5 c6 c7 c8 c9
       cases hK3:(K2&&yt t) with
       | false =>
        obtain rfl:R=1:=by rw[ah HR2,hK3];rfl
        clear HR2;go_wp2_with fail;go_ret;exact⟨rfl,ah BE⟩
       | true =>
        obtain rfl:R=0:=by rw[ah HR2,hK3];rfl
        clear HR2;go_wp2_with fail;go_ret;exact⟨rfl,ah BE⟩
  ·have e5:(E !=0)=true:=by simpa using hE0
   obtain rfl:R=E:=by rw[ah HR,if_pos hE0]
   clear HR hE0;go_wp2_with fail;go_ret;exact⟨rfl,ah BE⟩
