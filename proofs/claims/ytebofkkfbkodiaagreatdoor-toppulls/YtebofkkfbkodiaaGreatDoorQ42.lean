/- A part. -/
import Derived.Test.YtebofkkfbkodiaaGreatDoorQ13
import Derived.Test.YtebofkkfbkodiaaGreatDoorQ37
import Derived.Deep.DeepCutAuto
import Derived.Deep.DrawnRows
set_option maxRecDepth 100000
set_option maxHeartbeats 8000000
namespace Go.Proofs.YtebofkkfbkodiaaGreatDoor
open Go.RowKit Go.Proofs.Tryz
variable {s:ad}{g:Nat}{W w w' w1 w3:I}{t:Value}
theorem Zk (h:¬1024<s.size)(h2:¬(bG 32 s).length<2):Tk.dw s=match Tk.zK Tk.seven (((bG 32 s).drop 2).map (·.data.toList)) (Tk.base (tk (bG 32 s) 0) (tk (bG 32 s) 1)) with
 | some t=>if Tk.iV t=0 then (t,0) else (Tk.dB,Tk.iV t)
 | none=>(Tk.dB,3):=by
 unfold Tk.dw;rw[if_neg h,<-iP 32 s];generalize bG 32 s=ws at h2 ⊢
 cases ws with
 | nil=>simp at h2
 | cons x xs =>
  cases xs with
  | nil=>simp at h2
  | cons y ys =>
   show(match Tk.zK Tk.seven (ys.map (·.data.toList)) (Tk.base (Pn.bs x.data.toList) (Pn.bs y.data.toList)) with
    | some t=>if Tk.iV t=0 then (t,0) else (Tk.dB,Tk.iV t)
    | none=>(Tk.dB,3))=_
   rw[Pn.zo,Pn.zo];rfl
theorem QW (h:¬1024<s.size)(h2:(bG 32 s).length<2):Tk.dw s=(Tk.dB,3):=by
 unfold Tk.dw;rw[if_neg h,<-iP 32 s];generalize bG 32 s=ws at h2 ⊢
 cases ws with
 | nil=>rfl
 | cons x xs =>
  cases xs with
  | nil=>rfl
  | cons y ys=>simp only[ajX] at h2;omega
theorem acT {is:List Nat}:∀{us:List (List UInt8)} {t t':Tk.bJ},Tk.zK is us t=some t'->t'.n=t.n/\t'.f=t.f:=by
 induction is with
 | nil =>
  intro us t t' h
  cases us with
  | nil=>cases h;exact⟨rfl,rfl⟩
  | cons u us=>cases h
 | cons i is ih =>
  intro us t t' h
  cases us with
  | nil=>cases h;exact⟨rfl,rfl⟩
  | cons u us =>
   rw[Tk.zK] at h;split at h
   ·split at h
    ·rename_i t2 h2;have e:=Tk.WH h2;have hn:=Tk.FI t2 t i;rw[<-e] at hn;obtain⟨q1,q2⟩:=ih h;exact⟨q1.trans hn.1,q2.trans hn.2⟩
    ·cases h
   ·exact ih h
abbrev Tw (g:Nat)(x y:ad)(w:I):Prop:=w.cell? (aq g 0)=some (.string x)/\w.cell? (aq g 1)=some (.string y)
theorem Tw.alloc {g:Nat}{x y:ad}{W:I}{o:Obj}(h:Tw g x y W)(hg:g<W.heap.size):Tw g x y (W.alloc o):=⟨by rw[World.cell?_alloc_old _ _ _ (Nat.ne_of_lt hg)];exact h.1,by rw[World.cell?_alloc_old _ _ _ (Nat.ne_of_lt hg)];exact h.2⟩
theorem Tw.agD {x y:ad}{o:Obj}(h:Tw g x y W.drew)(hg:g<W.heap.size):Tw g x y (W.alloc o).drew:=Tw.alloc (o:=o) (W:=W) h hg
theorem Tw.puts {g:Nat}{x y:ad}{W:I}{b:Nat}(h:Tw g x y W)(hg:g≠b)(vs:List Value):Tw g x y (puts W b 0 vs):=⟨by rw[qR hg];exact h.1,by rw[qR hg];exact h.2⟩
theorem gU.two' {ws:List ad}(h:gU w (some ⟨g,0,none⟩) ws):gU w (if ws.length=2 then some ⟨g,0,none⟩ else some ⟨g,2,none⟩) (ws.drop 2):=λk hk=>by
 rw[ajI] at hk;rw[if_neg (by omega)];obtain⟨b,o,e,h1,h2⟩:=h (k+2) (by omega)
 cases e
 refine⟨g,2,rfl,h1,?_⟩;rw[show 2+k=0+(k+2) by omega,h2];unfold tk;rw[akG,Nat.add_comm 2 k]
def QX (w1 wx:I)(b:Nat)(X Y:ad):Prop:=TB wx b (Tk.base X Y) none 0/\(∀j,wx.frozen? (aq b j)=false)/\ai w1 wx/\w1.heap.size<=b
theorem QX.last (X Y:ad)(hb:ai w1 w3):QX w1 (w3.alloc (rY (Tk.base X Y) none 0)) w3.heap.size X Y :=
 ⟨TB.new w3 _ _ _,λj=>akp _ _ _ j,hb.alloc hb.size _,hb.size⟩
theorem QX.over {b:Nat}(X Y:ad)(hz:Zb w3 b)(hb:ai w1 w3)(hl:w1.heap.size<=b):QX w1 (puts w3 b 0 [.string X,.string Y,aa 0,aa 0,aa 2,aa 0,.slice none 0 0,aa 0,aa 0,.bool false]) b X Y :=
 ⟨hz.1.puts (Tk.base X Y) none 0,λj=>by rw[zM];exact hz.2 j,dA hl _ _ _ hb,hl⟩
theorem acU (hb:Below (w.alloc Yv).drew.heap.size (w.alloc Yv).drew w'):Zb w' w.heap.size :=
 ((Zb.new w).next (agP _ _).drew).next hb
theorem Xa (hb:Below (w.alloc Yv).heap.size (w.alloc Yv) w'):Zb w' w.heap.size:=(Zb.new w).next hb
def Xb (s:ad)(w:I)(e:Ending)(w':I):Prop:=∃(r:Bool) (t:Tk.bJ) (a:Option Addr) (c:Nat),e=.returned (.tuple #[sJ t a c,.bool r])/\Dk.kK w' a t.bo/\ai w w'/\(r=false->Tk.dw s=(Tk.dB,3))/\(r=true->Tk.dw s=(if Tk.iV t=0 then (t,0) else (Tk.dB,Tk.iV t))/\t.n.size<=1024/\t.f.size<=1024)/\t.bo.length<=2000/\t.bo.length<=c/\∀z,a=some z->w.heap.size<=z.block
theorem Xb.short (h:Tk.dw s=(Tk.dB,3))(hb:ai w W)(ht:t=.bool false):Xb s w (.returned (.tuple #[sJ Tk.dB none 0,t])) W:=by
 subst ht;exact⟨false,Tk.dB,none,0,rfl,λk hk=>by simp[Tk.dB] at hk,hb,λ_=>h,λq=>by simp at q,by simp[Tk.dB],by simp[Tk.dB],λz hz=>by cases hz⟩
theorem Zl (s:ad)(w:I)(hs:s.size<=1024)(hG:uG w) :
 Calls prog 75 #[.string s] w λe w'=>Xb s w e w':=by
 have z0:=Zb.new w;have b0:ai w (w.alloc Yv):=ax _ _;obtain⟨W,hW⟩:∃W,W=w.alloc Yv:=⟨_,rfl⟩;rw[<-hW] at z0 b0;have hf:(bG 32 s).length<=1025:=by
  rw[pX];have h1:=List.count_le_length (a:=(32:UInt8)) (l:=s.data.toList);have e:s.data.toList.length=s.size:=by simp
  omega
 have PP:=aj (rJ 32 s W (by omega) (by omega));have HS2:Hid ((bG 32 s).length<2->Tk.dw s=(Tk.dB,3)):=aj (QW (by omega));have HS3:Hid (¬(bG 32 s).length<2->_):=aj (λh=>Zk (s:=s) (by omega) h);have Zj:Hid (∀k,k<(bG 32 s).length->(tk (bG 32 s) k).size<=1024):=aj (λk hk=>ajA (Bd (iP 32 s) hk) hs);obtain⟨ws,hws⟩:∃ws,bG 32 s=ws:=⟨_,rfl⟩;rw[hws] at PP HS2 HS3 Zj hf;have hWl:w.heap.size<W.heap.size:=z0.1.lt;have H0:=aj z0;have HB:=aj (And.intro b0 (hG.next b0));have hGl:1<w.heap.size:=hG.1;clear hws z0 b0 hG;go_enter func75,ntmps75
 go_wp2_with fail;rw[<-hW];obtain⟨rb,hrb⟩:∃rb,rb=w.heap.size:=⟨_,rfl⟩;rw[<-hrb] at H0 ⊢;have hrw:w.heap.size<=rb:=by omega
 rw[<-hrb] at hWl;clear hW hrb;refine(ah PP).mono ?_;rintro e w1 ⟨g,rfl,o1,b1⟩;have H1:Hid (Zb w1 rb/\ai w w1/\uG w1/\gU w1 (some ⟨g,0,none⟩) ws):=aj ⟨(ah H0).next b1,ak (ah HB).1 b1,(ah HB).2.next b1,zG o1⟩;have hgl:g<w1.heap.size:=(own_base o1).2;have hgr:rb≠g:=by have:=(own_base o1).1;omega
 clear PP o1 b1 H0 HB;by_cases h2:ws.length<2
 ·have g2:decide ((ws.length:Int)<2)=true:=ajH (by omega);have HR:=aj (ah HS2 h2);obtain⟨_,y0,y1,y2,y3,y4,y5,y6,y7,y8,y9⟩:=(ah H1).1.1;have fz:=(ah H1).1.2;clear HS2 HS3 Zj;go_wp2_with fail;refine ajY (kJ rfl rfl ((ah H1).1.1.puts Tk.dB none 0)) rfl ?_;exact Xb.short (ah HR) (dA hrw [_,_,_,_,_,_,_,_,_,_] w1 0 (ah H1).2.1) rfl
 ·have g2:decide ((ws.length:Int)<2)=false:=ajE (by omega);have HR:=aj (ah HS3 h2);obtain⟨_,_,e0,_,c0⟩:=(ah H1).2.2.2 0 (by omega)
  cases e0
  obtain⟨_,_,e0,_,c1⟩:=(ah H1).2.2.2 1 (by omega)
  cases e0
  rw[ajT] at c0 c1;have hXz:=ah Zj 0 (by omega);have hYz:=ah Zj 1 (by omega);obtain⟨X,hX⟩:∃X,tk ws 0=X:=⟨_,rfl⟩;obtain⟨Y,hY⟩:∃Y,tk ws 1=Y:=⟨_,rfl⟩;rw[hX] at c0 hXz HR;rw[hY] at c1 hYz HR;have PC:Hid (∀(x:ad) (W:I),x=X\/x=Y->Calls prog 108 #[.string x] W λe w'=>e=.returned (.string x)/\ai W w'):=aj (λx W h=>clone_any x W (by rcases h with rfl|rfl<;>omega));have hi0:0<ws.length:=by omega
  have hi1:1<ws.length:=by omega
  have hj0:(0:Int)<(ws.length:Int):=by omega
  have hj1:(1:Int)<(ws.length:Int):=by omega
  have k0:Tw g X Y w1.drew:=⟨by simpa using c0,by simpa using c1⟩;have hne:g≠w1.heap.size:=by omega
  clear hX hY HS2 HS3 c0 c1;go_upto_region 4 with fail
  go_cut [5] (λv wx=>∃b,v=ae b/\Hid (QX w1 wx b X Y))
  case first =>
   clear HR H1 Zj;go_wp2_with fail;go_region_held_law (Tw g X Y) (first|with_reducible assumption|((with_reducible refine Tw.alloc ?_ ?_)<;>assumption)|((with_reducible refine Tw.agD ?_ ?_)<;>assumption)|exact Tw.puts k3 (by assumption) [_,_,_,_,_,_,_,_,_,_])
    (first
     | (
      go_at_call 108;refine(ah PC Y _ (.inr rfl)).mono ?_;rintro e w3 ⟨rfl,b3⟩
      have k3:Tw g X Y w3:=⟨by rw[b3.cell (p:=aq g 0) (by first|assumption|(simp;omega))];go_split_ands;assumption,by rw[b3.cell (p:=aq g 1) (by first|assumption|(simp;omega))];go_split_ands;assumption⟩
      have agE:g<w3.heap.size:=ajz Zm (by first|exact b3.size|(have:=b3.size;simp at this;omega))
      first
      | (have hz3:=Zb.next hz b3;obtain⟨⟨_,y0,y1,y2,y3,y4,y5,y6,y7,y8,y9⟩,yf⟩:=id hz3)
      | (have hz3:=acU b3;obtain⟨⟨_,y0,y1,y2,y3,y4,y5,y6,y7,y8,y9⟩,yf⟩:=id hz3;have aiG:g≠w2.heap.size:=Nat.ne_of_lt Zm)
      | (have hz3:=Xa b3;obtain⟨⟨_,y0,y1,y2,y3,y4,y5,y6,y7,y8,y9⟩,yf⟩:=id hz3;have aiG:g≠w2.heap.size:=Nat.ne_of_lt Zm)
      | skip)
     | (
      go_at_call 108;refine(ah PC X _ (.inl rfl)).mono ?_;rintro e w2 ⟨rfl,b2⟩
      have k2:Tw g X Y w2:=⟨by rw[b2.cell (p:=aq g 0) (by first|simpa using hgl|(simp;omega))];go_split_ands;assumption,by rw[b2.cell (p:=aq g 1) (by first|simpa using hgl|(simp;omega))];go_split_ands;assumption⟩
      have Zm:g<w2.heap.size:=ajz hgl (by first|exact b2.size|(have:=b2.size;simp at this;omega))
      first
      | (have hz:=acU b2)
      | (have hz:=Xa b2)
      | skip))
   ·have HL:=aj (QX.last X Y (w1:=w1) (ak ((agP w1.heap.size w1).drew.trans b2) b3));clear k2 k3 agE Zm b2 b3 PC k0;go_wp2_with fail;go_meet
    exact⟨_,rfl,HL⟩
   ·have HL:=aj (QX.over X Y (w1:=w1) hz3 (ak (ak ((agP w1.heap.size w1).drew.trans b2) ((agP w2.heap.size w2).alloc (agH _) Yv)) b3) ((agP w1.heap.size w1).drew.trans b2).size);clear k2 k3 agE Zm b2 b3 PC k0 y0 y1 y2 y3 y4 y5 y6 y7 y8 y9 yf hz3;go_wp2_with fail;go_meet
    exact⟨_,rfl,HL⟩
   ·have HL:=aj (QX.over X Y (w1:=w1) hz3 (ak (ak ((agP w1.heap.size w1).alloc (agH _) Yv).drew b2) b3) (agH _));clear k2 k3 agE Zm b2 b3 PC k0 y0 y1 y2 y3 y4 y5 y6 y7 y8 y9 yf hz3;go_wp2_with fail;go_meet
    exact⟨_,rfl,HL⟩
  case rest =>
   obtain⟨b,rfl,HL⟩:=hcut;obtain⟨l1,l2,l3,l4⟩:=ah HL;have aiC:rb<w1.heap.size:=(ah H1).1.1.lt;have hbw:w.heap.size<=b:=ajA (ah H1).2.1.size l4;have hrow:gU wc (some ⟨g,0,none⟩) ws:=(ah H1).2.2.2.next l3;have hq:Wq wc b (if ws.length=2 then some ⟨g,0,none⟩ else some ⟨g,2,none⟩) (ws.drop 2):=⟨hrow.two',λz hz=>by
    split at hz
    ·cases hz;exact ajz hgl l4
    ·cases hz;exact ajz hgl l4,λk hk=>by
    rw[ajI] at hk;have:=ah Zj (k+2) (by omega);unfold tk at this ⊢;rw[akG,Nat.add_comm 2 k];exact this⟩
   have hrd:nP wc wc b (Tk.base X Y) none 0:=⟨l1,⟨rfl,.inl ⟨rfl,rfl⟩⟩,l2,agP _ _⟩;have PR:=aj (Io (if ws.length=2 then some ⟨g,0,none⟩ else some ⟨g,2,none⟩) (ws.drop 2) (ws.length-2) b (Tk.base X Y) wc wc ((ah H1).2.2.1.next l3) (ajz hGl hbw) hq hrd rfl (by rw[ajI];omega));rw[ajI] at PR;obtain⟨ans,hans⟩:∃ans,Tk.zK Tk.seven ((ws.drop 2).map (·.data.toList)) (Tk.base X Y)=ans:=⟨_,rfl⟩;rw[hans] at PR HR;have HN:Hid (∀t',ans=some t'->t'.n.size<=1024/\t'.f.size<=1024):=aj (λt' ht=>by
    obtain⟨q1,q2⟩:=acT (hans.trans ht);rw[q1,q2];exact⟨hXz,hYz⟩)
   have HF:Hid (ai w wc/\Zb wc rb):=aj ⟨ak (ah H1).2.1 l3,(ah H1).1.next l3⟩;clear hq hrd hrow l1 l2 l3 HL H1 hans k0 hne PC Zj;by_cases h22:ws.length=2;all_goals
    first
     | (rw[if_pos h22,show ws.length-2=0 by omega] at PR)
     | (rw[if_neg h22] at PR)
    go_wp2_with fail
    refine(ah PR).mono ?_
    rintro e w9 ⟨r,t',a',c',rfl,hr1,hr2,rd9,aiH⟩
    have hza:∀z,a'=some z->b+1<=z.block:=λz hz=>by
     subst hz;exact(aks rd9.nums z.block rfl).1
    obtain⟨_,_,es,hc9,_⟩:=rd9.nums.shape
    obtain⟨rfl,_,rfl⟩:=akE es
    obtain⟨_,_,es,sl9⟩:=rd9.nums.sl
    obtain⟨rfl,_,rfl⟩:=akE es
    have zb9:Zb w9 rb:=(ah HF).2.after rd9.low (by omega)
    have bl9:ai w w9:=(ah HF).1.trans (rd9.low.mono hbw)
    have HQ:Hid ((r=false->Tk.dw s=(Tk.dB,3))/\(r=true->Tk.dw s=(if Tk.iV t'=0 then (t',0) else (Tk.dB,Tk.iV t'))/\t'.n.size<=1024/\t'.f.size<=1024)):=aj ⟨λh=>by rw[ah HR,hr2 h],λh=>⟨by rw[ah HR,hr1 h],ah HN t' (hr1 h)⟩⟩
    have HA:=aj hza
    have H9:=aj (And.intro zb9 (And.intro bl9 sl9))
    obtain⟨⟨_,y0,y1,y2,y3,y4,y5,y6,y7,y8,y9⟩,fz⟩:=zb9
    obtain⟨_,z0,z1,z2,z3,z4,z5,z6,z7,z8,z9⟩:=rd9.tb
    clear PR HF HR HN hr1 hr2 rd9 sl9 bl9 hza es
    go_wp2_with fail
    refine ajY (kJ rfl rfl ((ah H9).1.1.puts t' _ _)) rfl ?_
    exact⟨r,t',_,_,rfl,Jq (λz hz e=>by have:=ah HA z hz;omega) [_,_,_,_,_,_,_,_,_,_] _ 0 (ah H9).2.2,dA hrw [_,_,_,_,_,_,_,_,_,_] _ 0 (ah H9).2.1,(ah HQ).1,(ah HQ).2,aiH,hc9,λz hz=>by have:=ah HA z hz;omega⟩
def oL (s:ad)(w:I)(e:Ending)(w':I):Prop:=∃a c,e=.returned (.tuple #[sJ (Tk.dw s).1 a c,aa (Tk.dw s).2])/\Dk.kK w' a (Tk.dw s).1.bo/\ai w w'/\(Tk.dw s).1.bo.length<=c
theorem oL.bad {E:Int}(h:Tk.dw s=(Tk.dB,E))(hb:ai w W)(ht:t=aa E):oL s w (.returned (.tuple #[sJ Tk.dB none 0,t])) W:=by
 unfold oL;rw[h,ht];exact⟨none,0,rfl,λk hk=>by simp[Tk.dB] at hk,hb,by simp[Tk.dB]⟩
theorem oL.good {v:Value}{t:Tk.bJ}{a:Option Addr}{c:Nat}(h:Tk.dw s=(t,0))(hb:ai w W)(hs:Dk.kK W a t.bo)(hc:t.bo.length<=c)(ht:v=aa 0):oL s w (.returned (.tuple #[sJ t a c,v])) W:=by
 unfold oL;rw[h,ht];exact⟨a,c,rfl,hs,hb,hc⟩
theorem QY (h:1024<s.size):Tk.dw s=(Tk.dB,2):=by unfold Tk.dw;rw[if_pos h]
theorem UL (s:ad)(w:I)(hs:s.size<=140737488355328)(hG:uG w) :
 Calls prog 38 #[.string s] w λe w'=>oL s w e w':=by
 have r0:=Zb.new w;have b0:ai w (w.alloc Yv):=ax _ _;by_cases h1:1024<s.size
 ·have HR:=aj (QY h1);have R0:=aj (And.intro r0 b0);have g1:decide ((1024:Int)<(s.size:Int))=true:=ajH (by omega);clear r0 b0;go_enter func38,ntmps38;go_wp2_with fail;refine ajY (kJ rfl rfl (ah R0).1.1) rfl ?_;exact oL.bad (ah HR) (ah R0).2 rfl
 ·have g1:decide ((1024:Int)<(s.size:Int))=false:=ajE (by omega);obtain⟨W,hW⟩:∃W,W=w.alloc Yv:=⟨_,rfl⟩;rw[<-hW] at r0 b0;have PP:=aj (Zl s W (by omega) (hG.next b0));have hWl:w.heap.size<W.heap.size:=r0.1.lt;have H0:=aj r0;have HB:=aj b0;clear r0 b0;go_enter func38,ntmps38;go_wp2_with fail;rw[<-hW];obtain⟨rb,hrb⟩:∃rb,rb=w.heap.size:=⟨_,rfl⟩;rw[<-hrb] at H0 ⊢;have hrw:w.heap.size<=rb:=by omega
  rw[<-hrb] at hWl;clear hW hrb;refine(ah PP).mono ?_;rintro e w1 ⟨r,t,a,c,rfl,sl1,b1,hr1,hr2,few,hc,hza⟩;have HNr:Hid (∀z,a=some z->z.block≠rb):=aj (λz hz e=>by
   have:=hza z hz;omega)
  have k2:ai w1 (w1.alloc (rY t a c)):=ax _ _;have p2:=TB.new w1 t a c;have bW2:ai W (w1.alloc (rY t a c)):=ak b1 k2;have sl2:=jO sl1 k2;obtain⟨W2,hW2⟩:∃W2,W2=w1.alloc (rY t a c):=⟨_,rfl⟩;obtain⟨b,hb⟩:∃b,b=w1.heap.size:=⟨_,rfl⟩;rw[<-hW2] at p2 bW2 sl2;rw[<-hb] at p2;have H2:Hid (Zb W2 rb/\ai w W2/\TB W2 b t a c/\Dk.kK W2 a t.bo):=aj ⟨(ah H0).next bW2,ak (ah HB) bW2,p2,sl2⟩;have HQ:=aj (And.intro hr1 hr2);clear PP H0 HB sl1 b1 k2 p2 bW2 sl2 hr1 hr2 hza
  cases r with
  | false =>
   have HR:=aj ((ah HQ).1 rfl);obtain⟨⟨_,y0,y1,y2,y3,y4,y5,y6,y7,y8,y9⟩,fz⟩:=(ah H2).1;rw[hW2] at y0 y1 y2 y3 y4 y5 y6 y7 y8 y9 fz;go_wp2_with fail;rw[<-hW2];refine ajY (kJ rfl rfl ((ah H2).1.1.puts Tk.dB none 0)) rfl ?_;exact oL.bad (ah HR) (dA hrw [_,_,_,_,_,_,_,_,_,_] W2 0 (ah H2).2.1) rfl
  | true =>
   have HR:=aj ((ah HQ).2 rfl).1;have hn:=((ah HQ).2 rfl).2;have PC:=aj (xP t a c W2 ⟨by omega,by omega,by omega⟩ (ah H2).2.2.2);obtain⟨E,hE⟩:∃E,Tk.iV t=E:=⟨_,rfl⟩;rw[hE] at PC HR;clear hE HQ;go_wp2_with fail;rw[<-hW2,<-hb];clear hW2 hb;refine(ah PC).mono ?_;rintro e w5 ⟨rfl,b5⟩;have H5:Hid (Zb w5 rb/\ai w w5/\TB w5 b t a c/\Dk.kK w5 a t.bo):=aj ⟨(ah H2).1.next b5,ak (ah H2).2.1 b5,(ah H2).2.2.1.next b5,jO (ah H2).2.2.2 b5⟩;obtain⟨⟨_,y0,y1,y2,y3,y4,y5,y6,y7,y8,y9⟩,fz⟩:=(ah H5).1;clear PC b5 H2;by_cases hE0:E=0
   ·subst hE0;rw[if_pos rfl] at HR;obtain⟨_,z0,z1,z2,z3,z4,z5,z6,z7,z8,z9⟩:=(ah H5).2.2.1;go_wp2_with fail;refine ajY (kJ rfl rfl ((ah H5).1.1.puts t a c)) rfl ?_;exact oL.good (ah HR) (dA hrw [_,_,_,_,_,_,_,_,_,_] _ 0 (ah H5).2.1) (Jq (ah HNr) [_,_,_,_,_,_,_,_,_,_] _ 0 (ah H5).2.2.2) hc rfl
   ·have gE:(E !=0)=true:=by simpa using hE0
    rw[if_neg hE0] at HR;go_wp2_with fail;refine ajY (kJ rfl rfl ((ah H5).1.1.puts Tk.dB none 0)) rfl ?_;exact oL.bad (ah HR) (dA hrw [_,_,_,_,_,_,_,_,_,_] _ 0 (ah H5).2.1) rfl
