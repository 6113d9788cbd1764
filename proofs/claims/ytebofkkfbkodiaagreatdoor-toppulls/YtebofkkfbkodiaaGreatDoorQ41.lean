/- A part. -/
import Derived.Test.YtebofkkfbkodiaaGreatDoorQ13
import Derived.Test.YtebofkkfbkodiaaGreatDoorQ37
set_option maxRecDepth 100000
set_option maxHeartbeats 8000000
namespace Go.Proofs.YtebofkkfbkodiaaGreatDoor
open Go.RowKit Go.Proofs.Tryz
variable {X n s:ad}{b c k l:Nat}{W w w' w5 wr:I}{a:Option Addr}{v:List Int}{A:af}{lf:List ad}{x0 x1 x2 x3 x4 x5 x6 x7:Int}{t:Value}
theorem acR (h:¬1024<s.size)(h2:¬(bG 32 s).length<2):Pn.cu s=match Pn.AV Pn.dR (((bG 32 s).drop 2).map (·.data.toList)) with
 | some v=>if Pn.aZ ⟨tk (bG 32 s) 0,bG 44 (tk (bG 32 s) 1),v⟩=0 then (⟨tk (bG 32 s) 0,bG 44 (tk (bG 32 s) 1),v⟩,0) else (Pn.iG,Pn.aZ ⟨tk (bG 32 s) 0,bG 44 (tk (bG 32 s) 1),v⟩)
 | none=>(Pn.iG,3):=by
 unfold Pn.cu;rw[if_neg h,<-iP 32 s];generalize bG 32 s=ws at h2 ⊢
 cases ws with
 | nil=>simp at h2
 | cons x xs =>
  cases xs with
  | nil=>simp at h2
  | cons y ys =>
   show(match Pn.AV Pn.dR (ys.map (·.data.toList)) with
    | some v=>if Pn.aZ ⟨Pn.bs x.data.toList,(Pn.cut 44 y.data.toList).map Pn.bs,v⟩=0 then ((⟨Pn.bs x.data.toList,(Pn.cut 44 y.data.toList).map Pn.bs,v⟩:Pn.aX),(0:Int)) else (Pn.iG,Pn.aZ ⟨Pn.bs x.data.toList,(Pn.cut 44 y.data.toList).map Pn.bs,v⟩)
    | none=>(Pn.iG,3))=_
   rw[Pn.zo];rfl
theorem QV (d:UInt8)(s:ad)(h:s.size<=1024):(bG d s).length<=1025:=by
 rw[pX];have h1:=List.count_le_length (a:=d) (l:=s.data.toList);have e:s.data.toList.length=s.size:=by simp
 omega
theorem JU (d:UInt8)(s:ad)(hk:k<(bG d s).length):(tk (bG d s) k).size<=s.size:=Bd (iP d s) hk
structure Fl (w5 wr:I)(b:Nat)(X:ad)(lf:List ad)(k:Nat)(a:Option Addr)(c:Nat):Prop where
 st:Nc wr b X a k c [0,0,0,0,0,0,0,0]
 row:jK wr w5.heap.size (.slice a k c) (lf.take k)
 aF:Dk.aA (λq=>q=b) w5 wr
 blt:b<w5.heap.size
theorem Nc.fil (h:Nc wr b n a l c v)(a':Option Addr)(l' c':Nat):Nc (wr.setCell (aq b 1) (.slice a' l' c')) b n a' l' c' v where
 lt:=by simpa[World.setCell] using h.lt
 c0:=by rw[ajD _ _ _ _ (by intro e;injection e;omega)];exact h.c0
 c1:=akf _ _ _ h.c1
 num:=λj hj=>by rw[ajD _ _ _ _ (by intro e;injection e;omega)];exact h.num j hj
 fr:=λj=>by rw[ajV];exact h.fr j
theorem Nc.aF (h:Nc wr b n a l c v)(hb:Dk.aA A wr w')(hn:¬A b):Nc w' b n a l c v where
 lt:=ajz h.lt hb.size
 c0:=by rw[hb.cell (p:=aq b 0) h.lt hn];exact h.c0
 c1:=by rw[hb.cell (p:=aq b 1) h.lt hn];exact h.c1
 num:=λi hi=>by rw[hb.cell (p:=aq b (2+i)) h.lt hn];exact h.num i hi
 fr:=λj=>by rw[hb.frozen (p:=aq b j) h.lt hn];exact h.fr j
theorem afp {l:List ad}(h:k<l.length):l.take (k+1)=l.take k++[tk l k]:=by
 rw[akc h,Pn.Wv h]
theorem Fl.more {w3:I}(h:Fl w5 wr b X lf k a c)(hk:k<lf.length)(hl:lf.length<=100000)(hb:ai wr w3) :
 ∃a' c' w8,(Builtin.append_ #[22,22] 22 #[.slice a k c,.slice (some ⟨w3.heap.size,0,none⟩) 1 1]).run prog (w3.alloc (.cells #[.string (tk lf k)] 9))=.ok (.slice a' (k+1) c') w8/\w8.cell? (aq b 1)=some (.slice a k c)/\w8.frozen? (aq b 1)=false/\Fl w5 (w8.setCell (aq b 1) (.slice a' (k+1) c')) b X lf (k+1) a' c':=by
 have T3:=h.row.below hb;have hB:w5.heap.size<=w3.heap.size:=ajA h.aF.size hb.size;have hlen:(lf.take k).length=k:=by rw[ajL];omega
 obtain⟨v8,w8,hrun,T8,B8⟩:=OZ T3 (agP _ _) (tk lf k) (by omega) hB;obtain⟨a',c',rfl,hc',_⟩:=T8.shape;have hl8:(lf.take k++[tk lf k]).length=k+1:=by rw[ajB,hlen];rfl
 rw[hl8] at hrun T8;have st3:=h.st.next hb;have C8:Dk.aA (λq=>w5.heap.size<=q) w3 w8:=⟨B8.os,B8.tape,B8.output,B8.size,λq _ hn=>B8.block q (by omega)⟩;have st8:=st3.aF C8 (by have:=h.blt;omega);have C5:Dk.aA (λq=>q=b) w5 w8:=by
  refine⟨?_,?_,?_,?_,λq hq hn=>?_⟩
  ·rw[B8.os,hb.os,h.aF.os]
  ·rw[B8.tape,hb.tape,h.aF.tape]
  ·rw[B8.output,hb.output,h.aF.output]
  ·exact ajA hB B8.size
  ·rw[B8.block q hq,hb.block q (ajz hq h.aF.size),h.aF.block q hq hn]
 refine⟨a',c',w8,hrun,st8.c1,st8.fr 1,st8.fil a' (k+1) c',?_,C5.setCell (p:=aq b 1) (.inl rfl) _,h.blt⟩;rw[afp hk];exact T8.aF (A:=λq=>q=b) ((Dk.aA.refl (λq=>q=b) w8).setCell (p:=aq b 1) (.inl rfl) _) (λg hg e=>by have:=h.blt;omega)
theorem gU.aF {l:List ad}(h:gU w a l)(hc:Dk.aA A w w')(hn:∀z,a=some z->¬A z.block):gU w' a l:=λk hk=>by
 obtain⟨b,o,e,h1,h2⟩:=h k hk;exact⟨b,o,e,ajz h1 hc.size,by rw[hc.cell (p:=aq b (o+k)) h1 (show ¬A b from hn ⟨b,o,none⟩ e)];exact h2⟩
theorem fK.aF (h:fK w)(hc:Dk.aA A w w')(hn:¬A 0):fK w':=⟨ajz h.1 hc.size,λi hi=>⟨by rw[hc.cell (p:=aq 0 (i*2)) h.1 hn];exact(h.2 i hi).1,by rw[hc.cell (p:=aq 0 (i*2+1)) h.1 hn];exact(h.2 i hi).2⟩⟩
theorem PB.aF (h:PB w b n a l c x0 x1 x2 x3 x4 x5 x6 x7)(hc:Dk.aA A w w')(hn:¬A b):PB w' b n a l c x0 x1 x2 x3 x4 x5 x6 x7 :=
 ⟨ajz h.lt hc.size,by rw[hc.cell (p:=aq b 0) h.lt hn];exact h.c0,by rw[hc.cell (p:=aq b 1) h.lt hn];exact h.c1,by rw[hc.cell (p:=aq b 2) h.lt hn];exact h.c2,by rw[hc.cell (p:=aq b 3) h.lt hn];exact h.c3,by rw[hc.cell (p:=aq b 4) h.lt hn];exact h.c4,by rw[hc.cell (p:=aq b 5) h.lt hn];exact h.c5,by rw[hc.cell (p:=aq b 6) h.lt hn];exact h.c6,by rw[hc.cell (p:=aq b 7) h.lt hn];exact h.c7,by rw[hc.cell (p:=aq b 8) h.lt hn];exact h.c8,by rw[hc.cell (p:=aq b 9) h.lt hn];exact h.c9⟩
theorem Nc.pb (h:Nc w b n a l c [x0,x1,x2,x3,x4,x5,x6,x7]):PB w b n a l c x0 x1 x2 x3 x4 x5 x6 x7:=⟨h.lt,h.c0,h.c1,h.num 0 (by omega),h.num 1 (by omega),h.num 2 (by omega),h.num 3 (by omega),h.num 4 (by omega),h.num 5 (by omega),h.num 6 (by omega),h.num 7 (by omega)⟩
theorem Fl.fin (h:Fl w5 wr b X lf lf.length a c):lf.length<=c/\gU wr a lf/\∀z,a=some z->w5.heap.size<=z.block:=by
 have r:=h.row;rw[akT] at r;obtain⟨a',c',e,hc,hs⟩:=r.shape;obtain⟨rfl,_,rfl⟩:=akE e;refine⟨hc,hs,λz hz=>?_⟩;subst hz;exact(aks r z.block rfl).1
theorem gU.two {g:Nat}{ws:List ad}(h:gU w (some ⟨g,0,none⟩) ws):gU w (if ws.length=2 then some ⟨g,0,none⟩ else some ⟨g,2,none⟩) (ws.drop 2):=λk hk=>by
 rw[ajI] at hk;rw[if_neg (by omega)];obtain⟨b,o,e,h1,h2⟩:=h (k+2) (by omega)
 cases e
 refine⟨g,2,rfl,h1,?_⟩;rw[show 2+k=0+(k+2) by omega,h2];unfold tk;rw[akG,Nat.add_comm 2 k]
def D6 (s:ad)(w:I)(e:Ending)(w':I):Prop:=∃(r:Bool) (n:ad) (a:Option Addr) (l:List ad) (c:Nat) (x0 x1 x2 x3 x4 x5 x6 x7:Int),e=.returned (.tuple #[BQ n a l.length c x0 x1 x2 x3 x4 x5 x6 x7,.bool r])/\gU w' a l/\l.length<=c/\ai w w'/\(r=false->Pn.cu s=(Pn.iG,3))/\(r=true->Pn.cu s=if Pn.aZ ⟨n,l,[x0,x1,x2,x3,x4,x5,x6,x7]⟩=0 then (⟨n,l,[x0,x1,x2,x3,x4,x5,x6,x7]⟩,0) else (Pn.iG,Pn.aZ ⟨n,l,[x0,x1,x2,x3,x4,x5,x6,x7]⟩))/\n.size<=1024/\(∀k,k<l.length->(tk l k).size<=1024)/\l.length<=1025/\∀z,a=some z->w.heap.size<=z.block
theorem D6.short (h:Pn.cu s=(Pn.iG,3))(hb:ai w W)(ht:t=.bool false):D6 s w (.returned (.tuple #[BQ ⟨#[]⟩ none 0 0 0 0 0 0 0 0 0 0,t])) W:=by
 subst ht;exact⟨false,⟨#[]⟩,none,[],0,0,0,0,0,0,0,0,0,rfl,λk hk=>by simp at hk,agH _,hb,λ_=>h,λq=>by simp at q,by decide,λk hk=>by simp at hk,by simp,λz hz=>by cases hz⟩
theorem acS (s:ad)(w:I)(hs:s.size<=1024)(hG:fK w) :
 Calls prog 86 #[.string s] w λe w'=>D6 s w e w':=by
 have r0:=PB.new w ⟨#[]⟩ none 0 0 0 0 0 0 0 0 0 0 80;have b0:ai w (w.alloc (.cells #[.string ⟨#[]⟩,.slice none 0 0,aa 0,aa 0,aa 0,aa 0,aa 0,aa 0,aa 0,aa 0] 80)):=ax _ _;have rf0:∀j,(w.alloc (.cells #[.string ⟨#[]⟩,.slice none 0 0,aa 0,aa 0,aa 0,aa 0,aa 0,aa 0,aa 0,aa 0] 80)).frozen? (aq w.heap.size j)=false:=λj=>akp _ _ _ j
 obtain⟨W,hW⟩:∃W,W=w.alloc (.cells #[.string ⟨#[]⟩,.slice none 0 0,aa 0,aa 0,aa 0,aa 0,aa 0,aa 0,aa 0,aa 0] 80):=⟨_,rfl⟩;rw[<-hW] at r0 b0 rf0;have hf:=QV 32 s hs;have PP:=aj (rJ 32 s W (by omega) (by omega));have HS2:Hid ((bG 32 s).length<2->Pn.cu s=(Pn.iG,3)):=aj (read_short (ws:=bG 32 s) (by omega) (iP 32 s));have HS3:Hid (¬(bG 32 s).length<2->_):=aj (λh=>acR (s:=s) (by omega) h);have Zj:Hid (∀k,k<(bG 32 s).length->(tk (bG 32 s) k).size<=1024):=aj (λk hk=>ajA (JU 32 s hk) hs)
 obtain⟨ws,hws⟩:∃ws,bG 32 s=ws:=⟨_,rfl⟩;rw[hws] at PP HS2 HS3 Zj hf;have hWl:w.heap.size<W.heap.size:=r0.lt;have H0:=aj (And.intro r0 rf0);have HB:=aj (And.intro b0 (hG.next b0));clear hws r0 rf0 b0;go_enter func86,ntmps86;go_wp2_with fail;rw[<-hW];obtain⟨rb,hrb⟩:∃rb,rb=w.heap.size:=⟨_,rfl⟩;rw[<-hrb] at H0 ⊢;have hrw:w.heap.size<=rb:=by omega
 rw[<-hrb] at hWl;clear hW hrb;refine(ah PP).mono ?_;rintro e w1 ⟨g,rfl,o1,b1⟩;have H1:Hid (PB w1 rb ⟨#[]⟩ none 0 0 0 0 0 0 0 0 0 0/\(∀j,w1.frozen? (aq rb j)=false)/\ai w w1/\fK w1/\gU w1 (some ⟨g,0,none⟩) ws):=aj ⟨(ah H0).1.next b1,λj=>by rw[b1.frozen (p:=aq rb j) hWl];exact(ah H0).2 j,ak (ah HB).1 b1,(ah HB).2.next b1,zG o1⟩;have hg1:=(own_base o1).2;have hgr:rb≠g:=by have:=(own_base o1).1;omega
 clear PP o1 b1 H0 HB;by_cases h2:ws.length<2
 ·have g2:decide ((ws.length:Int)<2)=true:=ajH (by omega);have HR:=aj (ah HS2 h2);obtain⟨_,y0,y1,y2,y3,y4,y5,y6,y7,y8,y9⟩:=(ah H1).1;have fz:=(ah H1).2.1;clear HS2 HS3 Zj;go_wp2_with fail;refine ajY (iO rfl rfl ((ah H1).1.puts _ _ _ _ _ _ _ _ _ _ _ _)) rfl ?_;exact D6.short (ah HR) (dA hrw [_,_,_,_,_,_,_,_,_,_] w1 0 (ah H1).2.2.1) rfl
 ·have g2:decide ((ws.length:Int)<2)=false:=ajE (by omega);have HR:=aj (ah HS3 h2);obtain⟨_,_,e0,_,c0⟩:=(ah H1).2.2.2.2 0 (by omega)
  cases e0
  rw[ajT] at c0;have hXz:=ah Zj 0 (by omega);have hYz:=ah Zj 1 (by omega);obtain⟨X,hX⟩:∃X,tk ws 0=X:=⟨_,rfl⟩;obtain⟨Y,hY⟩:∃Y,tk ws 1=Y:=⟨_,rfl⟩;rw[hX] at c0 hXz HR;rw[hY] at hYz HR;have PC:=aj (clone_any X w1 (by omega));have HX:=aj hX;have HY:=aj hY;have hl2:¬ws.length<2:=h2;have hj0:(0:Int)<(ws.length:Int):=by omega
  have hj1:(1:Int)<(ws.length:Int):=by omega
  clear hX hY HS2 HS3;go_wp2_with fail;refine(ah PC).mono ?_;rintro e w2 ⟨rfl,b2⟩;have k3:ai w2 (w2.alloc (.cells #[.string X,.slice none 0 0,aa 0,aa 0,aa 0,aa 0,aa 0,aa 0,aa 0,aa 0] 80)):=ax _ _;have p3:=PB.new w2 X none 0 0 0 0 0 0 0 0 0 0 80;have f3:∀j,(w2.alloc (.cells #[.string X,.slice none 0 0,aa 0,aa 0,aa 0,aa 0,aa 0,aa 0,aa 0,aa 0] 80)).frozen? (aq w2.heap.size j)=false:=λj=>akp _ _ _ j
  obtain⟨W3,hW3⟩:∃W3,W3=w2.alloc (.cells #[.string X,.slice none 0 0,aa 0,aa 0,aa 0,aa 0,aa 0,aa 0,aa 0,aa 0] 80):=⟨_,rfl⟩;obtain⟨b,hb⟩:∃b,b=w2.heap.size:=⟨_,rfl⟩;rw[<-hW3] at k3 p3 f3;rw[<-hb] at p3 f3;have b13:ai w1 W3:=ak b2 k3;have H3:Hid (PB W3 rb ⟨#[]⟩ none 0 0 0 0 0 0 0 0 0 0/\(∀j,W3.frozen? (aq rb j)=false)/\ai w W3/\fK W3/\gU W3 (some ⟨g,0,none⟩) ws):=aj ⟨(ah H1).1.next b13,λj=>by rw[b13.frozen (p:=aq rb j) (ah H1).1.lt];exact(ah H1).2.1 j,ak (ah H1).2.2.1 b13,(ah H1).2.2.2.1.next b13,(ah H1).2.2.2.2.next b13⟩
  have ajt:w1.heap.size<=b:=by rw[hb];exact b2.size
  have aiC:rb<w1.heap.size:=(ah H1).1.lt;have hGw:0<w1.heap.size:=(ah H1).2.2.2.1.1;have HP3:=aj (And.intro p3 f3);have YG:=QV 44 Y hYz;have P4:=aj (rJ 44 Y W3 (by omega) (by omega));have HLz:Hid (∀k,k<(bG 44 Y).length->(tk (bG 44 Y) k).size<=1024):=aj (λk hk=>ajA (JU 44 Y hk) hYz);obtain⟨_,_,e0,_,c1⟩:=(ah H3).2.2.2.2 1 (by omega)
  cases e0
  rw[ajT,ah HY] at c1;obtain⟨lf,hlf⟩:∃lf,bG 44 Y=lf:=⟨_,rfl⟩;rw[hlf] at P4 HLz HR YG;rw[hW3] at c1;clear hlf PC c0 b2 k3 p3 f3 H1 b13;go_wp2_with fail;rw[<-hW3,<-hb];clear hW3 hb c1;refine(ah P4).mono ?_;rintro e w4 ⟨gf,rfl,o4,b4⟩;have hgf:=own_base o4;have hb3:b<W3.heap.size:=(ah HP3).1.lt;have hgW:g<W3.heap.size:=by
   obtain⟨_,_,e0,h,_⟩:=(ah H3).2.2.2.2 0 (by omega)
   cases e0
   exact h
  have H4:Hid (PB w4 rb ⟨#[]⟩ none 0 0 0 0 0 0 0 0 0 0/\(∀j,w4.frozen? (aq rb j)=false)/\ai w w4/\fK w4/\gU w4 (some ⟨g,0,none⟩) ws/\gU w4 (some ⟨gf,0,none⟩) lf):=aj ⟨(ah H3).1.next b4,λj=>by rw[b4.frozen (p:=aq rb j) (ah H3).1.lt];exact(ah H3).2.1 j,ak (ah H3).2.2.1 b4,(ah H3).2.2.2.1.next b4,(ah H3).2.2.2.2.next b4,zG o4⟩;have F4:Hid (Fl w4 w4 b X lf 0 none 0):=aj ⟨Nc.next ⟨(ah HP3).1.lt,(ah HP3).1.c0,(ah HP3).1.c1,(ah HP3).1.num,(ah HP3).2⟩ b4,by rw[List.take_zero];exact jK.nil _ _,Dk.aA.refl _ _,ajz hb3 b4.size⟩
  have aiD:gf≠b:=by omega
  have hgb:g≠b:=by omega
  have aiE:gf<w4.heap.size:=hgf.2;have aju:g<w4.heap.size:=ajz hgW b4.size;have ahL:rb<w4.heap.size:=(ah H4).1.lt;have afq:rb≠b:=by omega
  have hGb:0≠b:=by omega
  have aiF:lf.length<=100000:=by omega
  clear o4 b4 HP3 H3 P4 hgf HY hYz hgW;go_wp2_with fail;go_loopw [25] (λiv wr=>∃(k:Nat) (a:Option Addr) (c:Nat),iv=aa k/\k<=lf.length/\Hid (Fl w4 wr b X lf k a c)) (λiv _=>lf.length-(intOf iv).toNat)
  case atStart=>exact⟨0,none,0,rfl,ajO _,F4⟩
  case round =>
   clear F4;obtain⟨k,a,c,rfl,hk,F5⟩:=hrel;by_cases hlt:k<lf.length
   ·have e1:wr.cell? (aq gf k)=some (.string (tk lf k)):=by
     obtain⟨_,_,e0,_,e1⟩:=(ah H4).2.2.2.2.2 k hlt
     cases e0
     rw[ajT] at e1;rw[(ah F5).aF.cell (p:=aq gf k) aiE aiD];exact e1
    have c1:=(ah F5).st.c1;have hbl:=(ah F5).st.lt;have PC:=aj (λ(W:I)=>clone_any (tk lf k) W (by have:=ah HLz k hlt;omega));have PA:=aj (λ(W:I) (h:ai wr W)=>(ah F5).more hlt aiF h);obtain⟨t,ht⟩:∃t,tk lf k=t:=⟨_,rfl⟩;rw[ht] at e1 PC PA;clear ht;go_wp2_with fail;go_region_law (first
     | (refine nK rfl _ _ 22 22 rfl (.slice a k c) _ (by first|(simp[Act.eval];done)|(simp[Act.eval,Act.put];done)) (by first|(simp[Act.eval];done)|(simp[Act.eval,Act.put];done)) hrun ?_)
     | (go_simp;go_at_call 108;refine(ah PC _).mono ?_;rintro e w6 ⟨rfl,b6⟩;have d2:=(b6.cell (p:=aq b 1) hbl).trans c1;have hp6:=ajz hbl b6.size;obtain⟨a',c',w8,hrun,e8,f8,F8⟩:=ah PA w6 (((agP wr.heap.size wr).drew).trans b6);dsimp only))
    all_goals
     have F9:=aj F8
     clear F8 e8 f8 hrun d2 hp6 b6 PC PA e1 c1 hbl F5
     go_wp2_with fail
     refine⟨⟨k+1,a',c',by go_num,by omega,F9⟩,?_⟩
     simp[intOf];omega
   ·obtain rfl:k=lf.length:=by omega
    obtain⟨hcc,hsl,hbk⟩:=(ah F5).fin;have ch:=(ah F5).aF;have hb4:=(ah F5).blt;have hrow:gU wr (some ⟨g,0,none⟩) ws:=(ah H4).2.2.2.2.1.aF ch (λz hz=>by cases hz;exact hgb);have hNm:Nm wr wr b X a lf.length c (if ws.length=2 then some ⟨g,0,none⟩ else some ⟨g,2,none⟩) (ws.drop 2) [0,0,0,0,0,0,0,0]:=⟨(ah F5).st,hrow.two,(ah H4).2.2.2.1.aF ch hGb,Dk.aA.refl _ _,λz hz=>by
     split at hz
     ·cases hz;exact hgb
     ·cases hz;exact hgb,hGb⟩
    have PR:=aj (Dn (if ws.length=2 then some ⟨g,0,none⟩ else some ⟨g,2,none⟩) (ws.drop 2) (ws.length-2) b X a lf.length c wr hNm (by rw[ajI];omega) (by rw[ajI];omega) (λk hk=>by
     rw[ajI] at hk;have:=ah Zj (k+2) (by omega);unfold tk at this ⊢;rw[akG,Nat.add_comm 2 k];exact this))
    rw[ajI] at PR;have HF:Hid (gU wr a lf/\(∀z,a=some z->w4.heap.size<=z.block)/\Dk.aA (λq=>q=b) w4 wr):=aj ⟨hsl,hbk,ch⟩;clear F5 hsl hbk hrow hNm ch;by_cases h22:ws.length=2;all_goals
     first
      | (rw[if_pos h22,show ws.length-2=0 by omega] at PR)
      | (rw[if_neg h22] at PR)
     go_wp2_with fail
     refine(ah PR).mono ?_
     rintro e w9 ⟨r,v,rfl,hr1,hr2,h8,st9,ch9⟩
     obtain⟨x0,x1,x2,x3,x4,x5,x6,x7,rfl⟩:=eight h8
     have hnb:∀z,a=some z->z.block≠b:=λz hz e=>by
      have:=(ah HF).2.1 z hz;omega
     have hnr:∀z,a=some z->z.block≠rb:=λz hz e=>by
      have:=(ah HF).2.1 z hz;omega
     have sl9:=(ah HF).1.aF ch9 hnb
     have r9:=((ah H4).1.aF (ah HF).2.2 afq).aF ch9 afq
     have c9:ai w w9:=(ah H4).2.2.1.trans (((ah HF).2.2.below (B:=w.heap.size) (by omega) (λq hq e=>by omega)).trans (ch9.below (by have:=(ah HF).2.2.size;omega) (λq hq e=>by omega)))
     have fz:∀j,w9.frozen? (aq rb j)=false:=λj=>by
      rw[ch9.frozen (p:=aq rb j) (ajz ahL (ah HF).2.2.size) afq,(ah HF).2.2.frozen (p:=aq rb j) ahL afq];exact(ah H4).2.1 j
     have pb9:=st9.pb
     have HQ:Hid ((r=false->Pn.cu s=(Pn.iG,3))/\(r=true->Pn.cu s=if Pn.aZ ⟨X,lf,[x0,x1,x2,x3,x4,x5,x6,x7]⟩=0 then (⟨X,lf,[x0,x1,x2,x3,x4,x5,x6,x7]⟩,0) else (Pn.iG,Pn.aZ ⟨X,lf,[x0,x1,x2,x3,x4,x5,x6,x7]⟩))):=aj ⟨λh=>by rw[ah HR,hr2 h],λh=>by rw[ah HR,hr1 h]⟩
     have H9:=aj (And.intro r9 (And.intro c9 sl9))
     obtain⟨_,y0,y1,y2,y3,y4,y5,y6,y7,y8,y9⟩:=r9
     obtain⟨_,z0,z1,z2,z3,z4,z5,z6,z7,z8,z9⟩:=pb9
     have HN:=aj hnr
     have HNw:Hid (∀z,a=some z->w.heap.size<=z.block):=aj (λz hz=>ajA (ah H4).2.2.1.size ((ah HF).2.1 z hz))
     clear PR HF H4 HR hr1 hr2 st9 ch9 sl9 c9 h8 hnb hnr HX
     go_wp2_with fail
     refine ajY (iO rfl rfl ((ah H9).1.puts _ _ _ _ _ _ _ _ _ _ _ _)) rfl ?_
     exact⟨r,X,a,lf,c,x0,x1,x2,x3,x4,x5,x6,x7,rfl,gU.puts (ah HN) [_,_,_,_,_,_,_,_,_,_] _ 0 (ah H9).2.2,hcc,dA hrw [_,_,_,_,_,_,_,_,_,_] _ 0 (ah H9).2.1,(ah HQ).1,(ah HQ).2,hXz,ah HLz,YG,ah HNw⟩
def lg (s:ad)(w:I)(e:Ending)(w':I):Prop:=∃a c,e=.returned (.tuple #[Ba (Pn.cu s).1 a c,aa (Pn.cu s).2])/\gU w' a (Pn.cu s).1.f/\ai w w'/\(Pn.cu s).1.f.length<=c
theorem lg.bad {E:Int}(h:Pn.cu s=(Pn.iG,E))(hb:ai w W)(ht:t=aa E):lg s w (.returned (.tuple #[BQ ⟨#[]⟩ none 0 0 0 0 0 0 0 0 0 0,t])) W:=by
 unfold lg;rw[h,ht];exact⟨none,0,rfl,λk hk=>by simp[Pn.iG] at hk,hb,by simp[Pn.iG]⟩
theorem lg.good {l:List ad}(h:Pn.cu s=(⟨n,l,[x0,x1,x2,x3,x4,x5,x6,x7]⟩,0))(hb:ai w W)(hs:gU W a l)(hc:l.length<=c)(ht:t=aa 0):lg s w (.returned (.tuple #[BQ n a l.length c x0 x1 x2 x3 x4 x5 x6 x7,t])) W:=by
 unfold lg;rw[h,ht];exact⟨a,c,rfl,hs,hb,hc⟩
theorem parse_any (s:ad)(w:I)(hs:s.size<=140737488355328)(hG:fK w) :
 Calls prog 46 #[.string s] w λe w'=>lg s w e w':=by
 have r0:=PB.new w ⟨#[]⟩ none 0 0 0 0 0 0 0 0 0 0 80;have b0:ai w (w.alloc (.cells #[.string ⟨#[]⟩,.slice none 0 0,aa 0,aa 0,aa 0,aa 0,aa 0,aa 0,aa 0,aa 0] 80)):=ax _ _;by_cases h1:1024<s.size
 ·have HR:=aj (TQ h1);have R0:=aj (And.intro r0 b0);have g1:decide ((1024:Int)<(s.size:Int))=true:=ajH (by omega);clear r0 b0;go_enter func46,ntmps46;go_wp2_with fail;refine ajY (iO rfl rfl (ah R0).1) rfl ?_;exact lg.bad (ah HR) (ah R0).2 rfl
 ·have g1:decide ((1024:Int)<(s.size:Int))=false:=ajE (by omega);have rf0:∀j,(w.alloc (.cells #[.string ⟨#[]⟩,.slice none 0 0,aa 0,aa 0,aa 0,aa 0,aa 0,aa 0,aa 0,aa 0] 80)).frozen? (aq w.heap.size j)=false:=λj=>akp _ _ _ j
  obtain⟨W,hW⟩:∃W,W=w.alloc (.cells #[.string ⟨#[]⟩,.slice none 0 0,aa 0,aa 0,aa 0,aa 0,aa 0,aa 0,aa 0,aa 0] 80):=⟨_,rfl⟩;rw[<-hW] at r0 b0 rf0;have PP:=aj (acS s W (by omega) (hG.next b0));have hWl:w.heap.size<W.heap.size:=r0.lt;have H0:=aj (And.intro r0 rf0);have HB:=aj (And.intro b0 (hG.next b0));clear r0 rf0 b0;go_enter func46,ntmps46;go_wp2_with fail;rw[<-hW];obtain⟨rb,hrb⟩:∃rb,rb=w.heap.size:=⟨_,rfl⟩;rw[<-hrb] at H0 ⊢;have hrw:w.heap.size<=rb:=by omega
  rw[<-hrb] at hWl;clear hW hrb;refine(ah PP).mono ?_;rintro e w1 ⟨r,n,a,l,c,x0,x1,x2,x3,x4,x5,x6,x7,rfl,sl1,hc,b1,hr1,hr2,hnz,hlz,hll,hza⟩;have HNr:Hid (∀z,a=some z->z.block≠rb):=aj (λz hz e=>by
   have:=hza z hz;omega)
  have k2:ai w1 (w1.alloc (.cells #[.string n,.slice a l.length c,aa x0,aa x1,aa x2,aa x3,aa x4,aa x5,aa x6,aa x7] 80)):=ax _ _;have p2:=PB.new w1 n a l.length c x0 x1 x2 x3 x4 x5 x6 x7 80;have bW2:ai W (w1.alloc (.cells #[.string n,.slice a l.length c,aa x0,aa x1,aa x2,aa x3,aa x4,aa x5,aa x6,aa x7] 80)):=ak b1 k2;have sl2:=sl1.next k2;obtain⟨W2,hW2⟩:∃W2,W2=w1.alloc (.cells #[.string n,.slice a l.length c,aa x0,aa x1,aa x2,aa x3,aa x4,aa x5,aa x6,aa x7] 80):=⟨_,rfl⟩
  obtain⟨b,hb⟩:∃b,b=w1.heap.size:=⟨_,rfl⟩;rw[<-hW2] at p2 bW2 sl2;rw[<-hb] at p2;have H2:Hid (PB W2 rb ⟨#[]⟩ none 0 0 0 0 0 0 0 0 0 0/\(∀j,W2.frozen? (aq rb j)=false)/\ai w W2/\fK W2/\PB W2 b n a l.length c x0 x1 x2 x3 x4 x5 x6 x7/\gU W2 a l):=aj ⟨(ah H0).1.next bW2,λj=>by rw[bW2.frozen (p:=aq rb j) hWl];exact(ah H0).2 j,ak (ah HB).1 bW2,(ah HB).2.next bW2,p2,sl2⟩;have HQ:=aj (And.intro hr1 hr2);have HLz:=aj hlz;clear PP H0 HB sl1 b1 k2 p2 bW2 sl2 hr1 hr2 hlz hza
  cases r with
  | false =>
   have HR:=aj ((ah HQ).1 rfl);obtain⟨_,y0,y1,y2,y3,y4,y5,y6,y7,y8,y9⟩:=(ah H2).1;have fz:=(ah H2).2.1;rw[hW2] at y0 y1 y2 y3 y4 y5 y6 y7 y8 y9 fz;go_wp2_with fail;rw[<-hW2];refine ajY (iO rfl rfl ((ah H2).1.puts _ _ _ _ _ _ _ _ _ _ _ _)) rfl ?_;exact lg.bad (ah HR) (dA hrw [_,_,_,_,_,_,_,_,_,_] W2 0 (ah H2).2.2.1) rfl
  | true =>
   have HR:=aj ((ah HQ).2 rfl);have PC:=aj (CG n a l c x0 x1 x2 x3 x4 x5 x6 x7 W2 (by omega) (ah H2).2.2.2.2.2 (λk hk=>by have:=ah HLz k hk;omega) (by omega) hc (ah H2).2.2.2.1);obtain⟨E,hE⟩:∃E,Pn.aZ ⟨n,l,[x0,x1,x2,x3,x4,x5,x6,x7]⟩=E:=⟨_,rfl⟩;rw[hE] at PC HR;clear hE HQ;go_wp2_with fail;rw[<-hW2,<-hb];clear hW2 hb;refine(ah PC).mono ?_;rintro e w5 ⟨rfl,b5⟩;have H5:Hid (PB w5 rb ⟨#[]⟩ none 0 0 0 0 0 0 0 0 0 0/\(∀j,w5.frozen? (aq rb j)=false)/\ai w w5/\PB w5 b n a l.length c x0 x1 x2 x3 x4 x5 x6 x7/\gU w5 a l):=aj ⟨(ah H2).1.next b5,λj=>by rw[b5.frozen (p:=aq rb j) (ah H2).1.lt];exact(ah H2).2.1 j,ak (ah H2).2.2.1 b5,(ah H2).2.2.2.2.1.next b5,(ah H2).2.2.2.2.2.next b5⟩
   obtain⟨_,y0,y1,y2,y3,y4,y5,y6,y7,y8,y9⟩:=(ah H5).1;have fz:=(ah H5).2.1;clear PC b5 H2;by_cases hE0:E=0
   ·subst hE0;rw[if_pos rfl] at HR;obtain⟨_,z0,z1,z2,z3,z4,z5,z6,z7,z8,z9⟩:=(ah H5).2.2.2.1;go_wp2_with fail;refine ajY (iO rfl rfl ((ah H5).1.puts _ _ _ _ _ _ _ _ _ _ _ _)) rfl ?_;exact lg.good (ah HR) (dA hrw [_,_,_,_,_,_,_,_,_,_] _ 0 (ah H5).2.2.1) (gU.puts (ah HNr) [_,_,_,_,_,_,_,_,_,_] _ 0 (ah H5).2.2.2.2) hc rfl
   ·have gE:(E !=0)=true:=by simpa using hE0
    rw[if_neg hE0] at HR;go_wp2_with fail;refine ajY (iO rfl rfl ((ah H5).1.puts _ _ _ _ _ _ _ _ _ _ _ _)) rfl ?_;exact lg.bad (ah HR) (dA hrw [_,_,_,_,_,_,_,_,_,_] _ 0 (ah H5).2.2.1) rfl
theorem agC {G:I->Prop}(hG:∀{w:I},G w->fK w):oH G where
 parse:=λs w hs hg=>parse_any s w hs (hG hg)
