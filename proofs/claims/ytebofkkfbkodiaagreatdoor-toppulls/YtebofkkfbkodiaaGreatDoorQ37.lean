/- A part. -/
import Derived.Test.YtebofkkfbkodiaaGreatDoorQ5
import Derived.Test.YtebofkkfbkodiaaGreatDoorQ22
import Derived.Test.YtebofkkfbkodiaaGreatDoorQ32
set_option maxRecDepth 100000
set_option maxHeartbeats 8000000
namespace Go.Proofs.YtebofkkfbkodiaaGreatDoor
open Go.RowKit Go.Proofs.Tryz
variable {b c g i l o:Nat}{n t:ad}{ts:List ad}{w wr:I}{a:Option Addr}{v:List Int}
theorem wU (t p:ad)(w:I)(h:p.data.toList.isPrefixOf t.data.toList=true) :
 Calls prog 157 #[.string t,.string p] w λe w'=>e=.returned (.tuple #[.string (Pn.bs (t.data.toList.drop p.size)),.bool true])/\w'=w:=by
 have e1:Lib.hasPrefix t.data.toList p.data.toList=true:=h;have e2:Lib.trimPrefix t.data.toList p.data.toList=t.data.toList.drop p.size:=by
  unfold Lib.trimPrefix;rw[e1,if_pos rfl];congr 1
 have:=Tryz.strings_CutPrefix t p w;rw[e1,e2] at this;exact this
theorem uN (t p:ad)(w:I)(h:¬p.data.toList.isPrefixOf t.data.toList=true) :
 Calls prog 157 #[.string t,.string p] w λe w'=>e=.returned (.tuple #[.string t,.bool false])/\w'=w:=by
 have e1:Lib.hasPrefix t.data.toList p.data.toList=false:=by
  unfold Lib.hasPrefix;simpa using h
 have e2:Lib.trimPrefix t.data.toList p.data.toList=t.data.toList:=by
  unfold Lib.trimPrefix;rw[e1];rfl
 have:=Tryz.strings_CutPrefix t p w;rw[e1,e2] at this;exact this
theorem xX (h:i<7):Tk.seven.drop i=i::Tk.seven.drop (i+1):=by
 have:i=0\/i=1\/i=2\/i=3\/i=4\/i=5\/i=6:=by omega
 rcases this with rfl|rfl|rfl|rfl|rfl|rfl|rfl<;>rfl
theorem WT (t:Tk.bJ):Tk.zK (Tk.seven.drop i) [] t=some t:=by
 cases Tk.seven.drop i<;>rfl
theorem acA (h:i<7)(u:List UInt8)(us:List (List UInt8))(t:Tk.bJ)(hp:¬(Tk.hd i).isPrefixOf u=true):Tk.zK (Tk.seven.drop i) (u::us) t=Tk.zK (Tk.seven.drop (i+1)) (u::us) t:=by
 rw[xX h,Tk.zK,if_neg hp]
theorem afd (h:i<7)(u:List UInt8)(us:List (List UInt8))(t:Tk.bJ)(hp:(Tk.hd i).isPrefixOf u=true){t':Tk.bJ}(hs:Tk.jY t i (u.drop (Tk.hd i).length)=some t'):Tk.zK (Tk.seven.drop i) (u::us) t=Tk.zK (Tk.seven.drop (i+1)) us t':=by
 rw[xX h,Tk.zK,if_pos hp,hs]
theorem afe (h:i<7)(u:List UInt8)(us:List (List UInt8))(t:Tk.bJ)(hp:(Tk.hd i).isPrefixOf u=true)(hs:Tk.jY t i (u.drop (Tk.hd i).length)=none):Tk.zK (Tk.seven.drop i) (u::us) t=none:=by
 rw[xX h,Tk.zK,if_pos hp,hs]
structure Wq (w0:I)(b:Nat)(ar:Option Addr)(rest:List ad):Prop where
 row:gU w0 ar rest
 low:∀z,ar=some z->z.block<b
 sz:∀k,k<rest.length->(tk rest k).size<=1024
theorem Wq.rest {w0:I}(h:Wq w0 b (some ⟨g,o,none⟩) (t::ts))(cw:Nat)(hc:ts.length+1<=cw):Wq w0 b (if cw=1 then some ⟨g,o,none⟩ else some ⟨g,o+1,none⟩) ts:=by
 have hl:=h.low ⟨g,o,none⟩ rfl;refine⟨λk hk=>?_,λz hz=>?_,λk hk=>h.sz (k+1) (by simpa using hk)⟩
 ·rw[if_neg (by omega)];obtain⟨b',o',e,h2,h3⟩:=h.row (k+1) (by simpa using hk)
  cases e
  exact⟨g,o+1,rfl,h2,by rw[show o+1+k=o+(k+1) by omega];exact h3⟩
 ·split at hz<;>(cases hz;exact hl)
def zT (w0:I)(b:Nat)(ans:Option Tk.bJ)(e:Ending)(w':I):Prop:=∃(r:Bool) (t':Tk.bJ) (a':Option Addr) (c':Nat),e=.returned (.bool r)/\(r=true->ans=some t')/\(r=false->ans=none)/\nP w0 w' b t' a' c'/\t'.bo.length<=2000
structure Wp (w0 wr:I)(b i:Nat)(t:Tk.bJ)(a:Option Addr)(c:Nat):Prop where
 rd:nP w0 wr b t a c
 few:t.bo.length<=2000
 WU:i<=3->a=none/\c=0/\t.bo=[]
theorem Io (aw:Option Addr)(ws:List ad)(cw:Nat)(b:Nat)(t0:Tk.bJ)(w0 w:I)(hG:uG w0)(hGb:1<b)(hm:Wq w0 b aw ws)(hr:nP w0 w b t0 none 0)(h0:t0.bo=[])(hcw:ws.length<=cw) :
 Calls prog 119 #[.slice aw ws.length cw,ae b] w λe w'=>zT w0 b (Tk.zK Tk.seven (ws.map (·.data.toList)) t0) e w':=by
 have HO:=aj (λi hi=>(hr.low.cell (p:=aq 1 i) hGb).trans (hG.2 i hi));have o0:=ah HO 0 (by omega);have o1:=ah HO 1 (by omega);have o2:=ah HO 2 (by omega);have o3:=ah HO 3 (by omega);have o4:=ah HO 4 (by omega);have o5:=ah HO 5 (by omega);have o6:=ah HO 6 (by omega);have hbl:=hr.tb.lt;have hgl:1<w.heap.size:=Nat.lt_trans hGb hbl;obtain⟨ans,hans⟩:∃ans,Tk.zK Tk.seven (ws.map (·.data.toList)) t0=ans:=⟨_,rfl⟩;have HA:Hid (Tk.zK (Tk.seven.drop 0) (ws.map (·.data.toList)) t0=ans):=aj hans;have HW:Hid (Wp w0 w b 0 t0 none 0):=aj ⟨hr,by rw[h0];simp,λ_=>⟨rfl,rfl,h0⟩⟩
 have HM:=aj hm;rw[hans];clear hans hr hm h0 hG HO hGb;go_enter func119,ntmps119;go_wp2_with fail;clear o0 o1 o2 o3 o4 o5 o6 hgl hbl;go_loopw [0,10] (λsv iv wr=>∃(i:Nat) (ar:Option Addr) (rest:List ad) (cr:Nat) (t:Tk.bJ) (a:Option Addr) (c:Nat),sv=.slice ar rest.length cr/\iv=aa i/\i<=7/\rest.length<=cr/\Hid (Tk.zK (Tk.seven.drop i) (rest.map (·.data.toList)) t=ans)/\Hid (Wp w0 wr b i t a c)/\Hid (Wq w0 b ar rest)) (λ_ iv _=>7-(intOf iv).toNat)
 case atStart=>exact⟨0,aw,ws,cw,t0,none,0,rfl,rfl,by omega,hcw,HA,HW,HM⟩
 case round =>
  clear HM HW HA hcw;obtain⟨i,ar,rest,cr,t,a,c,rfl,rfl,hi,hcr,HA,HW,HM⟩:=hrel;by_cases hlt:i<7
  ·have hix:=Ii i hlt
   cases rest with
   | nil =>
    have HE:Hid (∀(W:I),W=wr->zT w0 b ans (.returned (.bool true)) W):=aj (λW hW=>by
     subst hW;exact⟨true,t,a,c,rfl,λ_=>by rw[<-ah HA];exact WT t,λh=>by simp at h,(ah HW).rd,(ah HW).few⟩)
    clear HA HW HM;go_wp2_with fail;go_ret;exact ah HE _ rfl
   | cons u us =>
    obtain⟨g,o,rfl,_,e1⟩:=(ah HM).row 0 (by simp);have hgb:=(ah HM).low _ rfl;have e1':wr.cell? (aq g o)=some (.string u):=((ah HW).rd.low.cell (p:=aq g o) hgb).trans e1;have huz:u.size<=1024:=(ah HM).sz 0 (by simp);have hlen:(u::us).length=us.length+1:=rfl;have hwl:b<wr.heap.size:=(ah HW).rd.tb.lt;have hgw:g<wr.heap.size:=Nat.lt_trans hgb hwl;clear e1;by_cases hp:(Tk.hd i).isPrefixOf u.data.toList=true
    ·have PF:=aj (λW=>wU u (Pn.bs (Tk.hd i)) W (by rw[Pn.lW];exact hp));obtain⟨D,hD⟩:∃D,D=Pn.bs (u.data.toList.drop (Tk.hd i).length):=⟨_,rfl⟩;rw[Pn.aU,<-hD] at PF;have hDz:D.size<=1024:=by
      rw[hD,Pn.aU,ajI];have:u.data.toList.length=u.size:=by simp
      omega
     have hDl:D.data.toList=u.data.toList.drop (Tk.hd i).length:=by rw[hD,Pn.lW]
     have PV:=aj (QC (v:=D) i hlt hDz (ah HW).rd (λz=>(ah HW).WU (by omega)));have HQ:Hid (∀w' r t' a' c',(r=true->Tk.jY t i D.data.toList=some t')/\(r=false->Tk.jY t i D.data.toList=none)/\nP w0 w' b t' a' c'/\t'.bo.length<=t.bo.length+2000/\(i≠3->a'=a/\c'=c/\t'.bo=t.bo)->(r=true->Tk.zK (Tk.seven.drop (i+1)) (us.map (·.data.toList)) t'=ans/\Wp w0 w' b (i+1) t' a' c')/\(r=false->zT w0 b ans (.returned (.bool false)) w')):=aj (λw' r t' a' c' ⟨h1,h2,h3,h4,h5⟩=>by
      have hf:t'.bo.length<=2000:=by
       by_cases e3:i=3
       ·have:=((ah HW).WU (by omega)).2.2;rw[this] at h4;simpa using h4
       ·rw[(h5 e3).2.2];exact(ah HW).few
      refine⟨λhr=>⟨?_,h3,hf,λh=>?_⟩,λhr=>⟨false,t',a',c',rfl,λz=>by simp at z,λ_=>?_,h3,hf⟩⟩
      ·rw[<-ah HA,akw,afd hlt _ _ _ hp (by rw[<-hDl];exact h1 hr)]
      ·obtain⟨q1,q2,q3⟩:=h5 (by omega);obtain⟨p1,p2,p3⟩:=(ah HW).WU (by omega);exact⟨q1.trans p1,q2.trans p2,q3.trans p3⟩
      ·rw[<-ah HA,akw,afe hlt _ _ _ hp (by rw[<-hDl];exact h2 hr)])
     obtain⟨HDi,acB⟩:∃x,Pn.bs (Tk.hd i)=x:=⟨_,rfl⟩;rw[acB] at hix PV PF;have HM9:=aj ((ah HM).rest cr hcr);clear acB HA HW hp hD hDl HM hDz;go_wp2_with fail;refine(ah PF _).mono ?_;rintro e w2 ⟨rfl,hw⟩;rw[hw];clear PF hw;go_wp2_with fail;refine(ah PV).mono ?_;rintro e w3 ⟨r,t',a',c',rfl,hq⟩;obtain⟨k1,k2⟩:=ah HQ w3 r t' a' c' hq;clear PV hq HQ e1' hix
     cases r with
     | false =>
      have HE:=aj (k2 rfl);clear k1 k2;go_wp2_with fail;go_ret;exact ah HE
     | true =>
      have HA3:=aj (k1 rfl).1;have HW3:=aj (k1 rfl).2;clear k1 k2;go_wp2_with fail;refine⟨⟨i+1,_,us,cr-1,t',a',c',rfl,by go_num,by omega,by omega,HA3,HW3,HM9⟩,?_⟩;simp[intOf];omega
    ·have PF:=aj (λW=>uN u (Pn.bs (Tk.hd i)) W (by rw[Pn.lW];exact hp));have HA2:Hid (Tk.zK (Tk.seven.drop (i+1)) ((u::us).map (·.data.toList)) t=ans):=aj (by rw[<-ah HA,akw,acA hlt _ _ _ hp]);have HW2:Hid (Wp w0 wr b (i+1) t a c):=aj ⟨(ah HW).rd,(ah HW).few,λh=>(ah HW).WU (by omega)⟩;obtain⟨HDi,acB⟩:∃x,Pn.bs (Tk.hd i)=x:=⟨_,rfl⟩;rw[acB] at hix PF;clear acB HA HW hp;go_wp2_with fail;refine(ah PF _).mono ?_;rintro e w2 ⟨rfl,hw⟩;rw[hw];clear PF hw;go_wp2_with fail;refine⟨⟨i+1,some ⟨g,o,none⟩,u::us,cr,t,a,c,rfl,by go_num,by omega,hcr,HA2,HW2,HM⟩,?_⟩
     simp[intOf];omega
  ·obtain rfl:i=7:=by omega
   cases rest with
   | nil =>
    have HE:Hid (∀(W:I),W=wr->zT w0 b ans (.returned (.bool true)) W):=aj (λW hW=>by
     subst hW;exact⟨true,t,a,c,rfl,λ_=>by rw[<-ah HA];exact WT t,λh=>by simp at h,(ah HW).rd,(ah HW).few⟩)
    clear HA HW HM;go_wp2_with fail;go_ret;exact ah HE _ rfl
   | cons u us =>
    have HE:Hid (∀(W:I),W=wr->zT w0 b ans (.returned (.bool false)) W):=aj (λW hW=>by
     subst hW;exact⟨false,t,a,c,rfl,λh=>by simp at h,λ_=>by rw[<-ah HA];rfl,(ah HW).rd,(ah HW).few⟩)
    have hlen:(u::us).length=us.length+1:=rfl;have g0:(((us.length:Int)+1)==0)=false:=by rw[ajM];omega
    clear HA HW HM;go_wp2_with fail;go_ret;exact ah HE _ rfl
structure Nc (wr:I)(b:Nat)(n:ad)(a:Option Addr)(l c:Nat)(v:List Int):Prop where
 lt:b<wr.heap.size
 c0:wr.cell? (aq b 0)=some (.string n)
 c1:wr.cell? (aq b 1)=some (.slice a l c)
 num:∀i,i<8->wr.cell? (aq b (2+i))=some (aa (Dk.nth v i))
 fr:∀j,wr.frozen? (aq b j)=false
theorem Nc.next {w':I}(h:Nc wr b n a l c v)(hb:ai wr w'):Nc w' b n a l c v where
 lt:=ajz h.lt hb.size
 c0:=by rw[hb.cell (p:=aq b 0) h.lt];exact h.c0
 c1:=by rw[hb.cell (p:=aq b 1) h.lt];exact h.c1
 num:=λi hi=>by rw[hb.cell (p:=aq b (2+i)) h.lt];exact h.num i hi
 fr:=λj=>by rw[hb.frozen (p:=aq b j) h.lt];exact h.fr j
theorem Nc.put (h:Nc wr b n a l c v)(h8:v.length=8)(hi:i<8)(x:Int):Nc (wr.setCell (aq b (2+i)) (aa x)) b n a l c (v.set i x) where
 lt:=by simpa[World.setCell] using h.lt
 c0:=by rw[ajD _ _ _ _ (by intro e;injection e;omega)];exact h.c0
 c1:=by rw[ajD _ _ _ _ (by intro e;injection e;omega)];exact h.c1
 num:=λj hj=>by
  rw[Pn.LJ (by omega)];by_cases e:i=j
  ·rw[if_pos e,e];exact akf _ _ _ (h.num j hj)
  ·rw[if_neg e,ajD _ _ _ _ (by intro z;injection z;omega)];exact h.num j hj
 fr:=λj=>by rw[ajV];exact h.fr j
theorem fK.far {W:I}{x:Value}(h:fK W)(hn:0≠b):fK (W.setCell (aq b i) x):=⟨by simpa[World.setCell] using h.1,λj hj=>⟨by rw[LG hn];exact(h.2 j hj).1,by rw[LG hn];exact(h.2 j hj).2⟩⟩
structure Nm (w wr:I)(b:Nat)(n:ad)(a:Option Addr)(l c:Nat)(aw:Option Addr)(ws:List ad)(v:List Int):Prop where
 st:Nc wr b n a l c v
 row:gU wr aw ws
 bnd:fK wr
 aF:Dk.aA (λk=>k=b) w wr
 ne:∀z,aw=some z->z.block≠b
 neG:0≠b
theorem Nm.next {w wr w':I}{b:Nat}{n:ad}{a:Option Addr}{l c:Nat}{aw:Option Addr}{ws:List ad}{v:List Int}(h:Nm w wr b n a l c aw ws v)(hb:ai wr w'):Nm w w' b n a l c aw ws v:=⟨h.st.next hb,h.row.next hb,h.bnd.next hb,h.aF.trans (Dk.aA.of_below hb),h.ne,h.neG⟩
theorem Nm.put {w wr:I}{b:Nat}{n:ad}{a:Option Addr}{l c:Nat}{aw:Option Addr}{ws:List ad}{v:List Int}(h:Nm w wr b n a l c aw ws v)(h8:v.length=8){i:Nat}(hi:i<8)(x:Int):Nm w (wr.setCell (aq b (2+i)) (aa x)) b n a l c aw ws (v.set i x):=⟨h.st.put h8 hi x,h.row.far h.ne,h.bnd.far h.neG,h.aF.setCell (p:=aq b (2+i)) (.inl rfl) _,h.ne,h.neG⟩
theorem Nm.tail (h:Nm w wr b n a l c (some ⟨g,o,none⟩) (t::ts) v):Nm w wr b n a l c (some ⟨g,o+1,none⟩) ts v:=⟨h.st,λk hk=>by
 obtain⟨b',o',e,h2,h3⟩:=h.row (k+1) (by simpa using hk)
 cases e
 exact⟨g,o+1,rfl,h2,by rw[show o+1+k=o+(k+1) by omega];exact h3⟩,h.bnd,h.aF,λz hz=>by cases hz;exact h.ne ⟨g,o,none⟩ rfl,h.neG⟩
theorem Nm.bare {aw:Option Addr}{ws:List ad}(h:Nm w wr b n a l c aw ws v):Nm w wr b n a l c aw [] v:=⟨h.st,λk hk=>by simp at hk,h.bnd,h.aF,h.ne,h.neG⟩
def Gn (all:List (List UInt8))(b:Nat)(n:ad)(a:Option Addr)(l c:Nat)(w:I)(e:Ending)(w':I):Prop:=∃(r:Bool) (v:List Int),e=.returned (.bool r)/\(r=true->Pn.AV Pn.dR all=some v)/\(r=false->Pn.AV Pn.dR all=none)/\v.length=8/\Nc w' b n a l c v/\Dk.aA (λk=>k=b) w w'
theorem Nm.rest (h:Nm w wr b n a l c (some ⟨g,o,none⟩) (t::ts) v)(cw:Nat)(hc:ts.length+1<=cw):Nm w wr b n a l c (if cw=1 then some ⟨g,o,none⟩ else some ⟨g,o+1,none⟩) ts v:=by
 by_cases e:cw=1
 ·rw[if_pos e];have:ts=[]:=ajZ.1 (by omega);rw[this];exact h.bare
 ·rw[if_neg e];exact h.tail
abbrev Wn (g o i:Nat)(t u:ad)(w:I):Prop:=w.cell? (aq g o)=some (.string t)/\w.cell? (aq 0 (i*2))=some (.string u)
theorem Dn (aw:Option Addr)(ws:List ad)(cw:Nat)(b:Nat)(n:ad)(a:Option Addr)(l c:Nat)(w:I)(hm:Nm w w b n a l c aw ws [0,0,0,0,0,0,0,0])(hcw:ws.length<=cw)(hl:ws.length<=100000)(hz:∀k,k<ws.length->(tk ws k).size<=1024) :
 Calls prog 130 #[.slice aw ws.length cw,ae b] w λe w'=>Gn (ws.map (·.data.toList)) b n a l c w e w':=by
 have HZ:=aj hz;have PU:=aj (Cj b w);have HM:=aj hm;obtain⟨all,hall⟩:∃all,ws.map (·.data.toList)=all:=⟨_,rfl⟩;rw[hall];have HR0:Hid (Pn.Rel all 0 (ws.map (·.data.toList)) [0,0,0,0,0,0,0,0]):=aj (by rw[hall];exact Pn.Rel.start all);clear hz hm hall;go_enter func130,ntmps130;go_wp2_with fail;refine(ah PU).mono ?_;rintro e w1 ⟨rfl,b1⟩;have WV:=aj ((ah HM).next b1);clear PU b1 HM;go_wp2_with fail;go_loopw [0,13] (λsv iv wr=>∃(i:Nat) (ar:Option Addr) (rest:List ad) (cr:Nat) (v:List Int),sv=.slice ar rest.length cr/\iv=aa i/\i<=8/\rest.length<=cr/\rest.length<=100000/\Hid (Pn.Rel all i (rest.map (·.data.toList)) v)/\Hid (∀k,k<rest.length->(tk rest k).size<=1024)/\Hid (Nm w wr b n a l c ar rest v)) (λ_ iv _=>8-(intOf iv).toNat)
 case atStart=>exact⟨0,aw,ws,cw,_,rfl,rfl,by omega,hcw,hl,HR0,HZ,WV⟩
 case round =>
  clear WV HR0 HZ hcw hl;obtain⟨i,ar,rest,cr,v,rfl,rfl,hi,hcr,hlr,HR,HZ,HM⟩:=hrel;by_cases hlt:i<8
  ·have hix:=uF b i hlt
   cases rest with
   | nil =>
    have HE:Hid (∀(W:I),W=wr->Gn all b n a l c w (.returned (.bool true)) W):=aj (λW hW=>by
     subst hW;exact⟨true,v,rfl,λ_=>(ah HR).done,λh=>by simp at h,(ah HR).2.1,(ah HM).st,(ah HM).aF⟩)
    clear HR HZ HM;go_wp2_with fail;go_ret;exact ah HE _ rfl
   | cons t ts =>
    obtain⟨g,o,rfl,_,e1⟩:=(ah HM).row 0 (by simp);obtain⟨WD,hWD⟩:∃WD,WD=wd i:=⟨_,rfl⟩;have e2:wr.cell? (aq 0 (i*2))=some (.string WD):=by rw[hWD];exact((ah HM).bnd.2 i hlt).1
    have htz:t.size<=1024:=ah HZ 0 (by simp);have hwz:WD.size<=7:=by
     rw[hWD];unfold wd;rw[Pn.aU];have:(Pn.dR[i]?).getD []∈Pn.dR:=by rw[ajC (show i<Pn.dR.length from hlt)];exact ako _
     exact(Pn.Yh _ this).1
    have e1':wr.cell? (aq g o)=some (.string t):=e1;have hbs:(⟨#[61]⟩:ad).size=1:=rfl;have hws:WD.size+1<=9223372036854775807:=by omega
    have hlen:(t::ts).length=ts.length+1:=rfl;have YH:=aj ((ah HM).next (agP _ _).drew);have k1:Wn g o i t WD wr.drew:=⟨by simpa using e1',by simpa using e2⟩;clear e1 e1' e2;by_cases hp:(WD.data.toList++[61]).isPrefixOf t.data.toList=true
    ·have PF:=aj (λW=>wU t (WD++⟨#[61]⟩) W (by rw[Ws];exact hp));obtain⟨D,hD⟩:∃D,D=Pn.bs (t.data.toList.drop (WD.data.toList.length+1)):=⟨_,rfl⟩;rw[Yk,<-hD] at PF;have hDz:D.size<=1024:=by
      rw[hD,Pn.aU,ajI];have:t.data.toList.length=t.size:=by simp
      omega
     have hDl:D.data.toList=t.data.toList.drop (WD.data.toList.length+1):=by rw[hD,Pn.lW]
     cases hnb:Pn.iU D.data.toList with
     | false =>
      have PN:=aj (λW=>xW D W (by omega) hnb);have HE:Hid (Gn all b n a l c w (.returned (.bool false)) wr.drew):=aj ⟨false,v,rfl,λh=>by simp at h,λ_=>(ah HR).bad hlt (by rw[<-hWD];exact hp) (by rw[<-hWD,<-hDl];exact Pn.LQ hnb),(ah HR).2.1,(ah YH).st,(ah YH).aF⟩;clear HR HZ HM YH hnb hD hDl hp hWD;go_wp2_with fail;go_region_held_law (Wn g o i t WD) (first|assumption|go_keep)
       (first|(go_at_call 157;refine(ah PF _).mono ?_;rintro e w5 ⟨rfl,rfl⟩))
      all_goals
       go_wp2_with (first|(go_at_call 166;refine(ah PN _).mono ?_;rintro e w6 ⟨rfl,rfl⟩))
       go_ret
       exact ah HE
     | true =>
      have PA:=aj (uI D wr.drew hnb);obtain⟨x,hx⟩:∃x,Pn.dU D.data.toList=x:=⟨_,rfl⟩;rw[hx] at PA;have HR2:Hid (Pn.Rel all (i+1) (ts.map (·.data.toList)) (v.set i x)):=aj (by
       have:=(ah HR).took hlt (by rw[<-hWD];exact hp) (by
        rw[<-hWD,<-hDl];have:=(Pn.qN hnb).1;omega)
       rwa [<-hWD,<-hDl,hx] at this)
      have HZ2:Hid (∀k,k<ts.length->(tk ts k).size<=1024):=aj (λk hk=>ah HZ (k+1) (by simpa using hk));have h8:=(ah HR).2.1;clear HR HZ HM hnb hD hDl hp hWD hx;go_wp2_with fail;go_region_held_law (Wn g o i t WD) (first|assumption|go_keep)
       (first|(go_at_call 157;refine(ah PF _).mono ?_;rintro e w5 ⟨rfl,rfl⟩))
      all_goals
       go_wp2_with fail
       refine(ah PA).mono ?_
       rintro e w7 ⟨rfl,b7⟩
       have HM7:=aj ((ah YH).next b7)
       have t2:=(ah HM7).st.num i hlt
       have t3:=(ah HM7).st.fr (2+i)
       have HM8:=aj ((ah HM7).put h8 hlt x)
       have HM9:=aj ((ah HM8).rest cr hcr)
       clear YH k1 PF PA b7 HM7
       go_wp2_with fail
       refine⟨⟨i+1,_,ts,cr-1,v.set i x,rfl,by go_num,by omega,by omega,by omega,HR2,HZ2,HM9⟩,?_⟩
       simp[intOf];omega
    ·have PF:=aj (λW=>uN t (WD++⟨#[61]⟩) W (by rw[Ws];exact hp));have HR2:=aj ((ah HR).skip hlt (by rw[<-hWD];exact hp));clear HR HM hp hWD;go_wp2_with fail;go_region_held_law (Wn g o i t WD) (first|assumption|go_keep)
      (first|(go_at_call 157;refine(ah PF _).mono ?_;rintro e w5 ⟨rfl,rfl⟩))
     all_goals
      go_wp2_with fail
      refine⟨⟨i+1,some ⟨g,o,none⟩,t::ts,cr,v,rfl,by go_num,by omega,hcr,hlr,HR2,HZ,YH⟩,?_⟩
      simp[intOf];omega
  ·obtain rfl:i=8:=by omega
   cases rest with
   | nil =>
    have HE:Hid (∀(W:I),W=wr->Gn all b n a l c w (.returned (.bool true)) W):=aj (λW hW=>by
     subst hW;exact⟨true,v,rfl,λ_=>(ah HR).done,λh=>by simp at h,(ah HR).2.1,(ah HM).st,(ah HM).aF⟩)
    clear HR HZ HM;go_wp2_with fail;go_ret;exact ah HE _ rfl
   | cons t ts =>
    have HE:Hid (∀(W:I),W=wr->Gn all b n a l c w (.returned (.bool false)) W):=aj (λW hW=>by
     subst hW;exact⟨false,v,rfl,λh=>by simp at h,λ_=>(ah HR).over,(ah HR).2.1,(ah HM).st,(ah HM).aF⟩)
    have hlen:(t::ts).length=ts.length+1:=rfl;have g0:(((ts.length:Int)+1)==0)=false:=by rw[ajM];omega
    clear HR HZ HM;go_wp2_with fail;go_ret;exact ah HE _ rfl
