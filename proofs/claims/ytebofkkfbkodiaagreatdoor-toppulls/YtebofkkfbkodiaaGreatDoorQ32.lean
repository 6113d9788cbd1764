/- A part. -/
import Derived.Test.YtebofkkfbkodiaaGreatDoorQ29
set_option maxRecDepth 100000
set_option maxHeartbeats 8000000
namespace Go.Proofs.YtebofkkfbkodiaaGreatDoor
open Go.RowKit Go.Proofs.Tryz
variable {l:List UInt8}{d:UInt8}{rest s:ad}{ws xs:List ad}{k:Nat}
section
def bG (d:UInt8)(s:ad):List ad:=(Pn.cut d s.data.toList).map Pn.bs
theorem iP (d:UInt8)(s:ad):(bG d s).map (·.data.toList)=Pn.cut d s.data.toList:=by
 unfold bG;rw[List.map_map];conv=>rhs;rw[<-List.map_id (Pn.cut d s.data.toList)]
 apply alP;intro x _;exact Pn.lW x
theorem pX (d:UInt8)(s:ad):(bG d s).length=s.data.toList.count d+1:=by
 unfold bG;rw[akk,Pn.nY]
def abX (d:UInt8)(s:ad)(xs:List ad)(rest:ad)(k:Nat):Prop :=
 xs.length=(bG d s).length/\k+(Pn.cut d rest.data.toList).length=(bG d s).length/\(xs.take k).map (·.data.toList)++Pn.cut d rest.data.toList=Pn.cut d s.data.toList/\rest.size<=s.size
theorem Ux (d:UInt8)(s:ad):abX d s (List.replicate (bG d s).length ByteArray.empty) s 0:=⟨by simp,by unfold bG;rw[akk];omega,rfl,agH _⟩
theorem abY (h:Lib.index l [d]=-1):l.count d=0:=by
 have:=Lib.count_miss h;rwa [Lib.count_one] at this
theorem agt {i:Nat}(h:Lib.index l [d]=i):d∉l.take i/\l=l.take i++d::l.drop (i+1):=by
 rcases Lib.index_spec l [d] with ⟨e,_⟩|⟨j,e,hj,ho,hn⟩
 ·omega
 ·obtain rfl:i=j:=by omega
  have hd:l[i]?=some d:=Lib.occAt_head rfl ho;have hl:i<l.length:=by
   rcases alR i l.length with h|h
   ·exact h
   ·rw[ald h] at hd;cases hd
  refine⟨?_,?_⟩
  ·intro hm;obtain⟨j,hj,e⟩:=akq.1 hm;rw[ajL] at hj;rw[alB] at e;have hf:=hn j (by omega);have ht:Lib.occAt l [d] j=true:=by
    unfold Lib.occAt;rw[ajW (by omega),e];simp[List.isPrefixOf]
   rw[ht] at hf
   cases hf
  ·rw[ajC hl] at hd;simp at hd;rw[<-hd];rw[<-ajW hl,akm]
theorem Uy (h:l.count d≠0):∃m:Nat,Lib.indexByte l d=m/\m<l.length/\d∉l.take m/\l=l.take m++d::l.drop (m+1):=by
 have e:=Lib.index_one l d;have hge:=Lib.index_ge l [d];have hne:Lib.index l [d]≠-1:=λx=>h (abY x)
 obtain⟨m,hm⟩:∃m:Nat,Lib.index l [d]=m:=⟨(Lib.index l [d]).toNat,by omega⟩;obtain⟨h1,h2⟩:=agt hm;refine⟨m,by rw[<-e];exact hm,?_,h1,h2⟩;have hr:=Lib.index_room l [d] (by omega);simp at hr;omega
theorem YS (h:abX d s xs rest k)(hk:k+1<(bG d s).length) :
 ∃m:Nat,Lib.indexByte rest.data.toList d=m/\m<rest.size/\abX d s (xs.set k (rest.extract 0 m)) (rest.extract (m+1) rest.size) (k+1):=by
 obtain⟨h1,h2,h3,h4⟩:=h;have hc:rest.data.toList.count d≠0:=by rw[Pn.nY] at h2;omega
 obtain⟨m,hm,hl,hz,he⟩:=Uy hc;have hsz:rest.data.toList.length=rest.size:=by simp
 have e1:(rest.extract 0 m).data.toList=rest.data.toList.take m:=by rw[Lib.extract_data];simp
 have e2:(rest.extract (m+1) rest.size).data.toList=rest.data.toList.drop (m+1):=by
  rw[Lib.extract_data];exact ajR (by simp)
 have e3:Pn.cut d rest.data.toList=rest.data.toList.take m::Pn.cut d (rest.data.toList.drop (m+1)):=by
  have:=Pn.Iy d (rest.data.toList.take m) (rest.data.toList.drop (m+1)) hz;rw[<-he] at this;exact this
 refine⟨m,hm,by omega,by simpa using h1,?_,?_,?_⟩
 ·rw[e2];rw[e3,ajX] at h2;omega
 ·rw[e2,akc (by simp;omega),akt,akw,alZ,List.take_set_of_le (by omega),List.getElem_set_self,e1,aku];rw[e3] at h3;exact h3
 ·rw[ByteArray.size_extract];omega
theorem abZ (h:abX d s xs rest k)(hk:¬k+1<(bG d s).length):k+1=(bG d s).length/\xs.set k rest=bG d s:=by
 obtain⟨h1,h2,h3,_⟩:=h;have hp:=Pn.nY d rest.data.toList;have hk1:k+1=(bG d s).length:=by omega
 have hz:Pn.cut d rest.data.toList=[rest.data.toList]:=Pn.Nk d _ (by
  rw[<-List.count_eq_zero];omega)
 refine⟨hk1,?_⟩;refine List.map_inj_right (f:=λx:ad=>x.data.toList) (λa b hab=>amv hab) |>.1 ?_;rw[iP,<-h3,hz];have e:xs.set k rest=xs.take k++[rest]:=by
  rw[List.set_eq_take_append_cons_drop,if_pos (by omega),aki (by omega)]
 rw[e,akt];rfl
theorem Qz (d:UInt8)(s:ad)(w:I)(hs:s.size<=140737488355328)(h8:(bG d s).length<=100000) :
 Calls prog 141 #[.string s,.string ⟨#[d]⟩,aa 0,aa (-1)] w λe w'=>e=.returned (.slice (some ⟨w.heap.size,0,none⟩) (bG d s).length (bG d s).length)/\pz w' w.heap.size w.heap.size (bG d s).length (bG d s)/\ai w w':=by
 obtain⟨i0,hi,hz0,hz1,hz2⟩:=alq info9;have hc:Lib.countByte s.data.toList d+1=(bG d s).length:=by rw[pX];rfl
 have hle:Lib.countByte s.data.toList d<=s.size:=by
  have:Lib.countByte s.data.toList d<=s.data.toList.length:=List.count_le_length;simpa using this
 obtain⟨N,hN⟩:∃N,(bG d s).length=N:=⟨_,rfl⟩;rw[hN] at hc h8;obtain⟨c,hcc⟩:∃c,Lib.countByte s.data.toList d=c:=⟨_,rfl⟩;rw[hcc] at hc hle;have HC:=aj hcc;have HN:=aj hN;clear hcc hN;have hmin:min ((c:Int)+1) ((s.size:Int)+1)=(N:Int):=by omega
 have hmk:=run_make_row' (P:=prog) 22 9 (.string ByteArray.empty) 16 underlying22 info9 rfl .i64 .i64 N (by omega) (by omega);have hd1:(⟨#[d]⟩:ad).size=1:=rfl;go_enter func141,ntmps141;go_wp2_with (first|(go_at_call 95;refine(Tryz.strings_Count_one s d _).mono ?_;rintro e w0 ⟨rfl,rfl⟩;rw[ah HC]));clear hmk hmin;go_loopw [0,10] (λsv i wr=>∃(k:Nat) (xs:List ad) (rest:ad),sv=.string rest/\i=aa k/\Hid (abX d s xs rest k)/\Hid (xs.length=N)/\k<N/\rest.size<=s.size/\pz wr w0.heap.size w0.heap.size N xs/\ai w0 wr) (λ_ i _=>N-(intOf i).toNat)
 case atStart =>
  refine⟨0,List.replicate N ByteArray.empty,s,rfl,rfl,aj ?_,aj (by simp),by omega,agH _,?_,ax _ _⟩
  ·have:=Ux d s;rwa [ah HN] at this
  ·have h:=World.ownsRow_lit (base:=w0.heap.size) (e:=9) (size:=1) w0 (madeCells #[.string ByteArray.empty] N) N (agH _) (by unfold maxLen;omega) (by rw[size_madeCells];omega);rw[toList_madeCells_one] at h;unfold pz;rw[List.length_replicate,List.map_replicate];exact h
 case round =>
  obtain⟨k,xs,rest,rfl,rfl,hcut,hxl,hkN,hrs,hown,hb⟩:=hrel;have hc1:=AL hown k (by have:=ah hxl;omega);have hf1:=Ol hown k;have aaT:=aj hown;clear hown;by_cases hlt:k+1<N
  ·obtain⟨m,hm,hml,hnext⟩:=YS (ah hcut) (by rw[ah HN];exact hlt);have HM:=aj hm;have aaU:=aj hnext;clear hm hnext;go_wp2_with (first|(go_at_call 140;refine(Tryz.strings_Index_one rest d _).mono ?_;rintro e w3 ⟨rfl,rfl⟩;rw[ah HM]));refine⟨⟨k+1,xs.set k (rest.extract 0 m),rest.extract (m+1) rest.size,rfl,by go_num,aaU,aj (by rw[alb];exact ah hxl),by omega,by rw[ByteArray.size_extract];omega,DI (ah aaT) k _,hb.setCell (agH _) _⟩,?_⟩;simp[intOf];omega
  ·obtain⟨e1,e2⟩:=abZ (ah hcut) (by rw[ah HN];exact hlt);have E2:=aj e2;have E1:=aj e1;have hke:k+1=N:=by rw[e1,ah HN]
   clear e1 e2;go_wp2_with fail;go_ret;have R:=DI (ah aaT) k rest;rw[ah E2] at R;rw[ah HN];exact⟨rfl,R,hb.setCell (agH _) _⟩
theorem rJ (d:UInt8)(s:ad)(w:I)(hs:s.size<=140737488355328)(h8:(bG d s).length<=100000) :
 Calls prog 96 #[.string s,.string ⟨#[d]⟩] w λe w'=>∃g,e=.returned (.slice (some ⟨g,0,none⟩) (bG d s).length (bG d s).length)/\pz w' w.heap.size g (bG d s).length (bG d s)/\ai w w':=by
 go_enter func96,ntmps96;go_wp2_with fail;refine(Qz d s _ hs h8).mono ?_;rintro e w1 ⟨rfl,hown,hb⟩;go_wp2_with fail;go_ret;exact⟨w.heap.size,rfl,hown,hb⟩
theorem xq (t:Tk.bJ)(v:List UInt8):Tk.jY t 3 v=(Tk.Yr (Pn.cut 44 v)).map (λl=>{t with bo:=t.bo++l}):=rfl
def iK (ws:List ad)(k:Nat):List Int:=(ws.take k).map (λu=>Pn.dU u.data.toList)
theorem vW (h:k<=ws.length):(iK ws k).length=k:=by unfold iK;rw[akk,ajL];omega
theorem Gh (h:k<ws.length):iK ws (k+1)=iK ws k++[Pn.dU (tk ws k).data.toList]:=by
 unfold iK;rw[akc h,akt,Pn.Wv h];rfl
theorem WR:∀(ws:List ad),(∀k,k<ws.length->Pn.iU (tk ws k).data.toList=true)->Tk.Yr (ws.map (·.data.toList))=some (ws.map (λu=>Pn.dU u.data.toList))
 | [],_=>rfl
 | u::us,h=>by
  have h0:Pn.iU u.data.toList=true:=h 0 (by simp);rw[akw,Tk.Yr,if_neg (by have:=(Pn.qN h0).1;omega),WR us (λk hk=>h (k+1) (by simpa using hk))];rfl
theorem QB:∀(ws:List ad) (k:Nat),k<ws.length->Pn.iU (tk ws k).data.toList=false->Tk.Yr (ws.map (·.data.toList))=none
 | [],_,h,_=>by simp at h
 | u::us,k,h,hb=>by
  rw[akw,Tk.Yr];by_cases h0:Pn.dU u.data.toList<1
  ·rw[if_pos h0]
  ·rw[if_neg h0]
   cases k with
   | zero=>exact absurd (Pn.LQ hb) h0
   | succ k=>rw[QB us k (by simpa using h) hb];rfl
structure Bk (w0 w1 wr:I)(b g:Nat)(t:Tk.bJ)(ws:List ad)(k:Nat)(a:Option Addr)(c:Nat):Prop where
 rd:nP w0 wr b {t with bo:=iK ws k} a c
 nums:Dk.Nums wr w1.heap.size (.slice a (iK ws k).length c) (iK ws k)
 row:gU wr (some ⟨g,0,none⟩) ws
 ok:∀j,j<k->Pn.iU (tk ws j).data.toList=true
 gl:g<w1.heap.size
 gb:g≠b
 bl:b<w1.heap.size
 le:w1.heap.size<=wr.heap.size
theorem Bk.next {w0 w1 wr w2:I}{b g:Nat}{t:Tk.bJ}{ws:List ad}{k:Nat}{a:Option Addr}{c:Nat}(h:Bk w0 w1 wr b g t ws k a c)(hb:ai wr w2):Bk w0 w1 w2 b g t ws k a c :=
 ⟨h.rd.next hb,h.nums.below hb,h.row.next hb,h.ok,h.gl,h.gb,h.bl,ajA h.le hb.size⟩
theorem Bk.more {w0 w1 w:I}{b g:Nat}{t:Tk.bJ}{ws:List ad}{k:Nat}{a:Option Addr}{c:Nat}(h:Bk w0 w1 w b g t ws k a c)(hk:k<ws.length)(hl:ws.length<=100000)(hok:Pn.iU (tk ws k).data.toList=true) :
 ∃a' c' w',(Builtin.append_ #[26,26] 26 #[.slice a k c,.slice (some ⟨w.heap.size,0,none⟩) 1 1]).run prog (w.alloc (.cells #[aa (Pn.dU (tk ws k).data.toList)] 3))=.ok (.slice a' (k+1) c') w'/\w'.frozen? (aq b 6)=false/\w'.cell? (aq b 6)=some (.slice a k c)/\b<w'.heap.size/\Bk w0 w1 (w'.setCell (aq b 6) (.slice a' (k+1) c')) b g t ws (k+1) a' c':=by
 have hlen:=vW (amx hk);obtain⟨a',c',w',h1,h2,h3,h4,h5,h6,h7⟩:=h.rd.more h.nums h.bl h.le (by show(iK ws k).length<=_;omega) (Pn.dU (tk ws k).data.toList);have e:({t with bo:=iK ws k}:Tk.bJ).bo.length=k:=hlen;have e2:({({t with bo:=iK ws k}:Tk.bJ) with bo:=({t with bo:=iK ws k}:Tk.bJ).bo++[Pn.dU (tk ws k).data.toList]}:Tk.bJ)={t with bo:=iK ws (k+1)}:=by rw[Gh hk]
 have e3:({t with bo:=iK ws k}:Tk.bJ).bo++[Pn.dU (tk ws k).data.toList]=iK ws (k+1):=(Gh hk).symm;rw[e] at h1 h3 h5 h6 h7;rw[e2] at h5;rw[e3] at h6;refine⟨a',c',w',h1,h2,h3,h4,h5,h6,?_,λj hj=>?_,h.gl,h.gb,h.bl,ajA h.le h7.size⟩
 ·intro j hj;obtain⟨b',o,e0,e1,e2⟩:=h.row j hj
  cases e0
  exact⟨g,0,rfl,ajz e1 h7.size,by rw[h7.cell (p:=aq g (0+j)) e1 (by rintro (z|z);exact h.gb z;have:=h.gl;have:w1.heap.size<=g:=z;omega)];exact e2⟩
 ·by_cases ej:j<k
  ·exact h.ok j ej
  ·obtain rfl:j=k:=by omega
   exact hok
theorem Dl (v:ad)(w0 w:I)(b:Nat)(t:Tk.bJ)(hs:v.size<=1024)(h:nP w0 w b t none 0)(h0:t.bo=[]) :
 Calls prog 206 #[.string v,ae b] w λe w'=>fZ w0 b t none 0 3 v.data.toList e w':=by
 have hf:(bG 44 v).length<=1025:=by
  rw[pX];have h1:=List.count_le_length (a:=(44:UInt8)) (l:=v.data.toList);have e:v.data.toList.length=v.size:=by simp
  omega
 have PP:=aj (rJ 44 v w (by omega) (by omega));have HZ:Hid (∀k,k<(bG 44 v).length->(tk (bG 44 v) k).size<=1024):=aj (λk hk=>ajA (Bd (iP 44 v) hk) hs);have HQ:Hid (∀k,k<(bG 44 v).length->Pn.iU (tk (bG 44 v) k).data.toList=false->Tk.jY t 3 v.data.toList=none):=aj (λk hk hb=>by rw[xq,<-iP,QB _ k hk hb];rfl);have HQ2:Hid ((∀k,k<(bG 44 v).length->Pn.iU (tk (bG 44 v) k).data.toList=true)->Tk.jY t 3 v.data.toList=some {t with bo:=iK (bG 44 v) (bG 44 v).length}):=aj (λhk=>by
  rw[xq,<-iP,WR _ hk];unfold iK;rw[akT,Option.map_some,h0,akD])
 obtain⟨ws,hws⟩:∃ws,bG 44 v=ws:=⟨_,rfl⟩;rw[hws] at PP HZ HQ HQ2 hf;have H:=aj h;have hbl:=h.tb.lt;clear hws h hs;go_enter func206,ntmps206;go_wp2_with fail;refine(ah PP).mono ?_;rintro e w1 ⟨g,rfl,o1,b1⟩;have hg:=own_base o1;have K0:Hid (Bk w0 w1 w1 b g t ws 0 none 0):=aj ⟨by
  have e:({t with bo:=iK ws 0}:Tk.bJ)=t:=by unfold iK;rw[List.take_zero,alZ,<-h0]
  rw[e];exact(ah H).next b1,⟨by simp[iK],.inl ⟨by simp[iK],by simp[iK]⟩⟩,zG o1,λj hj=>by omega,hg.2,by omega,ajz hbl b1.size,agH _⟩
 clear PP o1 b1 hg H h0;go_wp2_with fail;go_loopw [12] (λiv wr=>∃(k:Nat) (a:Option Addr) (c:Nat),iv=aa k/\k<=ws.length/\Hid (Bk w0 w1 wr b g t ws k a c)) (λiv _=>ws.length-(intOf iv).toNat)
 case atStart=>exact⟨0,none,0,rfl,ajO _,K0⟩
 case round =>
  clear K0;obtain⟨k,a,c,rfl,hk,K⟩:=hrel;by_cases hlt:k<ws.length
  ·have e1:wr.cell? (aq g k)=some (.string (tk ws k)):=by
    obtain⟨_,_,e0,_,e1⟩:=(ah K).row k hlt
    cases e0
    rw[ajT] at e1;exact e1
   have hz:=ah HZ k hlt
   cases hn:Pn.iU (tk ws k).data.toList with
   | false =>
    have PN:=aj (xW (tk ws k) wr (by omega) hn);have HE:Hid (fZ w0 b t none 0 3 v.data.toList (.returned (.bool false)) wr):=aj ⟨false,_,a,c,rfl,λz=>by simp at z,λ_=>ah HQ k hlt hn,(ah K).rd,by show(iK ws k).length<=_;rw[vW hk];omega,λz=>absurd rfl z⟩;obtain⟨x,hx⟩:∃x,tk ws k=x:=⟨_,rfl⟩;rw[hx] at e1 PN hz;clear hx hn K HQ HQ2 HZ;go_wp2_with fail;refine(ah PN).mono ?_;rintro e w2 ⟨rfl,hw⟩;rw[hw];clear PN hw;go_wp2_with fail;go_ret;exact ah HE
   | true =>
    have PN:=aj (uI (tk ws k) wr hn);have HM:=aj (λ(w2:I) (b2:ai wr w2)=>And.intro ((ah K).next b2).rd.tb.c6 (((ah K).next b2).more hlt (by omega) hn));have hkl:({t with bo:=iK ws k}:Tk.bJ).bo.length=k:=vW hk;rw[hkl] at HM;obtain⟨x,hx⟩:∃x,tk ws k=x:=⟨_,rfl⟩;obtain⟨D,hD⟩:∃D,Pn.dU (tk ws k).data.toList=D:=⟨_,rfl⟩;rw[hD] at HM PN;rw[hx] at e1 PN hz;have ae5:b<wr.heap.size:=(ah K).rd.tb.lt;clear hx hD hn K HQ HQ2 hkl;go_wp2_with fail;refine(ah PN).mono ?_;rintro e w2 ⟨rfl,b2⟩;obtain⟨c6,a',c',w3,hrun,f3,c3,l3,K3⟩:=ah HM w2 b2;have ajr:=ajz ae5 b2.size
    have qO:=aj hrun;have HK:=aj K3;clear PN HM b2 hrun K3 e1 hz;go_wp2_with (at_builtin;refine akA _ rfl _ _ _ _ rfl _ _ rfl rfl _ _ (ah qO) ?_);refine⟨⟨k+1,a',c',by go_num,by omega,HK⟩,?_⟩;simp[intOf];omega
  ·obtain rfl:k=ws.length:=by omega
   have HE:Hid (fZ w0 b t none 0 3 v.data.toList (.returned (.bool true)) wr):=aj ⟨true,_,a,c,rfl,λ_=>ah HQ2 (ah K).ok,λz=>by simp at z,(ah K).rd,by show(iK ws _).length<=_;rw[vW hk];omega,λz=>absurd rfl z⟩;clear K HQ HQ2 HZ;go_wp2_with fail;go_ret;exact ah HE
section
variable {w0 w:I}{b:Nat}{t:Tk.bJ}{a:Option Addr}{c:Nat}{v:ad}
theorem ahC (t:Tk.bJ)(v:List UInt8):Tk.jY t 6 v=if v=[] then some {t with pu:=true} else none:=rfl
theorem ab1 (hs:v.size<=1024)(h:nP w0 w b t a c) :
 Calls prog 158 #[.string ⟨#[102,114,111,109,61]⟩,.string v,ae b] w λe w'=>fZ w0 b t a c 0 v.data.toList e w':=by
 have P1:=aj (Me v w0 w b t a c hs h);clear h hs;go_enter func158,ntmps158;go_wp2_with fail;refine(ah P1).mono ?_;rintro e w1 ⟨r,t',a',c',rfl,hq⟩;have HV:Hid (fZ w0 b t a c 0 v.data.toList (.returned (.bool r)) w1):=aj ⟨r,t',a',c',rfl,hq⟩;clear P1 hq;go_wp2_with fail;go_ret;exact ah HV
theorem ab2 (h:nP w0 w b t a c) :
 Calls prog 158 #[.string ⟨#[97,99,107,61]⟩,.string v,ae b] w λe w'=>fZ w0 b t a c 1 v.data.toList e w':=by
 have P1:=aj (Qx v w0 w b t a c h);clear h;go_enter func158,ntmps158;go_wp2_with fail;refine(ah P1).mono ?_;rintro e w1 ⟨r,t',a',c',rfl,hq⟩;have HV:Hid (fZ w0 b t a c 1 v.data.toList (.returned (.bool r)) w1):=aj ⟨r,t',a',c',rfl,hq⟩;clear P1 hq;go_wp2_with fail;go_ret;exact ah HV
theorem ab3 (hs:v.size<=1024)(h:nP w0 w b t a c) :
 Calls prog 158 #[.string ⟨#[119,97,105,116,61]⟩,.string v,ae b] w λe w'=>fZ w0 b t a c 2 v.data.toList e w':=by
 have P1:=aj (rH v b 5 t.wait w (by omega) h.tb.lt h.tb.c5 (h.fr 5));have HE:Hid (∀w2,ai w w2->fZ w0 b t a c 2 v.data.toList (.returned (.bool (Pn.iU v.data.toList))) (w2.setCell (aq b 5) (aa (nC v)))):=aj (λw2 b2=>DY (a:=a) (c:=c) (λx=>{t with wait:=x}) _ (λ_=>rfl) rfl ((h.next b2).ahw (nC v)));clear h hs;go_enter func158,ntmps158;go_wp2_with fail;refine(ah P1).mono ?_;rintro e w3 ⟨w2,rfl,b2,rfl⟩;have HE2:=aj (ah HE w2 b2);clear b2 P1 HE;go_wp2_with fail;go_ret;exact ah HE2
theorem ab4 (hs:v.size<=1024)(h:nP w0 w b t none 0)(h0:t.bo=[]) :
 Calls prog 158 #[.string ⟨#[98,97,99,107,111,102,102,61]⟩,.string v,ae b] w λe w'=>fZ w0 b t none 0 3 v.data.toList e w':=by
 have P1:=aj (Dl v w0 w b t hs h h0);clear h hs h0;go_enter func158,ntmps158;go_wp2_with fail;refine(ah P1).mono ?_;rintro e w1 ⟨r,t',a',c',rfl,hq⟩;have HV:Hid (fZ w0 b t none 0 3 v.data.toList (.returned (.bool r)) w1):=aj ⟨r,t',a',c',rfl,hq⟩;clear P1 hq;go_wp2_with fail;go_ret;exact ah HV
theorem ab5 (hs:v.size<=1024)(h:nP w0 w b t a c) :
 Calls prog 158 #[.string ⟨#[109,111,115,116,61]⟩,.string v,ae b] w λe w'=>fZ w0 b t a c 4 v.data.toList e w':=by
 have P1:=aj (rH v b 7 t.mo w (by omega) h.tb.lt h.tb.c7 (h.fr 7));have HE:Hid (∀w2,ai w w2->fZ w0 b t a c 4 v.data.toList (.returned (.bool (Pn.iU v.data.toList))) (w2.setCell (aq b 7) (aa (nC v)))):=aj (λw2 b2=>DY (a:=a) (c:=c) (λx=>{t with mo:=x}) _ (λ_=>rfl) rfl ((h.next b2).mo' (nC v)));clear h hs;go_enter func158,ntmps158;go_wp2_with fail;refine(ah P1).mono ?_;rintro e w3 ⟨w2,rfl,b2,rfl⟩;have HE2:=aj (ah HE w2 b2);clear b2 P1 HE;go_wp2_with fail;go_ret;exact ah HE2
theorem ab6 (hs:v.size<=1024)(h:nP w0 w b t a c) :
 Calls prog 158 #[.string ⟨#[112,101,110,100,105,110,103,61]⟩,.string v,ae b] w λe w'=>fZ w0 b t a c 5 v.data.toList e w':=by
 have P1:=aj (rH v b 8 t.pe w (by omega) h.tb.lt h.tb.c8 (h.fr 8));have HE:Hid (∀w2,ai w w2->fZ w0 b t a c 5 v.data.toList (.returned (.bool (Pn.iU v.data.toList))) (w2.setCell (aq b 8) (aa (nC v)))):=aj (λw2 b2=>DY (a:=a) (c:=c) (λx=>{t with pe:=x}) _ (λ_=>rfl) rfl ((h.next b2).pe' (nC v)));clear h hs;go_enter func158,ntmps158;go_wp2_with fail;refine(ah P1).mono ?_;rintro e w3 ⟨w2,rfl,b2,rfl⟩;have HE2:=aj (ah HE w2 b2);clear b2 P1 HE;go_wp2_with fail;go_ret;exact ah HE2
theorem ab7 (h:nP w0 w b t a c) :
 Calls prog 158 #[.string ⟨#[112,117,115,104]⟩,.string v,ae b] w λe w'=>fZ w0 b t a c 6 v.data.toList e w':=by
 have c9:=h.tb.c9;have f9:=h.fr 9;by_cases h0:v.data.toList=[]
 ·have HE:Hid (fZ w0 b t a c 6 v.data.toList (.returned (.bool true)) (w.setCell (aq b 9) (.bool true))):=aj ⟨true,_,a,c,rfl,λ_=>by rw[ahC,if_pos h0],λz=>by simp at z,h.pu' true,by show t.bo.length<=_;omega,λ_=>⟨rfl,rfl,rfl⟩⟩;have e1:v.toList.isEmpty=true:=by rw[lst,h0];rfl
  clear h0 h;go_enter func158,ntmps158;go_wp2_with fail;go_ret;exact ah HE
 ·have HE:Hid (fZ w0 b t a c 6 v.data.toList (.returned (.bool false)) (w.setCell (aq b 9) (.bool true))):=aj ⟨false,_,a,c,rfl,λz=>by simp at z,λ_=>by rw[ahC,if_neg h0],h.pu' true,by show t.bo.length<=_;omega,λ_=>⟨rfl,rfl,rfl⟩⟩;have e1:(v.toList==[])=false:=by rw[lst,ajM];exact h0
  clear h0 h;go_enter func158,ntmps158;go_wp2_with fail;go_ret;exact ah HE
theorem QC (i:Nat)(hi:i<7)(hs:v.size<=1024)(h:nP w0 w b t a c)(h3:i=3->a=none/\c=0/\t.bo=[]) :
 Calls prog 158 #[.string (Pn.bs (Tk.hd i)),.string v,ae b] w λe w'=>fZ w0 b t a c i v.data.toList e w':=by
 have:i=0\/i=1\/i=2\/i=3\/i=4\/i=5\/i=6:=by omega
 rcases this with rfl|rfl|rfl|rfl|rfl|rfl|rfl
 ·exact ab1 hs h
 ·exact ab2 h
 ·exact ab3 hs h
 ·obtain⟨rfl,rfl,h0⟩:=h3 rfl;exact ab4 hs h h0
 ·exact ab5 hs h
 ·exact ab6 hs h
 ·exact ab7 h
end
end
