/- A part. -/
import Derived.Test.YtebofkkfbkodiaaGreatDoorQ0
import Derived.Test.YtebofkkfbkodiaaGreatDoorQ1
set_option maxRecDepth 100000
set_option maxHeartbeats 8000000
namespace Go.Proofs.YtebofkkfbkodiaaGreatDoor
open Go.RowKit Go.Proofs.Tryz
variable {b rest s t x y:ad}{B cap i j k p:Nat}{W w:I}{f g l xs:List ad}{a c d gq:Bool}
def Oj (c:Int):Bool:=decide (33<=c)&&(decide (c<=126)&&(decide (c≠46)&&(decide (c≠42)&&decide (c≠62))))
theorem VQ (c:Int)(w:I) :
 Calls prog 97 #[.int .u8 c] w λe w'=>e=.returned (.bool (Oj c))/\w'=w:=by
 go_enter func97,ntmps97;go_wp2;all_goals go_ret
 all_goals refine⟨lY ?_,rfl⟩
 all_goals simp[Oj]
 all_goals omega
theorem I7 (c:UInt8):Oj (c.toNat:Int)=Pl.aac c:=by
 unfold Oj Pl.aac;rw[akK];simp;omega
def dI (s:ad):Bool:=Pl.wV s.data.toList
theorem I8 (h:s.size<1\/16<s.size):dI s=false:=by
 unfold dI Pl.wV;have:s.data.toList.length=s.size:=by simp
 rcases h with h|h
 ·rw[ajE (by omega)];rfl
 ·rw[ajE (p:=s.data.toList.length<=16) (by omega)];simp
theorem XR (hk:k<s.size)(h:Oj (s[k].toNat:Int)=false):dI s=false:=by
 unfold dI Pl.wV;rw[I7] at h;have:s.data.toList.all Pl.aac=false:=by
  rw[List.all_eq_false];exact⟨s[k],by simp[ByteArray.getElem_eq_getElem_data],by simp[h]⟩
 simp[this]
theorem Tf (h1:1<=s.size)(h2:s.size<=16)(h:∀k (hk:k<s.size),Oj (s[k].toNat:Int)=true):dI s=true:=by
 unfold dI Pl.wV;have e:s.data.toList.length=s.size:=by simp
 rw[ajH (by omega),ajH (by omega)];simp only[akz,akS];intro c hc;obtain⟨k,hk,rfl⟩:=akq.1 hc;have:=h k (by omega);rw[I7] at this;simpa[ByteArray.getElem_eq_getElem_data] using this
theorem Az (s:ad)(w:I)(hs:s.size<=maxLen) :
 Calls prog 54 #[.string s] w λe w'=>e=.returned (.bool (dI s))/\w'=w:=by
 unfold maxLen at hs;by_cases h1:s.size<1
 ·go_enter func54,ntmps54;go_wp2;go_ret;exact⟨iq (I8 (Or.inl h1)),rfl⟩
 by_cases h2:16<s.size
 ·go_enter func54,ntmps54;go_wp2;go_ret;exact⟨iq (I8 (Or.inr h2)),rfl⟩
 go_enter func54,ntmps54;go_wp2;go_loop [14] (λi=>∃k:Nat,k<=s.size/\i=aa k/\Hid (∀j (hj:j<s.size),j<k->Oj (s[j].toNat:Int)=true)) (λi=>s.size-(intOf i).toNat)
 case atStart=>exact⟨0,ajO _,rfl,aj (λj _ h=>absurd h (akh j))⟩
 case round =>
  obtain⟨k,hk,rfl,hq⟩:=hrel;by_cases hlt:k<s.size
  ·cases ht:Oj (s[k].toNat:Int) with
   | false =>
    have Ht:=aj ht;clear ht;go_wp2_with (go_at_call 97;refine(VQ _ _).mono ?_;rintro e w' ⟨rfl,rfl⟩;rw[ah Ht]);go_ret;exact⟨iq (XR hlt (ah Ht)),rfl⟩
   | true =>
    have Ht:=aj ht;clear ht;go_wp2_with (go_at_call 97;refine(VQ _ _).mono ?_;rintro e w' ⟨rfl,rfl⟩;rw[ah Ht]);go_round
    case rel=>exact⟨k+1,by omega,by go_num,aj (λj hj h=>by
     rcases akI.1 h with h|h
     ·exact ah hq j hj h
     ·subst h;exact ah Ht)⟩
    case measure=>simp[intOf];omega
  ·go_wp2;go_ret;exact⟨iq (Tf (by omega) (by omega) (λj hj=>ah hq j hj (by omega))),rfl⟩
def tk (l:List ad)(k:Nat):ad:=l[k]?.getD ByteArray.empty
def Row (w:I)(b o:Nat)(l:List ad):Prop:=∀k,k<l.length->w.cell? (aq b (o+k))=some (.string (tk l k))
theorem Row.below {w':I}{b o:Nat}(h:Row w b o l)(hb:Below B w w')(hB:b<B):Row w' b o l:=by
 intro k hk;rw[hb.cell (p:=aq b (o+k)) hB];exact h k hk
theorem info9:(prog.info? 9).map (λi=>(i.zero,i.size,i.bytes))=some (some (.string ByteArray.empty),1,16):=by kernel_rfl
def pz (w:I)(B g cap:Nat)(l:List ad):Prop:=w.ownsRow B 9 1 (.slice (some ⟨g,0,none⟩) l.length cap) l.length (l.map Value.string)
theorem AL {g:Nat}(h:pz W B g cap l):∀k,k<l.length->W.cell? (aq g k)=some (.string (tk l k)):=by
 intro k hk;rw[ake h k (by omega)];simp[tk,List.getElem?_eq_getElem hk]
theorem Ol {g:Nat}(h:pz W B g cap l)(j:Nat):W.frozen? (aq g j)=false:=ani h j
theorem own_base {g:Nat}(h:pz W B g cap l):B<=g/\g<W.heap.size:=aks h g rfl
theorem DI {g:Nat}(h:pz W B g cap l)(k:Nat)(t:ad):pz (W.setCell (aq g k) (.string t)) B g cap (l.set k t):=by
 have h2:=(alV h k (.string t)).1;unfold pz;rw[alb,List.map_set];exact h2
theorem one_cell (s:ad):∀u∈[Value.string s],u.oneCell'=true:=by
 intro u hu;simp at hu;subst hu;rfl
def Cut (s:ad)(xs:List ad)(rest:ad)(k:Nat):Prop :=
 xs.length=(Pl.toks s).length/\k+(Pl.mJ rest.data.toList).length=(Pl.toks s).length/\(xs.take k).map (·.data.toList)++Pl.mJ rest.data.toList=Pl.mJ s.data.toList/\rest.size<=s.size
theorem XT (s:ad):Cut s (List.replicate (Pl.toks s).length ByteArray.empty) s 0:=⟨by simp,by rw[Pl.bH];omega,rfl,agH _⟩
theorem index_hit {l:List UInt8}(h:l.count 46≠0):∃m:Nat,Lib.indexByte l 46=m/\m<l.length/\(l.take m).count 46=0/\l=l.take m++46::l.drop (m+1):=by
 have e:=Lib.index_one l 46;have hge:=Lib.index_ge l [46];have hne:Lib.index l [46]≠-1:=λx=>h (Pl.sW x)
 obtain⟨m,hm⟩:∃m:Nat,Lib.index l [46]=m:=⟨(Lib.index l [46]).toNat,by omega⟩;obtain⟨h1,h2⟩:=Pl.wG hm;refine⟨m,by rw[<-e];exact hm,?_,h1,h2⟩;have hr:=Lib.index_room l [46] (by omega);simp at hr;omega
theorem aaS (h:Cut s xs rest k)(hk:k+1<(Pl.toks s).length) :
 ∃m:Nat,Lib.indexByte rest.data.toList 46=m/\m<rest.size/\Cut s (xs.set k (rest.extract 0 m)) (rest.extract (m+1) rest.size) (k+1):=by
 obtain⟨h1,h2,h3,h4⟩:=h;have hc:rest.data.toList.count 46≠0:=by rw[Pl.lF] at h2;omega
 obtain⟨m,hm,hl,hz,he⟩:=index_hit hc;have hsz:rest.data.toList.length=rest.size:=by simp
 have e1:(rest.extract 0 m).data.toList=rest.data.toList.take m:=by rw[Lib.extract_data];simp
 have e2:(rest.extract (m+1) rest.size).data.toList=rest.data.toList.drop (m+1):=by
  rw[Lib.extract_data];exact ajR (by simp)
 have e3:Pl.mJ rest.data.toList=rest.data.toList.take m::Pl.mJ (rest.data.toList.drop (m+1)):=by
  have:=Pl.KA (rest.data.toList.take m) (rest.data.toList.drop (m+1)) hz;rw[<-he] at this;exact this
 refine⟨m,hm,by omega,by simpa using h1,?_,?_,?_⟩
 ·rw[e2];rw[e3,ajX] at h2;omega
 ·rw[e2,akc (by simp;omega),akt,akw,alZ,List.take_set_of_le (by omega),List.getElem_set_self,e1,aku];rw[e3] at h3;exact h3
 ·rw[ByteArray.size_extract];omega
theorem aef (h:Cut s xs rest k)(hk:¬k+1<(Pl.toks s).length):k+1=(Pl.toks s).length/\xs.set k rest=Pl.toks s:=by
 obtain⟨h1,h2,h3,_⟩:=h;have hp:=Pl.lF rest.data.toList;have hk1:k+1=(Pl.toks s).length:=by omega
 have hz:Pl.mJ rest.data.toList=[rest.data.toList]:=Pl.Eb (by omega);refine⟨hk1,?_⟩;refine List.map_inj_right (f:=λx:ad=>x.data.toList) (λa b hab=>amv hab) |>.1 ?_;rw[Pl.qp,<-h3,hz];have e:xs.set k rest=xs.take k++[rest]:=by
  rw[List.set_eq_take_append_cons_drop,if_pos (by omega),aki (by omega)]
 rw[e,akt];rfl
theorem KY (s:ad)(w:I)(hs:s.size<=140737488355328)(h8:(Pl.toks s).length<=8) :
 Calls prog 141 #[.string s,.string ⟨#[46]⟩,aa 0,aa (-1)] w λe w'=>e=.returned (.slice (some ⟨w.heap.size,0,none⟩) (Pl.toks s).length (Pl.toks s).length)/\pz w' w.heap.size w.heap.size (Pl.toks s).length (Pl.toks s)/\ai w w':=by
 obtain⟨i0,hi,hz0,hz1,hz2⟩:=alq info9;have hc:Lib.countByte s.data.toList 46+1=(Pl.toks s).length:=by rw[Pl.bH,Pl.lF];rfl
 have hle:Lib.countByte s.data.toList 46<=s.size:=by
  have:Lib.countByte s.data.toList 46<=s.data.toList.length:=List.count_le_length;simpa using this
 obtain⟨N,hN⟩:∃N,(Pl.toks s).length=N:=⟨_,rfl⟩;rw[hN] at hc h8;obtain⟨c,hcc⟩:∃c,Lib.countByte s.data.toList 46=c:=⟨_,rfl⟩;rw[hcc] at hc hle;have HC:=aj hcc;have HN:=aj hN;clear hcc hN;have hmin:min ((c:Int)+1) ((s.size:Int)+1)=(N:Int):=by omega
 have hmk:=run_make_row' (P:=prog) 22 9 (.string ByteArray.empty) 16 underlying22 info9 rfl .i64 .i64 N (by omega) (by omega);go_enter func141,ntmps141;go_wp2_with (first|(go_at_call 95;refine(Tryz.strings_Count_one s 46 _).mono ?_;rintro e w0 ⟨rfl,rfl⟩;rw[ah HC]));clear hmk hmin;go_loopw [0,10] (λsv i wr=>∃(k:Nat) (xs:List ad) (rest:ad),sv=.string rest/\i=aa k/\Hid (Cut s xs rest k)/\Hid (xs.length=N)/\k<N/\rest.size<=s.size/\pz wr w0.heap.size w0.heap.size N xs/\ai w0 wr) (λ_ i _=>N-(intOf i).toNat)
 case atStart =>
  refine⟨0,List.replicate N ByteArray.empty,s,rfl,rfl,aj ?_,aj (by simp),by omega,agH _,?_,ax _ _⟩
  ·have:=XT s;rwa [ah HN] at this
  ·have h:=World.ownsRow_lit (base:=w0.heap.size) (e:=9) (size:=1) w0 (madeCells #[.string ByteArray.empty] N) N (agH _) (by unfold maxLen;omega) (by rw[size_madeCells];omega);rw[toList_madeCells_one] at h;unfold pz;rw[List.length_replicate,List.map_replicate];exact h
 case round =>
  obtain⟨k,xs,rest,rfl,rfl,hcut,hxl,hkN,hrs,hown,hb⟩:=hrel;have hc1:=AL hown k (by have:=ah hxl;omega);have hf1:=Ol hown k;have aaT:=aj hown;clear hown;by_cases hlt:k+1<N
  ·obtain⟨m,hm,hml,hnext⟩:=aaS (ah hcut) (by rw[ah HN];exact hlt);have HM:=aj hm;have aaU:=aj hnext;clear hm hnext;go_wp2_with (first|(go_at_call 140;refine(Tryz.strings_Index_one rest 46 _).mono ?_;rintro e w3 ⟨rfl,rfl⟩;rw[ah HM]));refine⟨⟨k+1,xs.set k (rest.extract 0 m),rest.extract (m+1) rest.size,rfl,by go_num,aaU,aj (by rw[alb];exact ah hxl),by omega,by rw[ByteArray.size_extract];omega,DI (ah aaT) k _,hb.setCell (agH _) _⟩,?_⟩;simp[intOf];omega
  ·obtain⟨e1,e2⟩:=aef (ah hcut) (by rw[ah HN];exact hlt);have E2:=aj e2;have E1:=aj e1;have hke:k+1=N:=by rw[e1,ah HN]
   clear e1 e2;go_wp2_with fail;go_ret;have R:=DI (ah aaT) k rest;rw[ah E2] at R;rw[ah HN];exact⟨rfl,R,hb.setCell (agH _) _⟩
theorem AO (s:ad)(w:I)(hs:s.size<=140737488355328)(h8:(Pl.toks s).length<=8) :
 Calls prog 96 #[.string s,.string ⟨#[46]⟩] w λe w'=>∃b,e=.returned (.slice (some ⟨b,0,none⟩) (Pl.toks s).length (Pl.toks s).length)/\w.heap.size<=b/\b<w'.heap.size/\ai w w'/\Row w' b 0 (Pl.toks s):=by
 go_enter func96,ntmps96;go_wp2_with fail;refine(KY s _ hs h8).mono ?_;rintro e w1 ⟨rfl,hown,hb⟩;go_wp2_with fail;go_ret;exact⟨w.heap.size,rfl,agH _,(own_base hown).2,hb,λk hk=>by rw[ajT];exact AL hown k hk⟩
def aC (gq:Bool)(s:ad):Int:=Pl.errOf gq (Pl.mJ s.data.toList)
def l9 (s:ad):Bool:=decide (8<(Pl.toks s).length)
theorem yV (s:ad)(w:I)(hs:s.size<=140737488355328) :
 Calls prog 52 #[.string s] w λe w'=>e=.returned (.bool (l9 s))/\w'=w:=by
 have hc:Lib.countByte s.data.toList 46+1=(Pl.toks s).length:=by rw[Pl.bH,Pl.lF];rfl
 have hl:Lib.countByte s.data.toList 46<=140737488355328:=by
  have:Lib.countByte s.data.toList 46<=s.data.toList.length:=List.count_le_length;simp at this;omega
 have Hc:=aj hc;clear hc;go_enter func52,ntmps52;go_wp2_with (go_at_call 95;refine(Tryz.strings_Count_one s 46 _).mono ?_;rintro e w' ⟨rfl,rfl⟩);go_ret;refine⟨lY ?_,rfl⟩;have:=ah Hc;simp[l9];omega
theorem lI (s:ad)(w:I)(hs:s.size<=140737488355328)(h8:(Pl.toks s).length<=8) :
 Calls prog 53 #[.string s] w λe w'=>∃b,e=.returned (.slice (some ⟨b,0,none⟩) (Pl.toks s).length (Pl.toks s).length)/\w.heap.size<=b/\b<w'.heap.size/\ai w w'/\Row w' b 0 (Pl.toks s):=by
 go_enter func53,ntmps53;go_wp2_with (go_at_call 96;refine(AO s _ hs h8).mono ?_;rintro e w' ⟨b,rfl,h1,h2,h3,h4⟩);go_ret;exact⟨b,rfl,h1,h2,h3,h4⟩
theorem aaV (h:l9 s=false)(hk:k<(Pl.toks s).length)(g:dI (tk (Pl.toks s) k)=false):aC false s=3:=by
 simp only[l9,akr] at h;refine Pl.Iu (k:=k) (by rwa [<-Pl.bH]) (by rwa [<-Pl.bH]) ?_;rw[Pl.yu];simp only[Pl.mZ,akH,anc];exact g
theorem XU (h:l9 s=false)(g:∀k,k<(Pl.toks s).length->dI (tk (Pl.toks s) k)=true):aC false s=0:=by
 simp only[l9,akr] at h;refine Pl.wW (by rwa [<-Pl.bH]) ?_;simp only[Pl.jd,akS,amc];intro i hi;rw[<-Pl.bH] at hi;rw[Pl.yu];simp only[Pl.mZ,akH,anc];exact g i hi
theorem EM (h:l9 s=true):aC gq s=2 :=
 Pl.Nj (by rw[<-Pl.bH];simpa[l9] using h)
theorem dJ {k:IntKind}{a b:Int}(h:b=a):Ending.returned (.int k a)=.returned (.int k b):=by rw[h]
theorem Om (s:ad)(k:Nat):(tk (Pl.toks s) k).size<=s.size:=by
 unfold tk;have h:=Pl.yu s k;have h2:((Pl.mJ s.data.toList)[k]?.getD []).length<=s.data.toList.length:=by
  cases e:(Pl.mJ s.data.toList)[k]? with
  | none=>simp
  | some p=>exact Pl.Iw _ _ (amP e)
 rw[h] at h2;simpa using h2
theorem dQ (s:ad)(w:I)(hs:s.size<=140737488355328) :
 Calls prog 26 #[.string s] w λe w'=>e=.returned (aa (aC false s))/\ai w w':=by
 cases hb:l9 s with
 | true =>
  have Hb:=aj hb;clear hb;go_enter func26,ntmps26;go_wp2_with (go_at_call 52;refine(yV _ _ hs).mono ?_;rintro e w' ⟨rfl,rfl⟩;rw[ah Hb]);go_ret;exact⟨dJ (EM (ah Hb)),agP _ _⟩
 | false =>
  have Hb:=aj hb;have hl:(Pl.toks s).length<=8:=by simpa[l9] using hb
  clear hb;go_enter func26,ntmps26;go_wp2_with (first
   | (go_at_call 52;refine(yV _ _ hs).mono ?_;rintro e w' ⟨rfl,rfl⟩;rw[ah Hb])
   | (go_at_call 53;refine(lI _ _ hs hl).mono ?_;rintro e w1 ⟨b,rfl,h1,h2,h3,h4⟩))
  have hcell:∀k,k<(Pl.toks s).length->w1.cell? (aq b k)=some (.string (tk (Pl.toks s) k)):=λk hk=>by have:=h4 k hk;rwa [ajT] at this
  go_loop [10] (λi=>∃k:Nat,k<=(Pl.toks s).length/\i=aa k/\Hid (∀j,j<k->dI (tk (Pl.toks s) j)=true)) (λi=>(Pl.toks s).length-(intOf i).toNat)
  case atStart=>exact⟨0,ajO _,rfl,aj (λj h=>absurd h (akh j))⟩
  case round =>
   obtain⟨k,hk,rfl,hq⟩:=hrel;by_cases hlt:k<(Pl.toks s).length
   ·have hc1:=hcell k hlt;have hz:=Om s k
    cases ht:dI (tk (Pl.toks s) k) with
    | false =>
     have Ht:=aj ht;have Hz:=aj hz;clear ht hcell hz;go_wp2_with (go_at_call 54;refine(Az _ _ (by have:=ah Hz;unfold maxLen;omega)).mono ?_;rintro e w' ⟨rfl,rfl⟩;rw[ah Ht]);go_ret;exact⟨dJ (aaV (ah Hb) hlt (ah Ht)),h3⟩
    | true =>
     have Ht:=aj ht;have Hz:=aj hz;clear ht hcell hz;go_wp2_with (go_at_call 54;refine(Az _ _ (by have:=ah Hz;unfold maxLen;omega)).mono ?_;rintro e w' ⟨rfl,rfl⟩;rw[ah Ht]);go_round
     case rel=>exact⟨k+1,by omega,by go_num,aj (λj h=>by
      rcases akI.1 h with h|h
      ·exact ah hq j h
      ·subst h;exact ah Ht)⟩
     case measure=>simp[intOf];omega
   ·go_wp2;go_ret;exact⟨dJ (XU (ah Hb) (λj hj=>ah hq j (by omega))),h3⟩
def fOk (s:ad)(k:Nat):Bool:=dI (tk (Pl.toks s) k)||(((tk (Pl.toks s) k).toList==[42])||(((tk (Pl.toks s) k).toList==[62])&&decide (k+1=(Pl.toks s).length)))
theorem VR (t:ad)(c:UInt8):(t.data.toList==[c])=(t.toList==[c]):=by
 rw[akM]
theorem aaW (s:ad)(k:Nat):Pl.mZ true (decide (k+1=(Pl.mJ s.data.toList).length)) ((Pl.mJ s.data.toList)[k]?.getD [])=fOk s k:=by
 rw[Pl.yu,<-Pl.bH];unfold Pl.mZ fOk;rw[VR,VR];simp only[dI,tk,akz]
theorem aaX (h:l9 s=false)(hk:k<(Pl.toks s).length)(g:fOk s k=false):aC true s=3:=by
 simp only[l9,akr] at h;exact Pl.Iu (k:=k) (by rwa [<-Pl.bH]) (by rwa [<-Pl.bH]) (by rw[aaW];exact g)
theorem XV (h:l9 s=false)(g:∀k,k<(Pl.toks s).length->fOk s k=true):aC true s=0:=by
 simp only[l9,akr] at h;refine Pl.wW (by rwa [<-Pl.bH]) ?_;simp only[Pl.jd,akS,amc];intro i hi;rw[<-Pl.bH] at hi;rw[aaW];exact g i hi
theorem af9 {b:Bool}(h1:dI (tk (Pl.toks s) k)=a)(h2:((tk (Pl.toks s) k).toList==[42])=b)(h3:((tk (Pl.toks s) k).toList==[62])=c)(h4:decide (k+1=(Pl.toks s).length)=d):fOk s k=(a||(b||(c&&d))):=by
 unfold fOk;rw[h1,h2,h3,h4]
theorem filter_any (s:ad)(w:I)(hs:s.size<=140737488355328) :
 Calls prog 64 #[.string s] w λe w'=>e=.returned (aa (aC true s))/\ai w w':=by
 cases hb:l9 s with
 | true =>
  have Hb:=aj hb;clear hb;go_enter func64,ntmps64;go_wp2_with (go_at_call 52;refine(yV _ _ hs).mono ?_;rintro e w' ⟨rfl,rfl⟩;rw[ah Hb]);go_ret;exact⟨dJ (EM (ah Hb)),agP _ _⟩
 | false =>
  have Hb:=aj hb;have hl:(Pl.toks s).length<=8:=by simpa[l9] using hb
  clear hb;go_enter func64,ntmps64;go_wp2_with (first
   | (go_at_call 52;refine(yV _ _ hs).mono ?_;rintro e w' ⟨rfl,rfl⟩;rw[ah Hb])
   | (go_at_call 53;refine(lI _ _ hs hl).mono ?_;rintro e w1 ⟨b,rfl,h1,h2,h3,h4⟩))
  have hcell:∀k,k<(Pl.toks s).length->w1.cell? (aq b k)=some (.string (tk (Pl.toks s) k)):=λk hk=>by have:=h4 k hk;rwa [ajT] at this
  go_loop [13] (λi=>∃k:Nat,k<=(Pl.toks s).length/\i=aa k/\Hid (∀j,j<k->fOk s j=true)) (λi=>(Pl.toks s).length-(intOf i).toNat)
  case atStart=>exact⟨0,ajO _,rfl,aj (λj h=>absurd h (akh j))⟩
  case round =>
   obtain⟨k,hk,rfl,hq⟩:=hrel;by_cases hlt:k<(Pl.toks s).length
   ·have hc1:=hcell k hlt;have Hz:=aj (Om s k);clear hcell
    cases hp:dI (tk (Pl.toks s) k)<;>cases ha:((tk (Pl.toks s) k).toList==[42])<;>cases hg:((tk (Pl.toks s) k).toList==[62])<;>cases he:decide (k+1=(Pl.toks s).length)
    all_goals first
     | (exfalso;rw[eq_of_beq ha] at hg;revert hg;decide)
     | skip
    all_goals
     have Hf:=aj (af9 hp ha hg he)
     have Hp:=aj hp
     have hlast:((k:Int)==((Pl.toks s).length:Int)-1)=decide (k+1=(Pl.toks s).length):=by rw[akK];simp;omega
     rw[he] at hlast
     clear hp he
     go_wp2_with (go_at_call 54;refine(Az _ _ (by have:=ah Hz;unfold maxLen;omega)).mono ?_;rintro e w' ⟨rfl,rfl⟩;rw[ah Hp])
     first
      | (go_ret;exact⟨dJ (aaX (ah Hb) hlt (ah Hf)),h3⟩)
      | (
       go_round
       case rel=>exact⟨k+1,by omega,by go_num,aj (λj h=>by
        rcases akI.1 h with h|h
        ·exact ah hq j h
        ·subst h;exact ah Hf)⟩
       case measure=>simp[intOf];omega)
   ·go_wp2;go_ret;exact⟨dJ (XV (ah Hb) (λj hj=>ah hq j (by omega))),h3⟩
def DJ (t:ad):Bool:=t.toList==[62]
def stB (t:ad):Bool:=t.toList==[42]
def Ae (a b:ad):Bool:=a.toList==b.toList
def bP:List ad->List ad->Bool
 | [],g=>g.isEmpty
 | _::_,[]=>false
 | f::fs,g::gs=>DJ f||(!DJ g&&((stB f||Ae f g)&&bP fs gs))
def dY:List ad->List ad->Bool
 | [],g=>g.isEmpty
 | _::_,[]=>false
 | f::fs,g::gs=>DJ f||(DJ g||((Ae f g||(stB f||stB g))&&dY fs gs))
def aga:List ad->List ad->Bool
 | [],s=>s.isEmpty
 | _::_,[]=>false
 | f::fs,s::ss=>DJ f||((stB f||Ae f s)&&aga fs ss)
theorem jP (h:k<l.length):l.drop k=tk l k::l.drop (k+1):=by
 rw[ajW h];simp[tk,List.getElem?_eq_getElem h]
theorem Ti (hf:k<f.length)(hg:k<g.length):bP (f.drop k) (g.drop k)=(DJ (tk f k)||(!DJ (tk g k)&&((stB (tk f k)||Ae (tk f k) (tk g k))&&bP (f.drop (k+1)) (g.drop (k+1))))):=by
 rw[jP hf,jP hg,bP]
theorem XW (h:k<=f.length)(h2:k<=g.length)(he:k=f.length\/k=g.length):bP (f.drop k) (g.drop k)=decide (f.length=g.length):=by
 rw[akK];rcases alR k f.length with hf|hf
 ·rw[jP hf,show g.drop k=[] from aki (by omega),bP];simp;omega
 ·rw[aki hf,bP];simp;omega
theorem XY (hf:k<f.length)(hg:k<g.length):dY (f.drop k) (g.drop k)=(DJ (tk f k)||(DJ (tk g k)||((Ae (tk f k) (tk g k)||(stB (tk f k)||stB (tk g k)))&&dY (f.drop (k+1)) (g.drop (k+1))))):=by
 rw[jP hf,jP hg,dY]
theorem aaY (h:k<=f.length)(h2:k<=g.length)(he:k=f.length\/k=g.length):dY (f.drop k) (g.drop k)=decide (f.length=g.length):=by
 rw[akK];rcases alR k f.length with hf|hf
 ·rw[jP hf,show g.drop k=[] from aki (by omega),dY];simp;omega
 ·rw[aki hf,dY];simp;omega
theorem EO {b:Bool}(hq:bP f g=bP (f.drop k) (g.drop k))(hf:k<f.length)(hg:k<g.length)(ha:((tk f k).toList==[62])=a)(hb:((tk g k).toList==[62])=b)(hc:((tk f k).toList==[42])=c)(hd:((tk f k).toList==(tk g k).toList)=d) :
 bP f g=(a||(!b&&((c||d)&&bP (f.drop (k+1)) (g.drop (k+1))))):=by
 rw[hq,Ti hf hg];unfold DJ stB Ae;rw[ha,hb,hc,hd]
theorem vH {b e:Bool}(hq:dY f g=dY (f.drop k) (g.drop k))(hf:k<f.length)(hg:k<g.length)(ha:((tk f k).toList==[62])=a)(hb:((tk g k).toList==[62])=b)(hc:((tk f k).toList==(tk g k).toList)=c)(hd:((tk f k).toList==[42])=d)(he:((tk g k).toList==[42])=e) :
 dY f g=(a||(b||((c||(d||e))&&dY (f.drop (k+1)) (g.drop (k+1))))):=by
 rw[hq,XY hf hg];unfold DJ stB Ae;rw[ha,hb,hc,hd,he]
theorem below_drewN {a:I}(h:Below B a w)(n:Nat):Below B a (w.drewN n):=h.trans ⟨rfl,rfl,rfl,agH _,λ_ _=>rfl⟩
def iW (a b:Int):Int:=if a=0 then b else a
theorem few (h:aC gq s=0):(Pl.toks s).length<=8:=by
 rcases alR 8 (Pl.toks s).length with h2|h2
 ·rw[EM (by simpa[l9] using h2)] at h;omega
 ·exact h2
def aN (f s:ad):Bool:=(aC true f==0&&aC false s==0)&&bP (Pl.toks f) (Pl.toks s)
def aT (f g:ad):Bool:=(aC true f==0&&aC true g==0)&&dY (Pl.toks f) (Pl.toks g)
def ah3 (f g:ad):Bool:=(aC true f==0&&aC true g==0)&&bP (Pl.toks f) (Pl.toks g)
theorem yX {b:Bool}{c d:Int}(h:b=a)(g:d=c):Ending.returned (.tuple #[.bool a,aa c])=.returned (.tuple #[.bool b,aa d]):=by rw[h,g]
theorem iy {a:ad}:Ae a b=true↔a=b:=by
 unfold Ae;rw[alx,akM,akM];exact⟨λh=>amv h,λh=>by rw[h]⟩
theorem qH (a:ad):Ae a a=true:=iy.2 rfl
theorem BN:∀l:List ad,bP l l=true
 | []=>rfl
 | x::l=>by
  rw[bP,BN l,qH]
  cases DJ x<;>simp
theorem XZ (h:DJ x=true):∀{l:List ad},l≠[]->bP [x] l=true
 | [],hl=>absurd rfl hl
 | y::l,_=>by rw[bP,h];rfl
theorem BO :bP (x::f) (y::g)=true↔(DJ x=true\/(DJ y=false/\(stB x=true\/x=y)/\bP f g=true)):=by
 rw[bP];simp only[ali,ajN,alC,iy]
theorem EP :dY (x::f) (y::g)=true↔(DJ x=true\/DJ y=true\/((x=y\/stB x=true\/stB y=true)/\dY f g=true)):=by
 rw[dY];simp only[ali,ajN,iy]
theorem ER :bP [] g=true↔g=[]:=by cases g<;>simp[bP]
theorem Oo :bP (x::f) []=false:=rfl
theorem X6 :dY [] g=true↔g=[]:=by cases g<;>simp[dY]
theorem xE:∀(f g:List ad),dY f g=true->dY g f=true
 | [],g,a=>by obtain rfl:=X6.1 a;rfl
 | x::f,[],a=>by cases a
 | x::f,y::g,a=>by
  rw[EP] at a ⊢;rcases a with a|a|⟨a1,a2⟩
  ·exact Or.inr (Or.inl a)
  ·exact Or.inl a
  ·refine Or.inr (Or.inr ⟨?_,xE f g a2⟩);rcases a1 with rfl|a1|a1
   ·exact Or.inl rfl
   ·exact Or.inr (Or.inr a1)
   ·exact Or.inr (Or.inl a1)
theorem xG (f g:List ad):dY f g=dY g f:=by
 rw[akK];exact⟨xE f g,xE g f⟩
theorem su:∀(f g s:List ad),bP f s=true->bP g s=true->dY f g=true
 | [],g,s,a,b=>by
  obtain rfl:=ER.1 a
  cases g with
  | nil=>rfl
  | cons=>cases b
 | x::f,g,[],a,b=>by cases a
 | x::f,[],y::s,a,b=>by cases b
 | x::f,z::g,y::s,a,b=>by
  rw[BO] at a b;rw[EP];rcases a with a|⟨_,a2,a3⟩
  ·exact Or.inl a
  ·rcases b with b|⟨_,b2,b3⟩
   ·exact Or.inr (Or.inl b)
   ·refine Or.inr (Or.inr ⟨?_,su f g s a3 b3⟩);rcases a2 with a2|rfl
    ·exact Or.inr (Or.inl a2)
    ·rcases b2 with b2|rfl
     ·exact Or.inr (Or.inr b2)
     ·exact Or.inl rfl
def aaZ:List ad->Prop
 | []=>True
 | x::l=>(DJ x=true->l=[])/\aaZ l
theorem ru:∀(f g:List ad),(∀t∈f,DJ t=false/\stB t=false)->(∀t∈g,DJ t=false)->(bP f g=true↔f=g)
 | [],g,_,_=>by rw[ER];exact eq_comm
 | x::f,[],_,_=>by rw[Oo];simp
 | x::f,y::g,p,q=>by
  rw[BO];obtain⟨p1,p2⟩:=p x (by simp);have ih:=ru f g (λt ht=>p t (by simp[ht])) (λt ht=>q t (by simp[ht]));rw[p1,p2,q y (by simp),ih];simp
def I9:List (List UInt8)->List UInt8
 | []=>[]
 | [p]=>p
 | p::q::r=>p++46::I9 (q::r)
theorem AP:∀l:List UInt8,I9 (Pl.mJ l)=l
 | []=>rfl
 | c::r=>by
  have ih:=AP r;rw[Pl.mJ]
  cases e:Pl.mJ r with
  | nil=>exact absurd e (Pl.Kz r)
  | cons p q =>
   rw[e] at ih;by_cases h:c=46
   ·rw[if_pos h,I9,ih,h];rfl
   ·rw[if_neg h,alv]
    cases q with
    | nil=>rw[I9] at ih ⊢;rw[ih]
    | cons a b=>rw[I9] at ih ⊢;rw[akx,ih]
theorem yY (h:Pl.toks s=Pl.toks t):s=t:=by
 have e:=congrArg (List.map (·.data.toList)) h;rw[Pl.qp,Pl.qp] at e;have e2:=congrArg I9 e;rw[AP,AP] at e2;exact amv e2
theorem KZ (h:aC gq s=0):¬8<(Pl.mJ s.data.toList).length/\Pl.jd gq (Pl.mJ s.data.toList) (Pl.mJ s.data.toList).length=true:=by
 unfold aC Pl.errOf at h;split at h
 ·omega
 ·rename_i h8;split at h
  ·rename_i hg;exact⟨h8,hg⟩
  ·omega
theorem agb (h:aC gq s=0)(hk:k<(Pl.toks s).length):Pl.mZ gq (decide (k+1=(Pl.mJ s.data.toList).length)) (tk (Pl.toks s) k).data.toList=true:=by
 have g:=(KZ h).2;simp only[Pl.jd,akS,amc] at g;have:=g k (by rw[<-Pl.bH];exact hk);rw[Pl.yu] at this;exact this
theorem kR (h:aC false s=0):aC true s=0:=by
 obtain⟨h8,hg⟩:=KZ h;refine Pl.wW h8 ?_;simp only[Pl.jd,akS,amc] at hg ⊢;intro i hi;have:=hg i hi;simp only[Pl.mZ,akH,anc] at this;simp[Pl.mZ,this]
theorem Tj (h:dI t=true):DJ t=false/\stB t=false:=by
 refine⟨?_,?_⟩
 ·cases e:DJ t with
  | false=>rfl
  | true =>
   unfold DJ at e;rw[akM] at e;unfold dI at h;rw[eq_of_beq e] at h;revert h
   decide
 ·cases e:stB t with
  | false=>rfl
  | true =>
   unfold stB at e;rw[akM] at e;unfold dI at h;rw[eq_of_beq e] at h;revert h
   decide
theorem lV (h:aC false s=0):∀t∈Pl.toks s,DJ t=false/\stB t=false:=by
 intro t ht;obtain⟨k,hk,rfl⟩:=akq.1 ht;have:=agb h hk;simp only[Pl.mZ,akH,anc] at this;have e:tk (Pl.toks s) k=(Pl.toks s)[k]:=by simp[tk,List.getElem?_eq_getElem hk]
 rw[e] at this;exact Tj this
theorem aeg:aC true ⟨#[62]⟩=0/\Pl.toks ⟨#[62]⟩=[⟨#[62]⟩]:=by decide +kernel
theorem Oq (h:aC false s=0):aN s s=true:=by
 unfold aN;rw[h,kR h,BN];rfl
theorem Dh (h:aC false s=0)(g:aC false t=0):aN s t=(s.toList==t.toList):=by
 have e:aN s t=bP (Pl.toks s) (Pl.toks t):=by unfold aN;rw[kR h,g];rfl
 rw[e,akK,ru _ _ (lV h) (λx hx=>(lV g x hx).1)];refine⟨λhe=>?_,λhe=>?_⟩
 ·rw[yY he];simp
 ·rw[iy.1 he]
theorem Ib {f g:ad}(a:aN f s=true)(b:aN g s=true):aT f g=true:=by
 unfold aN at a b;simp only[ajN] at a b;unfold aT;rw[a.1.1,b.1.1,su _ _ _ a.2 b.2];rfl
theorem yZ (f g:ad):aT f g=aT g f:=by
 unfold aT;rw[xG,Bool.and_comm (aC true f==0)]
theorem X9 (bf bg:Nat)(f g:List ad)(w:I)(hf:Row w bf 0 f)(hg:Row w bg 0 g)(nf:f.length<=8) :
 Calls prog 65 #[.slice (some ⟨bf,0,none⟩) f.length f.length,.slice (some ⟨bg,0,none⟩) g.length g.length] w λe w'=>e=.returned (.bool (bP f g))/\∃n,w'=w.drewN n:=by
 have Hf:=aj hf;have Hg:=aj hg;clear hf hg;go_enter func65,ntmps65;go_wp2;go_loopw [11] (λi wr=>∃k:Nat,k<=f.length/\k<=g.length/\i=aa k/\Hid (bP f g=bP (f.drop k) (g.drop k))/\∃n,wr=w.drewN n) (λi _=>f.length-(intOf i).toNat)
 case atStart=>exact⟨0,ajO _,ajO _,rfl,aj rfl,0,rfl⟩
 case round =>
  obtain⟨k,hk,hk2,rfl,hq,n,rfl⟩:=hrel;by_cases hlt:k<f.length/\k<g.length
  ·obtain⟨h1,h2⟩:=hlt;have hc1:w.cell? (aq bf k)=some (.string (tk f k)):=by have:=ah Hf k h1;rwa [ajT] at this
   have hc2:w.cell? (aq bg k)=some (.string (tk g k)):=by have:=ah Hg k h2;rwa [ajT] at this
   have hmin:(k:Int)<min (f.length:Int) (g.length:Int):=by omega
   cases ha:((tk f k).toList==[62])
   ·cases hb:((tk g k).toList==[62])
    ·cases hc:((tk f k).toList==[42])
     ·cases hd:((tk f k).toList==(tk g k).toList)
      ·have R:=aj (EO (ah hq) h1 h2 ha hb hc hd);go_wp2;go_quiet (fail)
       go_wp2;go_ret;exact⟨iq (ah R),_,World.drewN_drewN _ _ _⟩
      ·have R:=aj (EO (ah hq) h1 h2 ha hb hc hd);go_wp2;go_quiet (fail)
       go_wp2;exact⟨⟨k+1,by omega,by omega,by go_num,aj (ah R),_,rfl⟩,by simp[intOf];omega⟩
     ·have R:=aj (EO (ah hq) h1 h2 ha hb hc rfl);go_wp2;go_quiet (fail)
      go_wp2;exact⟨⟨k+1,by omega,by omega,by go_num,aj (ah R),_,rfl⟩,by simp[intOf];omega⟩
    ·have R:=aj (EO (ah hq) h1 h2 ha hb rfl rfl);go_wp2;go_ret;exact⟨iq (ah R),_,rfl⟩
   ·have R:=aj (EO (ah hq) h1 h2 ha rfl rfl rfl);go_wp2;go_ret;exact⟨iq (ah R),_,rfl⟩
  ·have hmin:¬(k:Int)<min (f.length:Int) (g.length:Int):=by omega
   have R:=aj ((ah hq).trans (XW hk hk2 (by omega)));go_wp2;go_ret;refine⟨lY ?_,_,rfl⟩;rw[ah R];simp;omega
theorem AQ (f s:ad)(w:I)(hf:f.size<=140737488355328)(hs:s.size<=140737488355328) :
 Calls prog 31 #[.string f,.string s] w λe w'=>e=.returned (.tuple #[.bool (aN f s),aa (iW (aC true f) (aC false s))])/\ai w w':=by
 cases he:((aC true f)==0)
 ·have R:aN f s=false:=by unfold aN;rw[he];rfl
  have R2:iW (aC true f) (aC false s)=aC true f:=if_neg (by simpa using he);have HR:=aj R;have HR2:=aj R2;clear R R2;go_enter func31,ntmps31;go_wp2_with (go_at_call 64;refine(filter_any f _ hf).mono ?_;rintro e w1 ⟨rfl,hb⟩);go_ret2;exact⟨yX (ah HR) (ah HR2),hb⟩
 ·have e0:aC true f=0:=by simpa using he
  have R2:iW (aC true f) (aC false s)=aC false s:=if_pos e0;have HR2:=aj R2;have n1:=few e0;have E0:=aj e0;clear R2 e0
  cases hc:((aC false s)==0)
  ·have R:aN f s=false:=by unfold aN;rw[hc,Bool.and_false];rfl
   have HR:=aj R;clear R;go_enter func31,ntmps31;go_wp2_with fail;refine(filter_any f _ hf).mono ?_;rintro e w1 ⟨rfl,hb⟩;go_wp2_with fail;refine(dQ s _ hs).mono ?_;rintro e w2 ⟨rfl,hb2⟩;go_wp2;go_ret2;exact⟨yX (ah HR) (ah HR2),hb.trans (hb2.mono hb.size)⟩
  ·have R:aN f s=bP (Pl.toks f) (Pl.toks s):=by unfold aN;rw[he,hc];rfl
   have HR:=aj R;have e1:aC false s=0:=by simpa using hc
   have n2:=few e1;have E1:=aj e1;clear R e1;go_enter func31,ntmps31;go_wp2_with fail;refine(filter_any f _ hf).mono ?_;rintro e w1 ⟨rfl,hb⟩;go_wp2_with fail;refine(dQ s _ hs).mono ?_;rintro e w2 ⟨rfl,hb2⟩;go_wp2_with fail;refine(lI f _ hf n1).mono ?_;rintro e w3 ⟨bf,rfl,h1,h2,hb3,hr3⟩;go_wp2_with fail;refine(lI s _ hs n2).mono ?_;rintro e w4 ⟨bs,rfl,h5,h6,hb4,hr4⟩;go_wp2_with fail;refine(X9 bf bs _ _ _ (hr3.below hb4 h2) hr4 n1).mono ?_;rintro e w5 ⟨rfl,n,rfl⟩;go_wp2;go_ret2;have h12:=hb.trans (hb2.mono hb.size);have h13:=h12.trans (hb3.mono h12.size)
   have h14:=h13.trans (hb4.mono h13.size);exact⟨yX (ah HR) (by rw[ah HR2,ah E1]),below_drewN h14 n⟩
theorem Ya {f:ad}{x:Int}(h:aC true f=x)(w:I)(hf:f.size<=140737488355328) :
 Calls prog 64 #[.string f] w λe w'=>e=.returned (aa x)/\ai w w':=by
 subst h;exact filter_any f w hf
theorem Ot {f:ad}{x:Int}(h1:aN f s=a)(h2:iW (aC true f) (aC false s)=x)(hf:f.size<=140737488355328)(hs:s.size<=140737488355328)(w:I) :
 Calls prog 31 #[.string f,.string s] w λe w'=>e=.returned (.tuple #[.bool a,aa x])/\ai w w':=by
 subst h1 h2;exact AQ f s w hf hs
theorem aa0 (bf bg:Nat)(f g:List ad)(w:I)(hf:Row w bf 0 f)(hg:Row w bg 0 g)(nf:f.length<=8) :
 Calls prog 163 #[.slice (some ⟨bf,0,none⟩) f.length f.length,.slice (some ⟨bg,0,none⟩) g.length g.length] w λe w'=>e=.returned (.bool (dY f g))/\∃n,w'=w.drewN n:=by
 have Hf:=aj hf;have Hg:=aj hg;clear hf hg;go_enter func163,ntmps163;go_wp2;go_loopw [11] (λi wr=>∃k:Nat,k<=f.length/\k<=g.length/\i=aa k/\Hid (dY f g=dY (f.drop k) (g.drop k))/\∃n,wr=w.drewN n) (λi _=>f.length-(intOf i).toNat)
 case atStart=>exact⟨0,ajO _,ajO _,rfl,aj rfl,0,rfl⟩
 case round =>
  obtain⟨k,hk,hk2,rfl,hq,n,rfl⟩:=hrel;by_cases hlt:k<f.length/\k<g.length
  ·obtain⟨h1,h2⟩:=hlt;have hc1:w.cell? (aq bf k)=some (.string (tk f k)):=by have:=ah Hf k h1;rwa [ajT] at this
   have hc2:w.cell? (aq bg k)=some (.string (tk g k)):=by have:=ah Hg k h2;rwa [ajT] at this
   have hmin:(k:Int)<min (f.length:Int) (g.length:Int):=by omega
   cases ha:((tk f k).toList==[62])
   ·cases hb:((tk g k).toList==[62])
    ·cases hc:((tk f k).toList==(tk g k).toList)
     ·cases hd:((tk f k).toList==[42])
      ·cases he:((tk g k).toList==[42])
       ·have R:=aj (vH (ah hq) h1 h2 ha hb hc hd he);go_wp2;go_quiet (fail)
        go_wp2;go_ret;exact⟨iq (ah R),_,World.drewN_drewN _ _ _⟩
       ·have R:=aj (vH (ah hq) h1 h2 ha hb hc hd he);go_wp2;go_quiet (fail)
        go_wp2;exact⟨⟨k+1,by omega,by omega,by go_num,aj (ah R),_,rfl⟩,by simp[intOf];omega⟩
      ·have R:=aj (vH (ah hq) h1 h2 ha hb hc hd rfl);go_wp2;go_quiet (fail)
       go_wp2;exact⟨⟨k+1,by omega,by omega,by go_num,aj (ah R),_,rfl⟩,by simp[intOf];omega⟩
     ·have R:=aj (vH (ah hq) h1 h2 ha hb hc rfl rfl);go_wp2;go_quiet (fail)
      go_wp2;exact⟨⟨k+1,by omega,by omega,by go_num,aj (ah R),_,rfl⟩,by simp[intOf];omega⟩
    ·have R:=aj (vH (ah hq) h1 h2 ha hb rfl rfl rfl);go_wp2;go_ret;exact⟨iq (ah R),_,rfl⟩
   ·have R:=aj (vH (ah hq) h1 h2 ha rfl rfl rfl rfl);go_wp2;go_ret;exact⟨iq (ah R),_,rfl⟩
  ·have hmin:¬(k:Int)<min (f.length:Int) (g.length:Int):=by omega
   have R:=aj ((ah hq).trans (aaY hk hk2 (by omega)));go_wp2;go_ret;refine⟨lY ?_,_,rfl⟩;rw[ah R];simp;omega
theorem both_any (f g:ad)(w:I)(hf:f.size<=140737488355328)(hg:g.size<=140737488355328) :
 Calls prog 162 #[.string f,.string g] w λe w'=>e=.returned (aa (iW (aC true f) (aC true g)))/\ai w w':=by
 cases he:((aC true f)==0)
 ·go_enter func162,ntmps162;go_wp2_with (go_at_call 64;refine(filter_any f _ hf).mono ?_;rintro e w1 ⟨rfl,hb⟩);go_ret;exact⟨dJ (if_neg (by simpa using he)),hb⟩
 ·have e0:aC true f=0:=by simpa using he
  have E0:=aj e0;go_enter func162,ntmps162;clear e0;go_wp2_with fail;refine(filter_any f _ hf).mono ?_;rintro e w1 ⟨rfl,hb⟩;go_wp2_with fail;refine(filter_any g _ hg).mono ?_;rintro e w2 ⟨rfl,hb2⟩;go_wp2;go_ret;exact⟨dJ (if_pos (ah E0)),hb.trans (hb2.mono hb.size)⟩
theorem Ou (f g:ad)(w:I)(hf:f.size<=140737488355328)(hg:g.size<=140737488355328) :
 Calls prog 123 #[.string f,.string g] w λe w'=>e=.returned (.tuple #[.bool (aT f g),aa (iW (aC true f) (aC true g))])/\ai w w':=by
 cases he:(iW (aC true f) (aC true g)==0)
 ·have R:aT f g=false:=by
   unfold aT
   cases h1:(aC true f==0)
   ·rfl
   ·cases h2:(aC true g==0)
    ·rfl
    ·exfalso;unfold iW at he;rw[if_pos (by simpa using h1),h2] at he
     cases he
  have HR:=aj R;clear R;go_enter func123,ntmps123;go_wp2_with fail;refine(both_any f g _ hf hg).mono ?_;rintro e w1 ⟨rfl,hb⟩;go_wp2;go_ret2;exact⟨yX (ah HR) rfl,hb⟩
 ·have h1:(aC true f==0)=true:=by
   cases h1:(aC true f==0)
   ·unfold iW at he;rw[if_neg (by simpa using h1),h1] at he
    cases he
   ·rfl
  have h2:(aC true g==0)=true:=by
   unfold iW at he;rwa [if_pos (by simpa using h1)] at he
  have R:aT f g=dY (Pl.toks f) (Pl.toks g):=by unfold aT;rw[h1,h2];rfl
  have HR:=aj R;have n1:(Pl.toks f).length<=8:=few (gq:=true) (by simpa using h1);have n2:(Pl.toks g).length<=8:=few (gq:=true) (by simpa using h2);have E:=aj (show iW (aC true f) (aC true g)=0 by simpa using he);clear R h1 h2;go_enter func123,ntmps123;go_wp2_with fail;refine(both_any f g _ hf hg).mono ?_;rintro e w1 ⟨rfl,hb⟩;go_wp2_with fail;refine(lI f _ hf n1).mono ?_;rintro e w3 ⟨bf,rfl,h1,h2,hb3,hr3⟩;go_wp2_with fail;refine(lI g _ hg n2).mono ?_;rintro e w4 ⟨bs,rfl,h5,h6,hb4,hr4⟩;go_wp2_with fail;refine(aa0 bf bs _ _ _ (hr3.below hb4 h2) hr4 n1).mono ?_
  rintro e w5 ⟨rfl,n,rfl⟩;go_wp2;go_ret2;have h13:=hb.trans (hb3.mono hb.size);have h14:=h13.trans (hb4.mono h13.size);exact⟨yX (ah HR) (ah E),below_drewN h14 n⟩
theorem xH {f:ad}{x:Int}(h1:aT f s=a)(h2:iW (aC true f) (aC true s)=x)(hf:f.size<=140737488355328)(hs:s.size<=140737488355328)(w:I) :
 Calls prog 123 #[.string f,.string s] w λe w'=>e=.returned (.tuple #[.bool a,aa x])/\ai w w':=by
 subst h1 h2;exact Ou f s w hf hs
def VT (a b:ad):Bool:=Op.bytesLess a.toList b.toList
theorem Ja:∀x:List UInt8,Op.bytesLess x x=false
 | []=>rfl
 | a::x=>by simp[Op.bytesLess,Ja x]
theorem Ov:∀x y z:List UInt8,Op.bytesLess x y=true->Op.bytesLess y z=true->Op.bytesLess x z=true
 | _,[],_,h,_=>by simp[Op.bytesLess] at h
 | _,_::_,[],_,h=>by simp[Op.bytesLess] at h
 | [],_::_,_::_,_,_=>by simp[Op.bytesLess]
 | a::x,b::y,c::z,h,g=>by
  simp only[Op.bytesLess,ali,ajN,ajG,alx] at h g ⊢;rcases h with h|⟨rfl,h⟩
  ·rcases g with g|⟨rfl,g⟩
   ·exact .inl (UInt8.lt_trans h g)
   ·exact .inl h
  ·rcases g with g|⟨rfl,g⟩
   ·exact .inl g
   ·exact .inr ⟨rfl,Ov x y z h g⟩
theorem Ox:∀x y:List UInt8,Op.bytesLess x y=true\/x=y\/Op.bytesLess y x=true
 | [],[]=>.inr (.inl rfl)
 | [],_::_=>.inl (by simp[Op.bytesLess])
 | _::_,[]=>.inr (.inr (by simp[Op.bytesLess]))
 | a::x,b::y=>by
  simp only[Op.bytesLess,ali,ajN,ajG,alx,amD];by_cases e:a=b
  ·subst e;rcases Ox x y with h|h|h
   ·exact .inl (.inr ⟨rfl,h⟩)
   ·exact .inr (.inl ⟨rfl,h⟩)
   ·exact .inr (.inr (.inr ⟨rfl,h⟩))
  ·have:a<b\/b<a:=by
    simp only[UInt8.lt_iff_toNat_lt];have:a.toNat≠b.toNat:=λh=>e (amQ.1 h)
    omega
   rcases this with h|h
   ·exact .inl (.inl h)
   ·exact .inr (.inr (.inl h))
theorem ES (a:ad):VT a a=false:=Ja _
theorem Yb {a c:ad}(h:VT a b=true)(g:VT b c=true):VT a c=true:=Ov _ _ _ h g
theorem Yc {a:ad}(h:Ae a b=false):VT a b=true\/VT b a=true:=by
 rcases Ox a.toList b.toList with h1|h1|h1
 ·exact .inl h1
 ·unfold Ae at h;rw[h1] at h;simp at h
 ·exact .inr h1
def Tm:List ad->List ad->Bool
 | _,[]=>false
 | [],_::_=>true
 | a::f,b::g=>if Ae a b then Tm f g else VT a b
def aa1 (a b:ad):Int:=if VT a b then -1 else if Ae a b then 0 else 1
def cmpL:List ad->List ad->Int
 | [],[]=>0
 | [],_::_=>-1
 | _::_,[]=>1
 | a::f,b::g=>if Ae a b then cmpL f g else if VT a b then -1 else 1
theorem aeh {a:ad}(h:Ae a b=true):aa1 a b=0:=by
 have:=iy.1 h;subst this;simp[aa1,ES,qH]
theorem Oy:∀f g:List ad,decide (cmpL f g<0)=Tm f g
 | [],[]=>rfl
 | [],_::_=>rfl
 | _::_,[]=>rfl
 | a::f,b::g=>by
  unfold cmpL Tm;split
  ·exact Oy f g
  ·cases VT a b<;>rfl
theorem Jb:∀f g:List ad,cmpL f g=0↔f=g
 | [],[]=>by simp[cmpL]
 | [],_::_=>by simp[cmpL]
 | _::_,[]=>by simp[cmpL]
 | a::f,b::g=>by
  unfold cmpL;split
  ·rename_i h;rw[Jb f g,iy.1 h];simp
  ·rename_i h;have hn:¬(a::f=b::g):=λe=>h (by rw[(List.cons.inj e).1];exact qH b)
   refine⟨λe=>?_,λe=>absurd e hn⟩;split at e<;>omega
theorem ET:∀f:List ad,Tm f f=false
 | []=>rfl
 | a::f=>by rw[Tm,if_pos (qH a)];exact ET f
theorem Jc:∀f g h:List ad,Tm f g=true->Tm g h=true->Tm f h=true
 | _,[],_,h,_=>by simp[Tm] at h
 | _,_::_,[],_,h=>by simp[Tm] at h
 | [],_::_,_::_,_,_=>rfl
 | a::f,b::g,c::h,h1,h2=>by
  unfold Tm at h1 h2 ⊢
  cases e1:Ae a b
  ·rw[if_neg (by rw[e1];simp)] at h1
   cases e2:Ae b c
   ·rw[if_neg (by rw[e2];simp)] at h2;have h3:=Yb h1 h2;have:Ae a c=false:=by
     cases e:Ae a c
     ·rfl
     ·rw[iy.1 e,ES] at h3;cases h3
    rw[if_neg (by rw[this];simp)];exact h3
   ·have:=iy.1 e2;subst this;rw[if_neg (by rw[e1];simp)];exact h1
  ·have:=iy.1 e1;subst this;rw[if_pos e1] at h1
   cases e2:Ae a c
   ·rw[if_neg (by rw[e2];simp)] at h2;rw[if_neg (by simp)];exact h2
   ·rw[if_pos e2] at h2;rw[if_pos rfl];exact Jc f g h h1 h2
theorem Jd:∀f g:List ad,Tm f g=true\/f=g\/Tm g f=true
 | [],[]=>.inr (.inl rfl)
 | [],_::_=>.inl rfl
 | _::_,[]=>.inr (.inr rfl)
 | a::f,b::g=>by
  unfold Tm
  cases e:Ae a b
  ·have e':Ae b a=false:=by
    cases e2:Ae b a
    ·rfl
    ·rw[iy.1 e2,qH] at e;cases e
   rw[if_neg (by simp),e',if_neg (by simp)];rcases Yc e with h|h
   ·exact .inl h
   ·exact .inr (.inr h)
  ·have:=iy.1 e;subst this;rw[if_pos rfl,if_pos e];rcases Jd f g with h|h|h
   ·exact .inl h
   ·exact .inr (.inl (by rw[h]))
   ·exact .inr (.inr h)
abbrev aS:=ad×Int
def en (l:List aS)(k:Nat):aS:=l[k]?.getD (ByteArray.empty,0)
def el (e s:ad):Bool:=Tm (Pl.toks e) (Pl.toks s)
def Ord (es:List aS):Prop:=es.Pairwise λa b=>el a.1 b.1=true
def iC (es:List aS):Prop:=Ord es/\es.length<=100/\∀e∈es,aC false e.1=0/\e.1.size<=140737488355328
def place:List aS->ad->Nat
 | [],_=>0
 | e::es,s=>if el e.1 s then place es s+1 else 0
def fB (es:List aS)(s:ad):Bool:=decide (place es s<es.length)&&Ae (en es (place es s)).1 s
theorem La {es:List aS}(h:k<es.length):en es k∈es:=by
 unfold en;rw[ajC h];exact ako h
theorem lJ {es:List aS}(h:k<es.length):en es k=es[k]:=by
 unfold en;rw[ajC h];rfl
theorem lK (s:ad):el s s=false:=ET _
theorem qI {a c:ad}(h:el a b=true)(g:el b c=true):el a c=true:=Jc _ _ _ h g
theorem zf:∀(es:List aS) (s:ad),place es s<=es.length
 | [],_=>agH _
 | e::es,s=>by
  unfold place;have:=zf es s;split<;>simp<;>omega
theorem EU:∀(es:List aS) (s:ad) (j:Nat),j<place es s->el (en es j).1 s=true
 | [],_,j,h=>absurd h (akh j)
 | e::es,s,j,h=>by
  unfold place at h;split at h
  ·rename_i he
   cases j with
   | zero=>exact he
   | succ j=>exact EU es s j (by omega)
  ·omega
theorem EW:∀(es:List aS) (s:ad),place es s<es.length->el (en es (place es s)).1 s=false
 | [],_,h=>absurd h (akh _)
 | e::es,s,h=>by
  unfold place at h ⊢;split at h
  ·rename_i he;rw[if_pos he];exact EW es s (by simpa using h)
  ·rename_i he;rw[if_neg he];exact amL.2 he
theorem AU {es:List aS}(h:Ord es)(hij:i<j)(hj:j<es.length):el (en es i).1 (en es j).1=true:=by
 rw[lJ (by omega),lJ hj];exact ale.1 h i j (by omega) hj hij
theorem aa2 {es:List aS}(h:Ord es)(s:ad)(j:Nat)(h1:place es s<=j)(h2:j<es.length):el (en es j).1 s=false:=by
 have ha:=EW es s (by omega);rcases akX h1 with e|hlt
 ·rw[<-e];exact ha
 ·cases e:el (en es j).1 s
  ·rfl
  ·rw[qI (AU h hlt h2) e] at ha;cases ha
theorem Oz {es:List aS}(hi:i<=es.length)(h1:∀j,j<i->el (en es j).1 s=true)(h2:∀j,i<=j->j<es.length->el (en es j).1 s=false):i=place es s:=by
 rcases Nat.lt_trichotomy i (place es s) with h|h|h
 ·have a:=EU es s i h;have:=zf es s;rw[h2 i (agH _) (by omega)] at a;cases a
 ·exact h
 ·have a:=EW es s (by omega);rw[h1 _ h] at a;cases a
theorem Je {es:List aS}(h:Ord es)(hj:j<es.length)(e:(en es j).1=s):j=place es s:=by
 refine Oz (by omega) (λi hi=>?_) (λi hi hl=>?_)
 ·rw[<-e];exact AU h hi hj
 ·rcases akX hi with q|q
  ·rw[<-q,e];exact lK s
  ·cases x:el (en es i).1 s
   ·rfl
   ·have:=qI (AU h q hl) x;rw[e,lK] at this;cases this
theorem VU {es:List aS}(h:Ord es)(hj:j<es.length)(e:(en es j).1=s):fB es s=true/\place es s=j:=by
 have p:=Je h hj e;refine⟨?_,p.symm⟩;unfold fB;rw[<-p,e,qH];simp[hj]
theorem uh {es:List aS}(h:fB es s=true):place es s<es.length/\(en es (place es s)).1=s:=by
 unfold fB at h;simp only[ajN,ajG] at h;exact⟨h.1,iy.1 h.2⟩
theorem aei {es:List aS}(s:ad)(h:place es s<es.length):fB es s=decide (cmpL (Pl.toks (en es (place es s)).1) (Pl.toks s)=0):=by
 unfold fB;rw[akK];simp only[ajN,ajG,Jb];exact⟨λx=>by rw[iy.1 x.2],λx=>⟨h,iy.2 (yY x)⟩⟩
def iD (es:List aS)(p:Nat)(e:aS):List aS:=es.take p++e::es.drop p
def zh (es:List aS)(p:Nat):List aS:=es.take p++es.drop (p+1)
def Lc (es:List aS)(s:ad):Int:=if aC false s=0 then (if fB es s then 0 else if 100<=es.length then 8 else 0) else aC false s
def rC (es:List aS)(s:ad)(n:Int):List aS:=if aC false s=0 then (if fB es s then es.set (place es s) (s,n) else if 100<=es.length then es else iD es (place es s) (s,n)) else es
def zi (es:List aS)(s:ad):Int:=if aC false s=0 then (if fB es s then 0 else 4) else aC false s
def pF (es:List aS)(s:ad):List aS:=if aC false s=0 then (if fB es s then zh es (place es s) else es) else es
def kT (es:List aS)(s:ad):Int:=if aC false s=0 then (if fB es s then (en es (place es s)).2 else 0) else 0
def qJ (es:List aS)(f:ad):List aS:=es.filter λe=>aN f e.1
theorem wK {es:List aS}{e:aS}(h:p<=es.length):(iD es p e).length=es.length+1:=by
 simp[iD];omega
theorem BP {es:List aS}(h:p<es.length):(zh es p).length=es.length-1:=by
 simp[zh];omega
theorem aej {es:List aS}(h:Ord es)(n:Int)(hn:fB es s=false):Ord (iD es (place es s) (s,n)):=by
 have hb:∀j,place es s<=j->j<es.length->el s (en es j).1=true:=by
  intro j h1 h2;have a:=aa2 h s j h1 h2;rcases Jd (Pl.toks s) (Pl.toks (en es j).1) with x|x|x
  ·exact x
  ·rw[(VU h h2 (yY x).symm).1] at hn;cases hn
  ·unfold el at a;rw[x] at a;cases a
 unfold Ord iD;rw[akO];refine⟨h.sublist (List.take_sublist _ _),?_,?_⟩
 ·rw[akL];refine⟨λa ha=>?_,h.sublist (List.drop_sublist _ _)⟩;obtain⟨j,hj,e⟩:=akq.1 ha;rw[amg] at e;have hl:place es s+j<es.length:=by simpa using (by simp at hj;omega:place es s+j<es.length)
  have:=hb (place es s+j) (by omega) hl;rw[lJ hl,e] at this;exact this
 ·intro a ha b hb';obtain⟨i,hi,e⟩:=akq.1 ha;rw[alB] at e;have hi2:i<place es s/\i<es.length:=by simp at hi;omega
  have h1:=EU es s i hi2.1;rw[lJ hi2.2,e] at h1;rcases akb.1 hb' with q|q
  ·rw[q];exact h1
  ·obtain⟨j,hj,e2⟩:=akq.1 q;rw[amg] at e2;have hl:place es s+j<es.length:=by simp at hj;omega
   have:=hb (place es s+j) (by omega) hl;rw[lJ hl,e2] at this;exact qI h1 this
theorem aek {es:List aS}(h:Ord es)(n:Int)(hs:fB es s=true):Ord (es.set (place es s) (s,n)):=by
 obtain⟨h1,h2⟩:=uh hs;unfold Ord;rw[ale];intro i j hi hj hij;rw[alb] at hi hj;have hk:=AU h hij hj;rw[lJ hi,lJ hj] at hk;rw[lJ h1] at h2;rw[amN,amN];split
 ·rename_i q;subst q;rw[if_neg (by omega)];rw[h2] at hk;exact hk
 ·split
  ·rename_i q;subst q;rw[h2] at hk;exact hk
  ·exact hk
theorem ael {es:List aS}(h:Ord es)(p:Nat):Ord (zh es p):=by
 have e:zh es p=es.eraseIdx p:=by
  unfold zh;rw[List.eraseIdx_eq_take_drop_succ]
 rw[e];exact amM (List.eraseIdx_sublist _ _) h
theorem Yd {es:List aS}{e x:aS}(h:x∈iD es p e):x=e\/x∈es:=by
 unfold iD at h;rcases akg.1 h with h|h
 ·exact .inr (amh h)
 ·rcases akb.1 h with h|h
  ·exact .inl h
  ·exact .inr (akP h)
theorem VW {es:List aS}{x:aS}(h:x∈zh es p):x∈es:=by
 unfold zh at h;rcases akg.1 h with h|h
 ·exact amh h
 ·exact akP h
theorem OA {es:List aS}(h:iC es)(n:Int)(hz:s.size<=140737488355328):iC (rC es s n):=by
 obtain⟨h1,h2,h3⟩:=h;unfold rC;split
 ·rename_i he;split
  ·rename_i hh;refine⟨aek h1 n hh,by rw[alb];exact h2,λe hm=>?_⟩;rcases List.mem_or_eq_of_mem_set hm with q|q
   ·exact h3 e q
   ·rw[q];exact⟨he,hz⟩
  ·rename_i hh;split
   ·exact⟨h1,h2,h3⟩
   ·refine⟨aej h1 n (amL.2 hh),by rw[wK (zf _ _)];omega,λe hm=>?_⟩;rcases Yd hm with q|q
    ·rw[q];exact⟨he,hz⟩
    ·exact h3 e q
 ·exact⟨h1,h2,h3⟩
theorem Ye {es:List aS}(h:iC es)(s:ad):iC (pF es s):=by
 obtain⟨h1,h2,h3⟩:=h;unfold pF;split
 ·split
  ·rename_i hh;have:=(uh hh).1;exact⟨ael h1 _,by rw[BP this];omega,λe hm=>h3 e (VW hm)⟩
  ·exact⟨h1,h2,h3⟩
 ·exact⟨h1,h2,h3⟩
theorem aa3:iC []:=⟨List.Pairwise.nil,by simp,λe h=>by simp at h⟩
