/- A part. -/
import Derived.Test.YtebofkkfbkodiaaGreatDoorQ17
import Derived.Deep.RegionHeldLaw
set_option maxRecDepth 100000
set_option maxHeartbeats 8000000
namespace Go.Proofs.YtebofkkfbkodiaaGreatDoor
open Go.RowKit Go.Proofs.Tryz
variable {w w':I}{b c g:Nat}{n:ad}{a:Option Addr}{x0 x1 x2 x3 x4 x5 x6 x7:Int}
abbrev ptrs (b:Nat):Value:=.agg #[.pointer (some ⟨b,2,none⟩),.pointer (some ⟨b,3,none⟩),.pointer (some ⟨b,4,none⟩),.pointer (some ⟨b,5,none⟩),.pointer (some ⟨b,6,none⟩),.pointer (some ⟨b,7,none⟩),.pointer (some ⟨b,8,none⟩),.pointer (some ⟨b,9,none⟩)]
theorem YF (r:∀i,i<8->w.cell? (aq g i)=some (.pointer (some ⟨b,2+i,none⟩))) :
 (loadVar 209 ⟨g,0,none⟩).run prog w=.ok (ptrs b) w:=by
 have hl:(loadCells ⟨g,0,none⟩ 8).run prog w=.ok #[.pointer (some ⟨b,2,none⟩),.pointer (some ⟨b,3,none⟩),.pointer (some ⟨b,4,none⟩),.pointer (some ⟨b,5,none⟩),.pointer (some ⟨b,6,none⟩),.pointer (some ⟨b,7,none⟩),.pointer (some ⟨b,8,none⟩),.pointer (some ⟨b,9,none⟩)] w :=
  aly (P:=prog) w ⟨g,0,none⟩ [.pointer (some ⟨b,2,none⟩),.pointer (some ⟨b,3,none⟩),.pointer (some ⟨b,4,none⟩),.pointer (some ⟨b,5,none⟩),.pointer (some ⟨b,6,none⟩),.pointer (some ⟨b,7,none⟩),.pointer (some ⟨b,8,none⟩),.pointer (some ⟨b,9,none⟩)] (λj v hv=>by
   rw[RP,ajT];match j,hv with
   | 0,hv=>rw[r 0 (by omega)];simpa using hv
   | 1,hv=>rw[r 1 (by omega)];simpa using hv
   | 2,hv=>rw[r 2 (by omega)];simpa using hv
   | 3,hv=>rw[r 3 (by omega)];simpa using hv
   | 4,hv=>rw[r 4 (by omega)];simpa using hv
   | 5,hv=>rw[r 5 (by omega)];simpa using hv
   | 6,hv=>rw[r 6 (by omega)];simpa using hv
   | 7,hv=>rw[r 7 (by omega)];simpa using hv)
 have hz:Tryz.t209.size=8:=by kernel_rfl
 simp[loadVar,isAgg,sizeOf];rw[hz,hl];rfl
theorem Md {fn:Func}{t:Tmp}{tmps:Array Value}(hf:fn.results=#[.cell t 209])(ha:tmps.getD t undef=ae g)(r:∀i,i<8->w.cell? (aq g i)=some (.pointer (some ⟨b,2+i,none⟩))) :
 (results fn tmps).run prog w=.ok (ptrs b) w:=by
 have ha':tmps[t]?.getD undef=ae g:=by simpa using ha
 simp[results,hf,ha',asAddr,YF r]
theorem uF (b i:Nat)(hi:i<8)(w:I):(Instr.index 209 (ptrs b) (aa (i:Int))).run prog w=.ok (.pointer (some ⟨b,2+i,none⟩)) w:=by
 have:i=0\/i=1\/i=2\/i=3\/i=4\/i=5\/i=6\/i=7:=by omega
 rcases this with rfl|rfl|rfl|rfl|rfl|rfl|rfl|rfl<;>simp[Instr.index,run_underlying underlying209,asIntOf,go_sem]
theorem Uj (w:I)(b:Nat)(T:TypeId):∀i,i<8->(w.alloc (.cells #[.pointer (some ⟨b,2,none⟩),.pointer (some ⟨b,3,none⟩),.pointer (some ⟨b,4,none⟩),.pointer (some ⟨b,5,none⟩),.pointer (some ⟨b,6,none⟩),.pointer (some ⟨b,7,none⟩),.pointer (some ⟨b,8,none⟩),.pointer (some ⟨b,9,none⟩)] T)).drew.cell? (aq w.heap.size i)=some (.pointer (some ⟨b,2+i,none⟩)):=λi hi=>by
 have:i=0\/i=1\/i=2\/i=3\/i=4\/i=5\/i=6\/i=7:=by omega
 rcases this with rfl|rfl|rfl|rfl|rfl|rfl|rfl|rfl<;>simp
theorem Cj (b:Nat)(w:I) :
 Calls prog 132 #[ae b] w λe w'=>e=.returned (ptrs b)/\ai w w':=by
 have HE:=aj (Uj w b 209);go_enter func132,ntmps132;go_wp2_with fail;go_region_held_law (λ_:I=>True) (trivial) (fail)
 go_wp2_with fail;refine ajY (Md rfl rfl (ah HE)) rfl ?_;exact⟨rfl,(ax _ _).drew⟩
def fK (w:I):Prop:=0<w.heap.size/\∀i,i<8->w.cell? (aq 0 (i*2))=some (.string (wd i))/\w.cell? (aq 0 (i*2+1))=some (aa (Dk.nth Pn.fV i))
theorem fK.next (h:fK w)(hb:ai w w'):fK w':=⟨ajz h.1 hb.size,λi hi=>⟨by rw[hb.cell (p:=aq 0 (i*2)) h.1];exact(h.2 i hi).1,by rw[hb.cell (p:=aq 0 (i*2+1)) h.1];exact(h.2 i hi).2⟩⟩
def Cst (w wr:I)(b:Nat)(n:ad)(a:Option Addr)(l:List ad)(c:Nat)(x0 x1 x2 x3 x4 x5 x6 x7:Int):Prop:=Pst w wr b n a l c x0 x1 x2 x3 x4 x5 x6 x7/\fK wr
theorem Cst.next {w wr w':I}{b:Nat}{n:ad}{a:Option Addr}{l:List ad}{c:Nat}{x0 x1 x2 x3 x4 x5 x6 x7:Int}(h:Cst w wr b n a l c x0 x1 x2 x3 x4 x5 x6 x7)(hb:ai wr w'):Cst w w' b n a l c x0 x1 x2 x3 x4 x5 x6 x7:=⟨h.1.next hb,h.2.next hb⟩
theorem PB.num {l:Nat}(r:PB w b n a l c x0 x1 x2 x3 x4 x5 x6 x7):∀i,i<8->w.cell? (aq b (2+i))=some (aa (Dk.nth [x0,x1,x2,x3,x4,x5,x6,x7] i)):=λi hi=>by
 have:i=0\/i=1\/i=2\/i=3\/i=4\/i=5\/i=6\/i=7:=by omega
 rcases this with rfl|rfl|rfl|rfl|rfl|rfl|rfl|rfl
 ·exact r.c2
 ·exact r.c3
 ·exact r.c4
 ·exact r.c5
 ·exact r.c6
 ·exact r.c7
 ·exact r.c8
 ·exact r.c9
abbrev Nb (b i:Nat)(x y:Int)(w:I):Prop:=w.cell? (aq b (2+i))=some (aa x)/\w.cell? (aq 0 (i*2+1))=some (aa y)
theorem Cst.nb {wr:I}{l:List ad}(h:Cst w wr b n a l c x0 x1 x2 x3 x4 x5 x6 x7){i:Nat}(hi:i<8):Nb b i (Dk.nth [x0,x1,x2,x3,x4,x5,x6,x7] i) (Dk.nth Pn.fV i) wr:=⟨h.1.1.num i hi,(h.2.2 i hi).2⟩
theorem CG (n:ad)(a:Option Addr)(l:List ad)(c:Nat)(x0 x1 x2 x3 x4 x5 x6 x7:Int)(w:I)(hn:n.size<=140737488355328)(hsl:gU w a l)(hz:∀k,k<l.length->(tk l k).size<=140737488355328)(hl:l.length<=140737488355328)(hc:l.length<=c)(hG:fK w) :
 Calls prog 87 #[BQ n a l.length c x0 x1 x2 x3 x4 x5 x6 x7] w λe w'=>e=.returned (aa (Pn.aZ ⟨n,l,[x0,x1,x2,x3,x4,x5,x6,x7]⟩))/\ai w w':=by
 have b0:ai w (w.alloc (.cells #[.string n,.slice a l.length c,aa x0,aa x1,aa x2,aa x3,aa x4,aa x5,aa x6,aa x7] 80)):=ax _ _;have Q0:Hid (Cst w (w.alloc (.cells #[.string n,.slice a l.length c,aa x0,aa x1,aa x2,aa x3,aa x4,aa x5,aa x6,aa x7] 80)) w.heap.size n a l c x0 x1 x2 x3 x4 x5 x6 x7):=aj ⟨⟨PB.new w n a l.length c x0 x1 x2 x3 x4 x5 x6 x7 _,hsl.next b0,b0⟩,hG.next b0⟩;have HF:=aj (λ(W:I) (h:gU W a l)=>Pe a l c W h hz hl hc)
 have PN:=aj (λ(W:I)=>FD n W hn);obtain⟨NB,hNB⟩:∃NB,Pn.eF n=NB:=⟨_,rfl⟩;rw[hNB] at PN;obtain⟨FE,hFE⟩:∃FE,Pn.gJ l=FE:=⟨_,rfl⟩;rw[hFE] at HF;obtain⟨R,hR⟩:∃R,Pn.aZ ⟨n,l,[x0,x1,x2,x3,x4,x5,x6,x7]⟩=R:=⟨_,rfl⟩;have HR0:Hid (NB=false->R=3):=aj (λh=>by rw[<-hR,Pn.TG (by rw[show Pn.eF _=NB from hNB];exact h)]);have HR1:Hid (NB=true->R=if FE≠0 then FE else if Pn.gY [x0,x1,x2,x3,x4,x5,x6,x7] Pn.fV=true then 0 else 1):=aj (λh=>by rw[<-hR,<-hFE,Pn.LP (by rw[show Pn.eF _=NB from hNB];exact h)]);rw[hR];clear hNB hFE hR hsl hz hG b0;obtain⟨b,hb⟩:∃b,b=w.heap.size:=⟨_,rfl⟩
 obtain⟨W,hW⟩:∃W,W=w.alloc (.cells #[.string n,.slice a l.length c,aa x0,aa x1,aa x2,aa x3,aa x4,aa x5,aa x6,aa x7] 80):=⟨_,rfl⟩;rw[<-hb,<-hW] at Q0;go_enter func87,ntmps87;go_wp2_with fail;rw[<-hb,<-hW];clear hb hW;refine(ah PN _).mono ?_;rintro e w1 ⟨rfl,rfl⟩;clear PN
 cases NB with
 | false =>
  have HR:=aj (ah HR0 rfl);go_wp2_with fail;go_ret;rw[ah HR];exact⟨rfl,(ah Q0).1.2.2⟩
 | true =>
  have HR2:=aj (ah HR1 rfl);have d1:=(ah Q0).1.1.c1;have PF:=aj (ah HF w1 (ah Q0).1.2.1);clear HR0 HR1 HF;go_wp2_with fail;refine(ah PF).mono ?_;rintro e w2 ⟨rfl,b2⟩;have Q2:=aj ((ah Q0).next b2);clear PF b2 Q0 d1;by_cases Yf:FE=0
  ·subst Yf;rw[if_neg (show ¬(0:Int)≠0 by decide)] at HR2;have PU:=aj (Cj b w2);go_wp2_with fail;refine(ah PU).mono ?_;rintro e w3 ⟨rfl,b3⟩;have Q3:=aj ((ah Q2).next b3);clear PU b3 Q2;obtain⟨v,hv⟩:∃v,v=[x0,x1,x2,x3,x4,x5,x6,x7]:=⟨_,rfl⟩;have hv8:v.length=8:=by rw[hv];rfl
   rw[<-hv] at HR2;have HC:Hid (∀{i:Nat},i<8->∀{W:I},Cst w W b n a l c x0 x1 x2 x3 x4 x5 x6 x7->Nb b i (Dk.nth v i) (Dk.nth Pn.fV i) W):=aj (λhi _ h=>by rw[hv];exact h.nb hi);clear hv;go_wp2_with fail;go_loopw [17] (λiv wr=>∃(i:Nat),iv=aa i/\i<=8/\Hid (Pn.gY v Pn.fV=Pn.gY (v.drop i) (Pn.fV.drop i))/\Hid (Cst w wr b n a l c x0 x1 x2 x3 x4 x5 x6 x7)) (λiv _=>8-(intOf iv).toNat)
   case atStart=>exact⟨0,rfl,ajO _,aj rfl,Q3⟩
   case round =>
    clear Q3;obtain⟨i,rfl,hi,HA,Q3⟩:=hrel;by_cases hlt:i<8
    ·have hix:=uF b i hlt;have Q4:=aj (λ(m:Nat)=>(ah Q3).next (below_drewN (agP _ _) m));obtain⟨k1,k2⟩:=ah HC hlt (ah Q3);have HA2:=aj ((ah HA).trans (Pn.TF (v:=v) (i:=i) (by omega) hv8));obtain⟨x,hx⟩:∃x,Dk.nth v i=x:=⟨_,rfl⟩;obtain⟨y,hy⟩:∃y,Dk.nth Pn.fV i=y:=⟨_,rfl⟩;rw[hx,hy] at HA2;rw[hx] at k1;rw[hy] at k2;clear hx hy HA;by_cases h1:x<0
     ·have gx:decide (x<0)=true:=ajH h1;have HR:Hid (R=1):=aj (by
       have h3:Pn.gY v Pn.fV=false:=by rw[ah HA2,ajE (show ¬0<=x by omega),akH,akH]
       rw[ah HR2,h3];rfl)
      clear HA2 HR2 h1;go_wp2_with fail;go_quiet (fail)
      all_goals go_wp2_with fail
      all_goals go_ret
      all_goals rw[ah HR]
      all_goals exact⟨rfl,(ah Q4 _).1.2.2⟩
     ·have gx:decide (x<0)=false:=ajE h1;by_cases h2:y<x
      ·have gy:decide (y<x)=true:=ajH h2;have HR:Hid (R=1):=aj (by
        have h3:Pn.gY v Pn.fV=false:=by rw[ah HA2,ajE (show ¬x<=y by omega),Bool.and_false,akH]
        rw[ah HR2,h3];rfl)
       clear HA2 HR2 h1 h2;go_wp2_with fail;go_quiet (fail)
       all_goals go_wp2_with fail
       all_goals go_ret
       all_goals rw[ah HR]
       all_goals exact⟨rfl,(ah Q4 _).1.2.2⟩
      ·have gy:decide (y<x)=false:=ajE h2;have HA3:Hid (Pn.gY v Pn.fV=Pn.gY (v.drop (i+1)) (Pn.fV.drop (i+1))):=aj (by rw[ah HA2,ajH (show 0<=x by omega),ajH (show x<=y by omega),akz,akz]);clear HA2 h1 h2;go_wp2_with fail;go_quiet (fail)
       all_goals go_wp2_with fail
       all_goals refine⟨⟨i+1,by go_num,by omega,HA3,aj (ah Q4 _)⟩,?_⟩
       all_goals simp[intOf];omega
    ·obtain rfl:i=8:=by omega
     have HR:Hid (R=0):=aj (by
      have h3:Pn.gY v Pn.fV=true:=by
       rw[ah HA,aki (by omega)];rfl
      rw[ah HR2,if_pos h3])
     clear HA HR2;go_wp2_with fail;go_ret;rw[ah HR];exact⟨rfl,(ah Q3).1.2.2⟩
  ·rw[if_pos Yf] at HR2;have hE':(FE !=0)=true:=by simpa using Yf
   go_wp2_with fail;go_ret;rw[ah HR2];exact⟨rfl,(ah Q2).1.2.2⟩
def uG (w:I):Prop:=1<w.heap.size/\∀i,i<7->w.cell? (aq 1 i)=some (.string (Pn.bs (Tk.hd i)))
theorem uG.next (h:uG w)(hb:ai w w'):uG w':=⟨ajz h.1 hb.size,λi hi=>by rw[hb.cell (p:=aq 1 i) h.1];exact h.2 i hi⟩
abbrev air:Value:=.agg #[.string (Pn.bs (Tk.hd 0)),.string (Pn.bs (Tk.hd 1)),.string (Pn.bs (Tk.hd 2)),.string (Pn.bs (Tk.hd 3)),.string (Pn.bs (Tk.hd 4)),.string (Pn.bs (Tk.hd 5)),.string (Pn.bs (Tk.hd 6))]
theorem Ii (i:Nat)(hi:i<7)(w:I):(Instr.index 233 air (aa (i:Int))).run prog w=.ok (.string (Pn.bs (Tk.hd i))) w:=by
 have:i=0\/i=1\/i=2\/i=3\/i=4\/i=5\/i=6:=by omega
 rcases this with rfl|rfl|rfl|rfl|rfl|rfl|rfl<;>simp[Instr.index,run_underlying underlying233,asIntOf,go_sem]
