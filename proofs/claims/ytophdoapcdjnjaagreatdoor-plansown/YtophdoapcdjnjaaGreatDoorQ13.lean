/- A part. -/
import Derived.Test.YtophdoapcdjnjaaGreatDoorQ11
import Derived.Deep.RegionHeldLaw
set_option maxRecDepth 100000
set_option maxHeartbeats 8000000
namespace Go.Proofs.YtophdoapcdjnjaaGreatDoor
open Go.RowKit Go.Proofs.Tryz
abbrev ptrs (b:Nat):Value:=.agg #[.pointer (some ⟨b,2,none⟩),.pointer (some ⟨b,3,none⟩),.pointer (some ⟨b,4,none⟩),.pointer (some ⟨b,5,none⟩),.pointer (some ⟨b,6,none⟩),.pointer (some ⟨b,7,none⟩),.pointer (some ⟨b,8,none⟩),.pointer (some ⟨b,9,none⟩)]
theorem Md {w:World}{g b:Nat}(r:∀i,i<8->w.cell? ⟨g,i,none⟩=some (.pointer (some ⟨b,2+i,none⟩))) :
 (loadVar 133 ⟨g,0,none⟩).run prog w=.ok (ptrs b) w:=by
 have hl:(loadCells ⟨g,0,none⟩ 8).run prog w=.ok #[.pointer (some ⟨b,2,none⟩),.pointer (some ⟨b,3,none⟩),.pointer (some ⟨b,4,none⟩),.pointer (some ⟨b,5,none⟩),.pointer (some ⟨b,6,none⟩),.pointer (some ⟨b,7,none⟩),.pointer (some ⟨b,8,none⟩),.pointer (some ⟨b,9,none⟩)] w :=
  run_loadCells_list (P:=prog) w ⟨g,0,none⟩ [.pointer (some ⟨b,2,none⟩),.pointer (some ⟨b,3,none⟩),.pointer (some ⟨b,4,none⟩),.pointer (some ⟨b,5,none⟩),.pointer (some ⟨b,6,none⟩),.pointer (some ⟨b,7,none⟩),.pointer (some ⟨b,8,none⟩),.pointer (some ⟨b,9,none⟩)] (λj v hv=>by
   rw[NZ,Nat.zero_add];match j,hv with
   | 0,hv=>rw[r 0 (by omega)];simpa using hv
   | 1,hv=>rw[r 1 (by omega)];simpa using hv
   | 2,hv=>rw[r 2 (by omega)];simpa using hv
   | 3,hv=>rw[r 3 (by omega)];simpa using hv
   | 4,hv=>rw[r 4 (by omega)];simpa using hv
   | 5,hv=>rw[r 5 (by omega)];simpa using hv
   | 6,hv=>rw[r 6 (by omega)];simpa using hv
   | 7,hv=>rw[r 7 (by omega)];simpa using hv)
 have hz:Tryz.t133.size=8:=by kernel_rfl
 simp[loadVar,isAgg,sizeOf];rw[hz,hl];rfl
theorem CP {fn:Func}{t:Tmp}{tmps:Array Value}{w:World}{g b:Nat}(hf:fn.results=#[.cell t 133])(ha:tmps.getD t undef=.pointer (some ⟨g,0,none⟩))(r:∀i,i<8->w.cell? ⟨g,i,none⟩=some (.pointer (some ⟨b,2+i,none⟩))) :
 (results fn tmps).run prog w=.ok (ptrs b) w:=by
 have ha':tmps[t]?.getD undef=.pointer (some ⟨g,0,none⟩):=by simpa using ha
 simp[results,hf,ha',asAddr,Md r]
theorem yx (b i:Nat)(hi:i<8)(w:World):(Instr.index 133 (ptrs b) (.int .i64 (i:Int))).run prog w=.ok (.pointer (some ⟨b,2+i,none⟩)) w:=by
 have:i=0\/i=1\/i=2\/i=3\/i=4\/i=5\/i=6\/i=7:=by omega
 rcases this with rfl|rfl|rfl|rfl|rfl|rfl|rfl|rfl<;>simp[Instr.index,run_underlying underlying133,asIntOf,go_sem]
theorem G8 (w:World)(b:Nat)(T:TypeId):∀i,i<8->(w.alloc (.cells #[.pointer (some ⟨b,2,none⟩),.pointer (some ⟨b,3,none⟩),.pointer (some ⟨b,4,none⟩),.pointer (some ⟨b,5,none⟩),.pointer (some ⟨b,6,none⟩),.pointer (some ⟨b,7,none⟩),.pointer (some ⟨b,8,none⟩),.pointer (some ⟨b,9,none⟩)] T)).drew.cell? ⟨w.heap.size,i,none⟩=some (.pointer (some ⟨b,2+i,none⟩)):=λi hi=>by
 have:i=0\/i=1\/i=2\/i=3\/i=4\/i=5\/i=6\/i=7:=by omega
 rcases this with rfl|rfl|rfl|rfl|rfl|rfl|rfl|rfl<;>simp
theorem Fa (b:Nat)(w:World) :
 Calls prog 73 #[.pointer (some ⟨b,0,none⟩)] w λe w'=>e=.returned (ptrs b)/\Below w.heap.size w w':=by
 have HE:=aj (G8 w b 133);go_enter func73,ntmps73;go_wp2_with fail;go_region_held_law (λ_:World=>True) (trivial) (fail)
 go_wp2_with fail;refine bodyPost_ret (CP rfl rfl (ah HE)) rfl ?_;exact⟨rfl,((Below.refl _ _).alloc (Nat.le_refl _) _).drew⟩
def dZ (w:World):Prop:=0<w.heap.size/\∀i,i<8->w.cell? ⟨0,i*2,none⟩=some (.string (wd i))/\w.cell? ⟨0,i*2+1,none⟩=some (.int .i64 (Dk.nth Pn.dB i))
theorem dZ.next {w w':World}(h:dZ w)(hb:Below w.heap.size w w'):dZ w':=⟨Nat.lt_of_lt_of_le h.1 hb.size,λi hi=>⟨by rw[hb.cell (p:=⟨0,i*2,none⟩) h.1];exact(h.2 i hi).1,by rw[hb.cell (p:=⟨0,i*2+1,none⟩) h.1];exact(h.2 i hi).2⟩⟩
def Cst (w wr:World)(b:Nat)(n:ByteArray)(a:Option Addr)(l:List ByteArray)(c:Nat)(x0 x1 x2 x3 x4 x5 x6 x7:Int):Prop:=Xa w wr b n a l c x0 x1 x2 x3 x4 x5 x6 x7/\dZ wr
theorem Cst.next {w wr w':World}{b:Nat}{n:ByteArray}{a:Option Addr}{l:List ByteArray}{c:Nat}{x0 x1 x2 x3 x4 x5 x6 x7:Int}(h:Cst w wr b n a l c x0 x1 x2 x3 x4 x5 x6 x7)(hb:Below wr.heap.size wr w'):Cst w w' b n a l c x0 x1 x2 x3 x4 x5 x6 x7:=⟨h.1.next hb,h.2.next hb⟩
theorem PB.num {w:World}{b:Nat}{n:ByteArray}{a:Option Addr}{l c:Nat}{x0 x1 x2 x3 x4 x5 x6 x7:Int}(r:PB w b n a l c x0 x1 x2 x3 x4 x5 x6 x7):∀i,i<8->w.cell? ⟨b,2+i,none⟩=some (.int .i64 (Dk.nth [x0,x1,x2,x3,x4,x5,x6,x7] i)):=λi hi=>by
 have:i=0\/i=1\/i=2\/i=3\/i=4\/i=5\/i=6\/i=7:=by omega
 rcases this with rfl|rfl|rfl|rfl|rfl|rfl|rfl|rfl
 ·exact r.c2
 ·exact r.c3
 ·exact r.c4
 ·exact r.c5
 ·exact r.c6
 ·exact r.c7
 ·exact r.c8
 ·exact r.c9
abbrev Nb (b i:Nat)(x y:Int)(w:World):Prop:=w.cell? ⟨b,2+i,none⟩=some (.int .i64 x)/\w.cell? ⟨0,i*2+1,none⟩=some (.int .i64 y)
theorem Cst.nb {w wr:World}{b:Nat}{n:ByteArray}{a:Option Addr}{l:List ByteArray}{c:Nat}{x0 x1 x2 x3 x4 x5 x6 x7:Int}(h:Cst w wr b n a l c x0 x1 x2 x3 x4 x5 x6 x7){i:Nat}(hi:i<8):Nb b i (Dk.nth [x0,x1,x2,x3,x4,x5,x6,x7] i) (Dk.nth Pn.dB i) wr:=⟨h.1.1.num i hi,(h.2.2 i hi).2⟩
theorem Fb (n:ByteArray)(a:Option Addr)(l:List ByteArray)(c:Nat)(x0 x1 x2 x3 x4 x5 x6 x7:Int)(w:World)(hn:n.size<=140737488355328)(hsl:jg w a l)(hz:∀k,k<l.length->(tk l k).size<=140737488355328)(hl:l.length<=140737488355328)(hc:l.length<=c)(hG:dZ w) :
 Calls prog 46 #[uN n a l.length c x0 x1 x2 x3 x4 x5 x6 x7] w λe w'=>e=.returned (.int .i64 (Pn.bT ⟨n,l,[x0,x1,x2,x3,x4,x5,x6,x7]⟩))/\Below w.heap.size w w':=by
 have b0:Below w.heap.size w (w.alloc (.cells #[.string n,.slice a l.length c,.int .i64 x0,.int .i64 x1,.int .i64 x2,.int .i64 x3,.int .i64 x4,.int .i64 x5,.int .i64 x6,.int .i64 x7] 52)):=(Below.refl _ _).alloc (Nat.le_refl _) _;have Q0:Hid (Cst w (w.alloc (.cells #[.string n,.slice a l.length c,.int .i64 x0,.int .i64 x1,.int .i64 x2,.int .i64 x3,.int .i64 x4,.int .i64 x5,.int .i64 x6,.int .i64 x7] 52)) w.heap.size n a l c x0 x1 x2 x3 x4 x5 x6 x7):=aj ⟨⟨PB.new w n a l.length c x0 x1 x2 x3 x4 x5 x6 x7 _,hsl.next b0,b0⟩,hG.next b0⟩;have HF:=aj (λ(W:World) (h:jg W a l)=>ED a l c W h hz hl hc)
 have PN:=aj (λ(W:World)=>xO n W hn);obtain⟨NB,YZ⟩:∃NB,Pn.bD n=NB:=⟨_,rfl⟩;rw[YZ] at PN;obtain⟨FE,ZK⟩:∃FE,Pn.dD l=FE:=⟨_,rfl⟩;rw[ZK] at HF;obtain⟨R,hR⟩:∃R,Pn.bT ⟨n,l,[x0,x1,x2,x3,x4,x5,x6,x7]⟩=R:=⟨_,rfl⟩;have HR0:Hid (NB=false->R=3):=aj (λh=>by rw[<-hR,Pn.GK (by rw[show Pn.bD _=NB from YZ];exact h)]);have HR1:Hid (NB=true->R=if FE≠0 then FE else if Pn.fJ [x0,x1,x2,x3,x4,x5,x6,x7] Pn.dB=true then 0 else 1):=aj (λh=>by rw[<-hR,<-ZK,Pn.BU (by rw[show Pn.bD _=NB from YZ];exact h)]);rw[hR];clear YZ ZK hR hsl hz hG b0;obtain⟨b,hb⟩:∃b,b=w.heap.size:=⟨_,rfl⟩
 obtain⟨W,hW⟩:∃W,W=w.alloc (.cells #[.string n,.slice a l.length c,.int .i64 x0,.int .i64 x1,.int .i64 x2,.int .i64 x3,.int .i64 x4,.int .i64 x5,.int .i64 x6,.int .i64 x7] 52):=⟨_,rfl⟩;rw[<-hb,<-hW] at Q0;go_enter func46,ntmps46;go_wp2_with fail;rw[<-hb,<-hW];clear hb hW;refine(ah PN _).mono ?_;rintro e w1 ⟨rfl,rfl⟩;clear PN
 cases NB with
 | false =>
  have HR:=aj (ah HR0 rfl);go_wp2_with fail;go_ret;rw[ah HR];exact⟨rfl,(ah Q0).1.2.2⟩
 | true =>
  have HR2:=aj (ah HR1 rfl);have d1:=(ah Q0).1.1.c1;have PF:=aj (ah HF w1 (ah Q0).1.2.1);clear HR0 HR1 HF;go_wp2_with fail;refine(ah PF).mono ?_;rintro e w2 ⟨rfl,b2⟩;have Q2:=aj ((ah Q0).next b2);clear PF b2 Q0 d1;by_cases ZL:FE=0
  ·subst ZL;rw[if_neg (show ¬(0:Int)≠0 by decide)] at HR2;have PU:=aj (Fa b w2);go_wp2_with fail;refine(ah PU).mono ?_;rintro e w3 ⟨rfl,b3⟩;have Q3:=aj ((ah Q2).next b3);clear PU b3 Q2;obtain⟨v,hv⟩:∃v,v=[x0,x1,x2,x3,x4,x5,x6,x7]:=⟨_,rfl⟩;have hv8:v.length=8:=by rw[hv];rfl
   rw[<-hv] at HR2;have HC:Hid (∀{i:Nat},i<8->∀{W:World},Cst w W b n a l c x0 x1 x2 x3 x4 x5 x6 x7->Nb b i (Dk.nth v i) (Dk.nth Pn.dB i) W):=aj (λhi _ h=>by rw[hv];exact h.nb hi);clear hv;go_wp2_with fail;go_loopw [17] (λiv wr=>∃(i:Nat),iv=.int .i64 i/\i<=8/\Hid (Pn.fJ v Pn.dB=Pn.fJ (v.drop i) (Pn.dB.drop i))/\Hid (Cst w wr b n a l c x0 x1 x2 x3 x4 x5 x6 x7)) (λiv _=>8-(intOf iv).toNat)
   case atStart=>exact⟨0,rfl,Nat.zero_le _,aj rfl,Q3⟩
   case round =>
    clear Q3;obtain⟨i,rfl,hi,HA,Q3⟩:=hrel;by_cases hlt:i<8
    ·have hix:=yx b i hlt;have Q4:=aj (λ(m:Nat)=>(ah Q3).next (below_drewN (Below.refl _ _) m));obtain⟨k1,k2⟩:=ah HC hlt (ah Q3);have HA2:=aj ((ah HA).trans (Pn.GI (v:=v) (i:=i) (by omega) hv8));obtain⟨x,hx⟩:∃x,Dk.nth v i=x:=⟨_,rfl⟩;obtain⟨y,hy⟩:∃y,Dk.nth Pn.dB i=y:=⟨_,rfl⟩;rw[hx,hy] at HA2;rw[hx] at k1;rw[hy] at k2;clear hx hy HA;by_cases h1:x<0
     ·have gx:decide (x<0)=true:=decide_eq_true h1;have HR:Hid (R=1):=aj (by
       have h3:Pn.fJ v Pn.dB=false:=by rw[ah HA2,decide_eq_false (show ¬0<=x by omega),Bool.false_and,Bool.false_and]
       rw[ah HR2,h3];rfl)
      clear HA2 HR2 h1;go_wp2_with fail;go_quiet (fail)
      all_goals go_wp2_with fail
      all_goals go_ret
      all_goals rw[ah HR]
      all_goals exact⟨rfl,(ah Q4 _).1.2.2⟩
     ·have gx:decide (x<0)=false:=decide_eq_false h1;by_cases h2:y<x
      ·have gy:decide (y<x)=true:=decide_eq_true h2;have HR:Hid (R=1):=aj (by
        have h3:Pn.fJ v Pn.dB=false:=by rw[ah HA2,decide_eq_false (show ¬x<=y by omega),Bool.and_false,Bool.false_and]
        rw[ah HR2,h3];rfl)
       clear HA2 HR2 h1 h2;go_wp2_with fail;go_quiet (fail)
       all_goals go_wp2_with fail
       all_goals go_ret
       all_goals rw[ah HR]
       all_goals exact⟨rfl,(ah Q4 _).1.2.2⟩
      ·have gy:decide (y<x)=false:=decide_eq_false h2;have HA3:Hid (Pn.fJ v Pn.dB=Pn.fJ (v.drop (i+1)) (Pn.dB.drop (i+1))):=aj (by rw[ah HA2,decide_eq_true (show 0<=x by omega),decide_eq_true (show x<=y by omega),Bool.true_and,Bool.true_and]);clear HA2 h1 h2;go_wp2_with fail;go_quiet (fail)
       all_goals go_wp2_with fail
       all_goals refine⟨⟨i+1,by go_num,by omega,HA3,aj (ah Q4 _)⟩,?_⟩
       all_goals simp[intOf];omega
    ·obtain rfl:i=8:=by omega
     have HR:Hid (R=0):=aj (by
      have h3:Pn.fJ v Pn.dB=true:=by
       rw[ah HA,List.drop_of_length_le (by omega)];rfl
      rw[ah HR2,if_pos h3])
     clear HA HR2;go_wp2_with fail;go_ret;rw[ah HR];exact⟨rfl,(ah Q3).1.2.2⟩
  ·rw[if_pos ZL] at HR2;have hE':(FE !=0)=true:=by simpa using ZL
   go_wp2_with fail;go_ret;rw[ah HR2];exact⟨rfl,(ah Q2).1.2.2⟩
