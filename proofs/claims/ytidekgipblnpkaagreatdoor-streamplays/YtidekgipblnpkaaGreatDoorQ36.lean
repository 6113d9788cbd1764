/- A part. -/
import Derived.Test.YtidekgipblnpkaaGreatDoorQ5
import Derived.Test.YtidekgipblnpkaaGreatDoorQ32
set_option maxRecDepth 100000
set_option maxHeartbeats 8000000
namespace Go.Proofs.YtidekgipblnpkaaGreatDoor
open Go.RowKit Go.Proofs.Tryz
namespace Dk
def qw (w wr:World)(B p:Nat)(m:Int)(v ov:Value)(a:Option Addr)(es:List ay)(out:List Rc)(ns:List Int):Prop :=
 ∃vj,aY wr B p m vj es/\aH (jG p v) w wr/\(∀g,vj.ownBlock=some g->v.ownBlock=some g\/w.heap.size<=g)/\aT wr w.heap.size ov out/\pY wr a ns/\(∀g,ov.ownBlock=some g->¬jG p vj g)/\(∀q,a=some q->q.block<wr.heap.size/\¬jG p vj q.block/\ov.ownBlock≠some q.block)
theorem qw.below {w wr w':World}{B p:Nat}{m:Int}{v ov:Value}{a:Option Addr}{es:List ay}{out:List Rc}{ns:List Int}(h:qw w wr B p m v ov a es out ns)(hb:Below wr.heap.size wr w'):qw w w' B p m v ov a es out ns:=by
 obtain⟨vj,h1,h2,h3,h4,h5,h6,h7⟩:=h;exact⟨vj,h1.below hb,h2.trans (aH.aA hb),h3,h4.below hb,h5.below hb,h6,λq hq=>⟨ajc (h7 q hq).1 hb.size,(h7 q hq).2⟩⟩
theorem qw.Kr {w wr:World}{B p:Nat}{m:Int}{v ov:Value}{a:Option Addr}{es es':List ay}{out:List Rc}{ns:List Int}(h:qw w wr B p m v ov a es out ns){fn:FuncId}{args:Array Value}{r:Ending}
 (u:∀vj,aY wr B p m vj es->Calls prog fn args wr λe w'=>e=r/\jm wr w' B p m vj es'):Calls prog fn args wr λe w'=>e=r/\qw w w' B p m v ov a es' out ns:=by
 obtain⟨vj,h1,h2,h3,h4,h5,h6,h7⟩:=h;refine(u vj h1).mono ?_;rintro e w' ⟨he,v2,u1,u2,u3⟩;refine⟨he,v2,u1,h2.more u2 (λi hi z=>?_),λg hg=>?_,h4.bZ u2 h6,h5.bZ u2 (λq hq=>(h7 q hq).2.1),λg hg z=>?_,λq hq=>⟨ajc (h7 q hq).1 u2.size,λz=>?_,(h7 q hq).2.2⟩⟩
 ·rcases z with z|z
  ·exact .inl z
  ·rcases h3 i z with y|y
   ·exact .inr y
   ·omega
 ·rcases u3 g hg with z|z
  ·exact h3 g z
  ·exact .inr (aje h2.size z)
 ·rcases z with z|z
  ·exact h6 g hg (.inl z)
  ·rcases u3 g z with y|y
   ·exact h6 g hg (.inr y)
   ·have:=(ajz h4 g hg).2;omega
 ·rcases z with z|z
  ·exact(h7 q hq).2.1 (.inl z)
  ·rcases u3 _ z with y|y
   ·exact(h7 q hq).2.1 (.inr y)
   ·have:=(h7 q hq).1;omega
theorem qw.more {w wr w':World}{B p:Nat}{m:Int}{v ov ov':Value}{a:Option Addr}{es:List ay}{out out':List Rc}{ns:List Int}(h:qw w wr B p m v ov a es out ns)  (hA:aT w' w.heap.size ov' out')(hc:aH (λk=>ov.ownBlock=some k) wr w')(hv:∀g,ov'.ownBlock=some g->ov.ownBlock=some g\/wr.heap.size<=g):qw w w' B p m v ov' a es out' ns:=by
 obtain⟨vj,h1,h2,h3,h4,h5,h6,h7⟩:=h;refine⟨vj,h1.bZ hc (λk hk z=>h6 k z hk),h2.more hc (λi hi z=>?_),h3,hA,h5.bZ hc (λq hq z=>(h7 q hq).2.2 z),λg hg z=>?_,λq hq=>⟨ajc (h7 q hq).1 hc.size,(h7 q hq).2.1,λz=>?_⟩⟩
 ·have:=(ajz h4 i z).1;omega
 ·rcases hv g hg with y|y
  ·exact h6 g y z
  ·rcases z with z|z
   ·have:=h1.lt;omega
   ·have:=(h1.arr.lt g z).2;omega
 ·rcases hv _ z with y|y
  ·exact(h7 q hq).2.2 y
  ·have:=(h7 q hq).1;omega
def AV (r:Rc):Obj:=.cells #[.int .i64 r.k,.int .i64 r.q,.int .i64 r.t,.string r.s,.string r.h,.string r.d] 73
theorem qw.append {w w5:World}{B p:Nat}{m:Int}{v ov:Value}{a:Option Addr}{es:List ay}{out:List Rc}{ns:List Int}(h:qw w w5 B p m v ov a es out ns)(r:Rc)(hl:out.length<=200000) :
 ∃v8 w8,(Builtin.append_ #[39,39] 39 #[ov,.slice (some ⟨w5.heap.size+1,0,none⟩) 1 1]).run prog ((w5.alloc (AV r)).alloc (AV r))=.ok v8 w8/\qw w w8 B p m v v8 a es (out++[r]) ns:=by
 have h7:qw w ((w5.alloc (AV r)).alloc (AV r)) B p m v ov a es out ns:=(h.below ((ajb _ _).alloc (Xc _) _)).below ((ajb _ _).alloc (Xc _) _);have A7:aT ((w5.alloc (AV r)).alloc (AV r)) w.heap.size ov out:=by
  obtain⟨vj,_,_,_,h4,_⟩:=h7;exact h4
 have hs7:w.heap.size<=((w5.alloc (AV r)).alloc (AV r)).heap.size:=by
  obtain⟨vj,_,h2,_⟩:=h7;exact h2.size
 obtain⟨v8,w8,hrun,A8,C8,L8⟩:=iQ ((w5.alloc (AV r)).alloc (AV r)) w.heap.size 39 ov out [r] A7 ⟨(w5.alloc (AV r)).heap.size,0,none⟩ 1 (qB (w5.alloc (AV r)) r) (by simp;omega) hs7;have e:(w5.alloc (AV r)).heap.size=w5.heap.size+1:=by simp
 rw[e] at hrun;exact⟨v8,w8,hrun,h7.more A8 C8 L8⟩
theorem qw.num {w wr:World}{B p:Nat}{m:Int}{v ov:Value}{a:Option Addr}{es es0:List ay}{out:List Rc}(h:qw w wr B p m v ov a es out (aP es0)){i b o:Nat}(ha:a=some ⟨b,o,none⟩)(hi:i<es0.length):wr.cell? ⟨b,o+i,none⟩=some (.int .i64 (pa es0 i).n):=by
 obtain⟨vj,_,_,_,_,sl,_⟩:=h;obtain⟨b',o',h1,_,h3⟩:=sl i (by unfold aP;rw[akw];exact hi);rw[ha] at h1
 cases h1
 rw[h3];unfold nth aP;rw[akK,ajl hi,fZ hi];rfl
def Told (w w':World)(B p:Nat)(m:Int)(v ov:Value)(es':List ay)(out:List Rc):Prop:=∃v',aT w' w.heap.size ov out/\aY w' B p m v' es'/\aH (jG p v) w w'/\(∀g,v'.ownBlock=some g->v.ownBlock=some g\/w.heap.size<=g)/\∀g,ov.ownBlock=some g->¬jG p v' g
theorem qw.told {w wr:World}{B p:Nat}{m:Int}{v ov:Value}{a:Option Addr}{es:List ay}{out:List Rc}{ns:List Int}(h:qw w wr B p m v ov a es out ns):Told w wr B p m v ov es out:=by
 obtain⟨vj,h1,h2,h3,h4,h5,h6,h7⟩:=h;exact⟨vj,h4,h1,h2,h3,h6⟩
theorem WS (B p:Nat)(m:Int)(v:Value)(es:List ay)(w:World)(hk:aY w B p m v es)(ht:Tidy m es)(hm:m<=65536)(hB:B<=w.heap.size) :
 Calls prog 122 #[.pointer (some ⟨p,0,none⟩)] w λe w'=>∃ov,e=.returned ov/\Told w w' B p m v ov (bQ es).2 (bQ es).1:=by
 have Hk:=aj hk;have HT:=aj ht;have hfew:=ht.iW;have hfit:=ht.fits;clear hk ht;go_enter func122,ntmps122;go_wp2_with fail;refine(aby B p m v es w (ah Hk) (by omega)).mono ?_;rintro e w1 ⟨nv,rfl,nm,b1⟩;obtain⟨a,c,rfl,sl⟩:=nm.sl;have hln:(aP es).length=es.length:=by unfold aP;rw[akw]
 have T1:Hid (qw w w1 B p m v (.slice none 0 0) a es [] (aP es)):=aj (by
  refine⟨v,(ah Hk).below b1,aH.aA b1,λ_ h=>.inl h,aT.empty _ _,sl,λg hg=>(by cases hg),λq hq=>?_⟩;have hlt:=ajz nm q.block (by rw[hq];rfl);refine⟨hlt.2,λz=>?_,λz=>by cases z⟩;rcases z with z|z
  ·have:=(ah Hk).lt;omega
  ·have:=((ah Hk).arr.lt _ z).2;omega)
 rw[hln];clear nm sl b1 hln;go_wp2_with fail;go_loopw [3,5] (λov iv wr=>∃(i:Nat) (acc:List Rc),iv=.int .i64 i/\i<=es.length/\acc.length<=65536/\Hid (Reads es i acc)/\Hid (qw w wr B p m v ov a es acc (aP es))) (λ_ iv _=>es.length-(intOf iv).toNat)
 case atStart=>exact⟨0,[],rfl,ajm _,ajm _,aj (Reads.start es),T1⟩
 case round =>
  clear T1;obtain⟨i,acc,rfl,hi,hacc,R2,T2⟩:=hrel;by_cases hlt:i<es.length
  ·obtain⟨ba,oa,rfl,hba,c1⟩:∃b o,a=some ⟨b,o,none⟩/\b<wr.heap.size/\wr.cell? ⟨b,o+i,none⟩=some (.int .i64 (pa es i).n):=by
    obtain⟨vj,_,_,_,_,sl,_⟩:=ah T2;obtain⟨b,o,h1,h2,h3⟩:=sl i (by unfold aP;rw[akw];exact hlt);rw[NV hlt] at h3;exact⟨b,o,h1,h2,h3⟩
   have PR:Hid (Calls prog 162 #[.pointer (some ⟨p,0,none⟩),.int .i64 (pa es i).n] wr λe w'=>e=.returned (.tuple #[.string (pa es i).text,.int .i64 0])/\Below wr.heap.size wr w'):=aj (by
    obtain⟨vj,h1,_⟩:=ah T2;have:=abw B p m vj es (pa es i).n wr h1 (by omega);rw[Ir (ah HT) hlt] at this;exact this)
   have hu:=oU (iD hlt);obtain⟨tx,htx⟩:∃tx,tx=(pa es i).text:=⟨_,rfl⟩;rw[<-htx] at PR hu;have HX:=aj htx;clear htx;go_wp2_with fail;refine(ah PR).mono ?_;rintro e w3 ⟨rfl,b3⟩;have T3:=aj ((ah T2).below b3);clear b3 PR c1 hba;go_wp2_with fail;go_loopw [3,8] (λov pv wr2=>∃(k:Nat) (rs:List Rc),pv=.int .i64 k/\k<=tx.size/\Hid (Dk.Read tx.data.toList k rs)/\Hid (qw w wr2 B p m v ov (some ⟨ba,oa,none⟩) es (acc++rs) (aP es))) (λ_ pv _=>tx.size-(intOf pv).toNat)
   case atStart=>exact⟨0,[],rfl,ajm _,aj (Dk.Read.start _),by rw[ake];exact T3⟩
   case round =>
    clear T3 T2;obtain⟨k,rs,rfl,hkt,R4,T4⟩:=hrel;have hll:tx.data.toList.length=tx.size:=by simp
    by_cases hk2:k<tx.size
    ·have hk3:k<tx.data.toList.length:=by omega
     have hrs:rs.length<=65536:=by have:=(ah R4).len;omega
     have hlen:(acc++rs).length<=200000:=by rw[ajh];omega
     have Hlen:=aj hlen;clear hlen hrs;obtain⟨r0,n0,e0,hdec⟩:∃r0 n0 e0,Pk.dec (tx.data.toList.drop k)=(r0,n0,e0):=⟨_,_,_,rfl⟩;obtain⟨r,hr⟩:∃r,r=Ky r0:=⟨_,rfl⟩;have HD:Hid (uY (tx.extract k tx.size).data.toList=.tuple #[.agg #[.int .i64 r.k,.int .i64 r.q,.int .i64 r.t,.string r.s,.string r.h,.string r.d],.int .i64 n0,.int .i64 e0]):=aj (by rw[QE,hr];exact iV hdec);by_cases he:e0=0
     ·have hd0:(Pk.dec (tx.data.toList.drop k)).2.2=0:=by rw[hdec];exact he
      have hpos:=zq hd0;have HS:=aj ((ah R4).step hk3 hd0);rw[hdec,<-hr] at HS;rw[hdec,ajp] at hpos;simp only at hpos HS;subst he;have hw1:IntKind.i64.wrap ((k:Int)+(n0:Int))=((k+n0:Nat):Int):=by rw[ajq];omega
      clear hd0 hdec hr;go_wp2_with fail;refine(AU _ _ (by simp;omega)).mono ?_;rintro e w5 ⟨rfl,b5⟩;rw[ah HD];obtain⟨v8,w8,hrun,t8⟩:=((ah T4).below b5).append r (ah Hlen);rw[ajW] at t8;have T8:=aj t8;unfold AV at hrun;have nU:=aj hrun;clear b5 t8 T4 hrun;go_wp2_with (at_builtin;refine ajy _ rfl _ _ _ _ rfl _ _ rfl rfl _ _ (ah nU) ?_);clear nU;refine⟨⟨k+n0,rs++[r],by simp,by omega,HS,T8⟩,?_⟩;simp[intOf];omega
     ·have hE2:¬(e0=0):=he;have hE':(e0 !=0)=true:=by simp[he]
      have hd0:(Pk.dec (tx.data.toList.drop k)).2.2≠0:=by rw[hdec];exact he
      have HS:=aj ((ah R4).bad hk3 hd0);have HO:Hid (bQ es=(acc++rs,es.take i++[l7 (pa es i) k])):=aj ((ah R2).bad hlt (by rw[<-ah HX];exact ah HS));have HC:=aj (XO (ah HT) (k:=k) hlt (by rw[<-ah HX];omega));have hw1:IntKind.i64.wrap ((i:Int)+1)=((i+1:Nat):Int):=by rw[ajq];omega
      clear hd0 hdec hr HS R4 he;go_wp2_with fail;refine(AU _ _ (by simp;omega)).mono ?_;rintro e w5 ⟨rfl,b5⟩;rw[ah HD];have T6:=aj (((ah T4).below b5).below ((ajb _ _).alloc (Xc _) (.cells #[.int .i64 r.k,.int .i64 r.q,.int .i64 r.t,.string r.s,.string r.h,.string r.d] 73)));have c6:=(ah T6).num rfl hlt;have PC:=aj ((ah T6).Kr (λvj hj=>aeT B p m vj es (pa es i).n (k:Int) _ hj (by omega)));rw[(ah HC).1,(ah HC).2] at PC;clear b5 T4 HD HC;go_wp2_with fail;refine(ah PC).mono ?_;rintro e w7 ⟨rfl,t7⟩;have T7:=aj t7;clear t7 PC c6 T6
      go_wp2_with fail;go_loopw [12] (λjv wr3=>∃(j:Nat),jv=.int .i64 j/\i<j/\j<=es.length/\Hid (qw w wr3 B p m v u3 (some ⟨ba,oa,none⟩) (es.take i++l7 (pa es i) k::es.drop j) (acc++rs) (aP es))) (λjv _=>es.length-(intOf jv).toNat)
      case atStart=>exact⟨i+1,by simp,by omega,by omega,T7⟩
      case round =>
       clear T7;obtain⟨j,rfl,hij,hj,T8⟩:=hrel;by_cases hj2:j<es.length
       ·have c8:=(ah T8).num rfl hj2;have hl8:(es.take i++l7 (pa es i) k::es.drop j).length<=100:=by simp;omega
        have hB8:B<=wr.heap.size:=by
         obtain⟨_,_,h2,_⟩:=ah T8;exact aje hB h2.size
        have PR:=aj ((ah T8).Kr (λvj hv=>UZ B p m vj _ (pa es j).n _ hv hl8 hB8));rw[abo (ah HT) hij hj2] at PR;have hw2:IntKind.i64.wrap ((j:Int)+1)=((j+1:Nat):Int):=by rw[ajq];omega
        clear hl8 hB8 T8;go_wp2_with fail;refine(ah PR).mono ?_;rintro e w9 ⟨rfl,t9⟩;have T9:=aj t9;clear t9 PR c8;go_wp2_with fail;refine⟨⟨j+1,by simp,by omega,by omega,T9⟩,?_⟩;simp[intOf];omega
       ·have T9:Hid (qw w wr B p m v u3 (some ⟨ba,oa,none⟩) (es.take i++[l7 (pa es i) k]) (acc++rs) (aP es)):=by
         have:=T8;rw[amd (by omega)] at this;exact this
        clear T8;go_wp2_with fail;go_ret;refine⟨_,rfl,?_⟩;rw[ah HO];exact(ah T9).told
    ·have HR:=aj ((ah R4).done (by omega));have HS:=aj ((ah R2).step (rs:=rs) hlt (by rw[<-ah HX];exact ah HR));have hl2:(acc++rs).length<=65536:=by have:=(ah HS).len;omega
     clear HR R4 R2;go_wp2_with fail;refine⟨⟨i+1,acc++rs,by go_num,by omega,hl2,HS,T4⟩,?_⟩;simp[intOf];omega
  ·have HR:=aj ((ah R2).done hlt);go_wp2_with fail;go_ret;refine⟨_,rfl,?_⟩;rw[ah HR];exact(ah T2).told
