/- A part. -/
import Derived.Test.YtmhbobnfmncdbaaGreatDoorQ14
set_option maxRecDepth 100000
set_option maxHeartbeats 8000000
namespace Go.Proofs.YtmhbobnfmncdbaaGreatDoor
open Go.RowKit Go.Proofs.Tryz
namespace Dk
section
variable {SH:World->Nat->Nat->(Nat->Prop)->bD->Prop}{CH:World->Nat->Nat->(Nat->Prop)->bJ->Prop}{Cs D:Nat->Prop}{w wr w':World}{q b N:Nat}{s:bD}{c c':bJ}
abbrev VJ (d:Gt):Obj:=.cells #[.int .i64 d.q,.string d.s,.string d.d,.int .i64 d.c,.int .i64 d.n,.int .i64 d.l] 47
theorem lg.step (H:aQ SH)(C:bG SH CH)(h:lg SH CH Cs w wr q b s c)(hg:c.Go N)(hN:N<=100000)(hs:s.Ok)(now:Int){o:Option (Rc×Int)}{E:Int}{d:Gt}(e1:aI c s.l now=(c',o,E))(e2:ng c' s.l o=d) :
 Calls prog 13 #[.pointer (some ⟨b,0,none⟩),.pointer (some ⟨q,0,none⟩),.int .i64 now] wr λe w'=>e=.returned (.tuple #[KC d,.int .i64 E])/\(lg SH CH (λk=>Cs k\/k=w'.heap.size) w (w'.alloc (VJ d)) q b s c'/\CB (w'.alloc (VJ d)) w'.heap.size (oz d)/\∃x,x=w'.alloc (VJ d))/\c'.Go (N+1)/\aA (λk=>¬Cs k) wr (w'.alloc (VJ d))/\wr.heap.size<=w'.heap.size:=by
 have hg2:=hg.next hs now;have:=h.next H C hg hN hs now;rw[e1] at this hg2;simp only[e2] at this;refine this.mono ?_;rintro e w' ⟨he,hc,hch⟩;have hb:Below w'.heap.size w' (w'.alloc (VJ d)):=(Below.refl _ _).alloc (Nat.le_refl _) _;exact⟨he,⟨hc.with H C hb (λk hk=>by
  rcases hk with z|z
  ·exact .inl z
  ·exact .inr (by rw[z];simp)),CB.new w' (oz d) _,_,rfl⟩,hg2,hch.trans (aA.of_below hb),hch.size⟩
def Ea:Tk.bH:=⟨⟨#[99]⟩,⟨#[97,46,42]⟩,0,0,2,5,[],0,2,false⟩
def Fg:List Rc:=[nD 1,nD 2,nD 3]
theorem Ye:(fG Fg).l=Fg:=by kernel_rfl
theorem Ig:Tk.gX Ea=0:=by decide +kernel
theorem DC:cu Ea (fG Fg)=1:=by decide +kernel
theorem rd1:aI ⟨Ea,1,[],0⟩ (fG Fg).l 0=(⟨Ea,2,[⟨1,1,5⟩],1⟩,some (nD 1,1),0):=by kernel_rfl
theorem rd2:aI ⟨Ea,2,[⟨1,1,5⟩],1⟩ (fG Fg).l 1=(⟨Ea,3,[⟨1,1,5⟩,⟨2,1,6⟩],2⟩,some (nD 2,1),0):=by kernel_rfl
theorem rd3:aI ⟨Ea,3,[⟨1,1,5⟩,⟨2,1,6⟩],2⟩ (fG Fg).l 2=(⟨Ea,3,[⟨1,1,5⟩,⟨2,1,6⟩],2⟩,none,11):=by kernel_rfl
theorem rd4:aI ⟨Ea,3,[⟨1,1,5⟩,⟨2,1,6⟩],2⟩ (fG Fg).l 5=(⟨Ea,3,[⟨1,2,10⟩,⟨2,1,6⟩],3⟩,some (nD 1,2),0):=by kernel_rfl
def d1R:Gt:=⟨1,⟨#[97,46,98]⟩,⟨#[120]⟩,1,1,2⟩
def d2R:Gt:=⟨2,⟨#[97,46,98]⟩,⟨#[120]⟩,2,1,1⟩
def d4R:Gt:=⟨1,⟨#[97,46,98]⟩,⟨#[120]⟩,3,2,1⟩
theorem ro1:ng ⟨Ea,2,[⟨1,1,5⟩],1⟩ (fG Fg).l (some (nD 1,1))=d1R:=by kernel_rfl
theorem ro2:ng ⟨Ea,3,[⟨1,1,5⟩,⟨2,1,6⟩],2⟩ (fG Fg).l (some (nD 2,1))=d2R:=by kernel_rfl
theorem ro4:ng ⟨Ea,3,[⟨1,2,10⟩,⟨2,1,6⟩],3⟩ (fG Fg).l (some (nD 1,2))=d4R:=by kernel_rfl
theorem JQ (H:aQ SH)(C:bG SH CH)(w:World) :
 Calls prog 25 #[] w λe w'=>e=.returned (.bool true)/\Below w.heap.size w w':=by
 have hok:=Ag Fg;go_enter func25,ntmps25;go_wp2_with fail;refine(note_any 1 w).mono ?_;rintro e w1 ⟨rfl,b1⟩;have B1:=aj b1;clear b1;go_wp2_with fail;refine(note_any 2 w1).mono ?_;rintro e w2 ⟨rfl,b2⟩;have B2:=aj (ay (ah B1) b2);clear b2 B1;go_wp2_with fail;refine(note_any 3 w2).mono ?_;rintro e w3 ⟨rfl,b3⟩;have B3':=aj (ay (ah B2) b3);clear b3 B2;have S3:=aj (NR w3 Fg 33);have B3:=aj (ay (ah B3') ((Below.refl _ w3).alloc (Nat.le_refl _) (.cells (aC Fg).toArray 33)));have PF:=aj (wu H Fg (some ⟨w3.heap.size,0,none⟩) 3 _ (ah S3) (λk hk=>by
  match k,hk with
  | 0,_=>exact⟨by decide,by decide,by decide⟩
  | 1,_=>exact⟨by decide,by decide,by decide⟩
  | 2,_=>exact⟨by decide,by decide,by decide⟩) (by decide))
 go_wp2_with fail;refine(ah PF).mono ?_;rintro e w4 ⟨q,rfl,m4⟩;obtain⟨F,f4,hb4⟩:=m4;have hsz3:=(ah B3).size;have PN:Hid (Calls prog 10 #[.agg #[.string ⟨#[99]⟩,.string ⟨#[97,46,42]⟩,.int .i64 0,.int .i64 0,.int .i64 2,.int .i64 5,.slice none 0 0,.int .i64 0,.int .i64 2,.bool false],.pointer (some ⟨q,0,none⟩)] w4 λe w'=>∃b,e=.returned (.tuple #[.pointer (some ⟨b,0,none⟩),.int .i64 0])/\lg SH CH (λ_=>False) w w' q b (fG Fg) ⟨Ea,1,[],0⟩):=aj (by
  have:=lg.new (w:=w) (Cs:=λ_=>False) H C Ea none 0 ⟨by decide,by decide,by decide⟩ (λk hk=>absurd hk (Nat.not_lt_zero k)) Ig f4 hok ⟨hsz3,hb4.size⟩ ((ah B3).trans (hb4.mono hsz3)) (λ_ z=>z.elim);rw[DC] at this;exact this.mono (λe w' h=>h.1))
 have VK:Hid ((⟨Ea,1,[],0⟩:bJ).Go 0):=aj (by
  have:=bJ.Go.new Ig ⟨by decide,by decide,by decide⟩ hok;rwa [DC] at this)
 clear f4 hb4 hsz3 PF S3 B3 B3';go_wp2_with fail;refine(ah PN).mono ?_;rintro e w5 ⟨b,rfl,h5⟩;have P1:Hid (Calls prog 13 #[.pointer (some ⟨b,0,none⟩),.pointer (some ⟨q,0,none⟩),.int .i64 0] w5 λe w'=>e=.returned (.tuple #[.agg #[.int .i64 1,.string ⟨#[97,46,98]⟩,.string ⟨#[120]⟩,.int .i64 1,.int .i64 1,.int .i64 2],.int .i64 0])/\_):=aj (h5.step H C (ah VK) (by omega) hok 0 rd1 ro1);clear PN h5 VK;go_wp2_with fail;refine(ah P1).mono ?_;rintro e w6 ⟨rfl,⟨h6,VL,W6,YV⟩,hg6,_⟩;rw[<-YV] at h6 VL;have P2:Hid (Calls prog 13 #[.pointer (some ⟨b,0,none⟩),.pointer (some ⟨q,0,none⟩),.int .i64 1] W6 λe w'=>e=.returned (.tuple #[.agg #[.int .i64 2,.string ⟨#[97,46,98]⟩,.string ⟨#[120]⟩,.int .i64 2,.int .i64 1,.int .i64 1],.int .i64 0])/\_):=aj (h6.step H C hg6 (by omega) hok 1 rd2 ro2)
 have wH:=aj VL;clear P1 h6 hg6 VL;go_upto_region 6 with fail
 rw[show w6.alloc (.cells #[.int .i64 1,.string ⟨#[97,46,98]⟩,.string ⟨#[120]⟩,.int .i64 1,.int .i64 1,.int .i64 2] 47)=W6 from YV.symm];clear YV;go_wp2_with fail;refine(ah P2).mono ?_;rintro e w7 ⟨rfl,⟨h7,Uo,W7,OO⟩,hg7,AO,_⟩;rw[<-OO] at h7 Uo AO;have Xc:=aj ((ah wH).aT AO (λz=>z (.inr rfl)));have P3:Hid (Calls prog 13 #[.pointer (some ⟨b,0,none⟩),.pointer (some ⟨q,0,none⟩),.int .i64 2] W7 λe w'=>e=.returned (.tuple #[.agg #[.int .i64 0,.string ⟨#[]⟩,.string ⟨#[]⟩,.int .i64 0,.int .i64 0,.int .i64 0],.int .i64 11])/\_):=aj (h7.step H C hg7 (by omega) hok 2 rd3 rfl)
 have Fh:=aj Uo;clear P2 h7 hg7 Uo AO wH;go_upto_region 7 with fail
 rw[show w7.alloc (.cells #[.int .i64 2,.string ⟨#[97,46,98]⟩,.string ⟨#[120]⟩,.int .i64 2,.int .i64 1,.int .i64 1] 47)=W7 from OO.symm];clear OO;go_wp2_with fail;refine(ah P3).mono ?_;rintro e w8 ⟨rfl,⟨h8,_,W8,SQ⟩,hg8,Yf,_⟩;rw[<-SQ] at h8 Yf;have Xd:=aj ((ah Xc).aT Yf (λz=>z (.inl (.inr rfl))));have Xe:=aj ((ah Fh).aT Yf (λz=>z (.inr rfl)));have P4:Hid (Calls prog 13 #[.pointer (some ⟨b,0,none⟩),.pointer (some ⟨q,0,none⟩),.int .i64 5] W8 λe w'=>e=.returned (.tuple #[.agg #[.int .i64 1,.string ⟨#[97,46,98]⟩,.string ⟨#[120]⟩,.int .i64 3,.int .i64 2,.int .i64 1],.int .i64 0])/\_):=aj (h8.step H C hg8 (by omega) hok 5 rd4 ro4)
 clear P3 h8 hg8 Yf Xc Fh;go_upto_region 8 with fail
 rw[show w8.alloc (.cells #[.int .i64 0,.string ⟨#[]⟩,.string ⟨#[]⟩,.int .i64 0,.int .i64 0,.int .i64 0] 47)=W8 from SQ.symm];clear SQ;go_wp2_with fail;refine(ah P4).mono ?_;rintro e w9 ⟨rfl,⟨h9,Yg,W9,YW⟩,_,DF,_⟩;rw[<-YW] at h9 Yg DF;have VL:=(ah Xd).aT DF (λz=>z (.inl (.inl (.inr rfl))));have Uo:=(ah Xe).aT DF (λz=>z (.inl (.inr rfl)));have x0:W9.cell? ⟨w6.heap.size,0,none⟩=some (.int .i64 1):=VL.cell 0 _ rfl;have y0:W9.cell? ⟨w7.heap.size,0,none⟩=some (.int .i64 2):=Uo.cell 0 _ rfl;have y5:W9.cell? ⟨w7.heap.size,5,none⟩=some (.int .i64 1):=Uo.cell 5 _ rfl
 have z0:W9.cell? ⟨w9.heap.size,0,none⟩=some (.int .i64 1):=Yg.cell 0 _ rfl;have z4:W9.cell? ⟨w9.heap.size,4,none⟩=some (.int .i64 2):=Yg.cell 4 _ rfl;have B9:=aj h9.base;clear P4 h9 Yg DF Xd Xe VL Uo;go_upto_region 9 with fail
 rw[show w9.alloc (.cells #[.int .i64 1,.string ⟨#[97,46,98]⟩,.string ⟨#[120]⟩,.int .i64 3,.int .i64 2,.int .i64 1] 47)=W9 from YW.symm];clear YW;go_wp2_with fail;go_ret;exact⟨rfl,ah B9⟩
end
