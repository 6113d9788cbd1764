/- A part. -/
import Derived.Test.YtmhbobnfmncdbaaGreatDoorQ9
set_option maxRecDepth 100000
set_option maxHeartbeats 8000000
namespace Go.Proofs.YtmhbobnfmncdbaaGreatDoor
open Go.RowKit Go.Proofs.Tryz
theorem Iu {s:ByteArray}(h:iM s s.size=true):Pn.bH s=dR (s.size:Int) 1 16:=by
 unfold iM at h;rw[List.take_of_length_le (by simp)] at h;unfold Pn.bH dR;rw[h,Bool.true_and];congr 1
 ·simp;omega
 ·simp;omega
theorem Iw (s:ByteArray)(w:World)(hs:s.size<=140737488355328) :
 Calls prog 52 #[.string s] w λe w'=>e=.returned (.bool (Pn.bH s))/\Below w.heap.size w w':=by
 go_enter func52,ntmps52;go_wp2_with fail;go_loopw [3] (λiv wr=>∃(k:Nat),iv=.int .i64 k/\k<=s.size/\Hid (iM s k=true)/\Hid (Below w.heap.size w wr)) (λiv _=>s.size-(intOf iv).toNat)
 case atStart=>exact⟨0,rfl,Nat.zero_le _,aj rfl,aj (Below.refl _ _)⟩
 case round =>
  obtain⟨k,rfl,hk,HN,HB⟩:=hrel;by_cases hlt:k<s.size
  ·obtain⟨n,hn⟩:∃n,s[k].toNat=n:=⟨_,rfl⟩;have hnb:Hid (Pn.nameB s[k]=((decide (97<=n)&&decide (n<=122))||((decide (48<=n)&&decide (n<=57))||decide (n=45)))):=aj (by unfold Pn.nameB;rw[hn]);by_cases h1:97<=n<;>by_cases h2:n<=122<;>by_cases h3:48<=n<;>by_cases h4:n<=57<;>by_cases h5:n=45
   all_goals first
    | (exfalso;omega)
    | (
     first|have g1:decide ((97:Int)<=(n:Int))=true:=decide_eq_true (by omega)|have g1:decide ((97:Int)<=(n:Int))=false:=decide_eq_false (by omega)
     first|have g2:decide ((n:Int)<=122)=true:=decide_eq_true (by omega)|have g2:decide ((n:Int)<=122)=false:=decide_eq_false (by omega)
     first|have g3:decide ((48:Int)<=(n:Int))=true:=decide_eq_true (by omega)|have g3:decide ((48:Int)<=(n:Int))=false:=decide_eq_false (by omega)
     first|have g4:decide ((n:Int)<=57)=true:=decide_eq_true (by omega)|have g4:decide ((n:Int)<=57)=false:=decide_eq_false (by omega)
     first|have g5:((n:Int)==45)=true:=by(rw[beq_iff_eq];omega)|have g5:((n:Int)==45)=false:=by(rw[beq_eq_false_iff_ne];omega)
     first
      | (
       have HS:Hid (iM s (k+1)=true):=aj (by rw[sD hlt,ah HN,ah hnb];simp;omega)
       clear h1 h2 h3 h4 h5 hnb HN
       go_wp2_with fail
       refine⟨⟨k+1,by go_num,by omega,HS,HB⟩,?_⟩
       simp[intOf];omega)
      | (
       have HF:Hid (Pn.bH s=false):=aj (zW hlt (by rw[ah hnb];simp;omega))
       clear h1 h2 h3 h4 h5 hnb HN
       go_wp2_with fail
       go_ret
       rw[ah HF]
       exact⟨rfl,ah HB⟩))
  ·obtain rfl:k=s.size:=by omega
   have HI:=aj (Iu (ah HN));go_wp2_with fail;refine(iw _ _ _ _).mono ?_;rintro e w1 ⟨rfl,rfl⟩;go_wp2_with fail;go_ret;rw[ah HI];exact⟨rfl,ah HB⟩
theorem Xa (n:ByteArray)(a:Option Addr)(l c:Nat)(x0 x1 x2 x3 x4 x5 x6 x7:Int)(w:World) :
 Calls prog 78 #[ZY n a l c x0 x1 x2 x3 x4 x5 x6 x7] w λe w'=>∃g1 g2,e=.returned (.tuple #[.slice (some ⟨g1,0,none⟩) 8 8,.slice (some ⟨g2,0,none⟩) 8 8])/\Dk.jV w' (some ⟨g1,0,none⟩) [x0,x1,x2,x3,x4,x5,x6,x7]/\Dk.jV w' (some ⟨g2,0,none⟩) Pn.lg/\Below w.heap.size w w':=by
 obtain⟨W1,hW1⟩:∃W,W=w.alloc (.cells #[.string n,.slice a l c,.int .i64 x0,.int .i64 x1,.int .i64 x2,.int .i64 x3,.int .i64 x4,.int .i64 x5,.int .i64 x6,.int .i64 x7] 76):=⟨_,rfl⟩;have s1:W1.heap.size=w.heap.size+1:=by rw[hW1];simp
 have r1:=zV W1 x0 x1 x2 x3 x4 x5 x6 x7 3;obtain⟨W2,hW2⟩:∃W,W=W1.alloc (.cells #[.int .i64 x0,.int .i64 x1,.int .i64 x2,.int .i64 x3,.int .i64 x4,.int .i64 x5,.int .i64 x6,.int .i64 x7] 3):=⟨_,rfl⟩;rw[<-hW2,s1] at r1;have s2:W2.heap.size=w.heap.size+1+1:=by rw[hW2];simp[s1]
 have r2:=zV W2 200 65536 100000 200 256 1 2 100000 3;have b2:Below W2.heap.size W2 (W2.alloc (.cells #[.int .i64 200,.int .i64 65536,.int .i64 100000,.int .i64 200,.int .i64 256,.int .i64 1,.int .i64 2,.int .i64 100000] 3)):=(Below.refl _ _).alloc (Nat.le_refl _) _;have r3:=oD r1 b2;have b1:Below w.heap.size w W2:=by
  rw[hW2,hW1];exact((Below.refl _ _).alloc (Nat.le_refl _) _).alloc (by simp) _
 have HE:=aj (And.intro r3 (And.intro r2 (b1.trans (b2.mono (by omega)))));rw[s2,hW2,hW1] at HE;clear hW1 hW2 s1 s2 r1 r2 r3 b1 b2 W1 W2;go_enter func78,ntmps78;go_wp2_with fail;go_ret2;exact⟨w.heap.size+1,w.heap.size+1+1,rfl,ah HE⟩
