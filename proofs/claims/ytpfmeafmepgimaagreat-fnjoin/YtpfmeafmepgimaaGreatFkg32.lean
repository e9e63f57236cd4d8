import Derived.Test.YtpfmeafmepgimaaGreatFkg31
import Derived.Deep.CutRange
import Derived.Test.YtpfmeafmepgimaaGreatFkg20
import Derived.Test.YtpfmeafmepgimaaGreatFkg13
import Derived.Test.YtpfmeafmepgimaaGreatFkg07
set_option linter.unusedVariables false
set_option linter.unusedSimpArgs false
set_option maxRecDepth 100000
set_option maxHeartbeats 40000000
namespace Go.Proofs.YtpfmeafmepgimaaGreat
open Go.ChangeShapes Go.WideShapes Go.ChangeAt Go.RowKit Go.Deep
theorem draw_end {w w2:World}{B rb n x ga:Nat}{f:Nat ->Int}{A:Nat ->Sx}{L:Sx}(h:DrS w w2 B rb f n x ga A L)(v0 v1 v2 v3:Value):RdJ ((((w2.setCell ⟨w.heap.size,0,none⟩ v0).setCell ⟨w.heap.size,1,none⟩ v1).setCell ⟨w.heap.size+1,0,none⟩ v2).setCell ⟨w.heap.size+1,1,none⟩ v3) B rb f n x/\ w.grownBy ((((w2.setCell ⟨w.heap.size,0,none⟩ v0).setCell ⟨w.heap.size,1,none⟩ v1).setCell ⟨w.heap.size+1,0,none⟩ v2).setCell ⟨w.heap.size+1,1,none⟩ v3) (some rb):=by
 have hb:Below w.heap.size w2 ((((w2.setCell ⟨w.heap.size,0,none⟩ v0).setCell ⟨w.heap.size,1,none⟩ v1).setCell ⟨w.heap.size+1,0,none⟩ v2).setCell ⟨w.heap.size+1,1,none⟩ v3):=below4 (Below.refl _ _) (Nat.le_refl _) (Nat.le_succ _) _ _ _ _;exact⟨h.rd.below (hb.mono h.z5),grownBelow h.gr hb (Nat.le_refl _)⟩
def DwP (f:Nat ->Int)(n x:Nat)(S1 S2:Sx)(x':Nat):Prop:=(Dr S1/\ Dr S2)/\∀(B rb:Nat) (w:World),B<=w.heap.size ->RdJ w B rb f n x ->
  Calls Tryz.prog 25 #[.pointer (some ⟨rb,0,none⟩)] w fun e w'=>∃a1 c1 x1 d1 a2 c2 x2 d2,e=.returned (.tuple #[.agg #[.slice a1 S1.l.length c1,.slice x1 S1.n d1],.agg #[.slice a2 S2.l.length c2,.slice x2 S2.n d2]])/\ SNc w' w.heap.size a1 x1 S1/\ SNc w' w.heap.size a2 x2 S2/\ RdJ w' B rb f n x'/\ w.grownBy w' (some rb)
theorem drawJ (f:Nat ->Int)(n x:Nat):∃S1 S2 x',DwP f n x S1 S2 x':=by
 obtain⟨k0,hk0⟩:∃k0,rk f n x=k0:=⟨_,rfl⟩;obtain⟨q0,hq0⟩:∃q0,k0%12=q0:=⟨_,rfl⟩;obtain⟨N,hN⟩:∃N,3+q0=N:=⟨_,rfl⟩;obtain⟨D,hD⟩:∃D,dseq f n ⟨fun _=>Sx.mt,Sx.mt,rx n x⟩=D:=⟨_,rfl⟩;have HD0:Hid (D 0=⟨fun _=>Sx.mt,Sx.mt,rx n x⟩):=hid (by rw [<- hD];rfl);have HDS:Hid (∀i,D (i+1)=dstep f n (D i)):=hid (fun i=>by rw [<- hD];rfl);have HDO:Hid (∀i,(D i).Ok):=hid (fun i=>by rw [<- hD];exact dseq_ok (dst0 _) i);obtain⟨m,hmN,hm1,hm2⟩:=first_no (fun i=>i<N/\ (i<3 \/0<n - (D i).x)) N (fun h=>absurd h.1 (Nat.lt_irrefl _));have HM1:=hid hm1;have HM2:=hid hm2;obtain⟨k',hk'⟩:∃k,rk f n (D m).x=k:=⟨_,rfl⟩;obtain⟨t1,ht1⟩:∃t,k'/5%3=t:=⟨_,rfl⟩;obtain⟨t2,ht2⟩:∃t,k'/16%3=t:=⟨_,rfl⟩;obtain⟨S2,hS2⟩:∃S2,(if k'%5=4 then(D m).L else(D m).A t2)=S2:=⟨_,rfl⟩;have HS1:Hid (k'%5=4 ->S2=(D m).L):=hid (fun e=>by rw [<- hS2,if_pos e]);have HS2:Hid (¬k'%5=4 ->S2=(D m).A t2):=hid (fun e=>by rw [<- hS2,if_neg e]);refine⟨(D m).A t1,S2,rx n (D m).x,⟨(HDO.out m).a t1,?_⟩,fun B rb w hB h=> ?_⟩
 ·by_cases e:k'%5=4
  ·rw [HS1.out e];exact(HDO.out m).l
  ·rw [HS2.out e];exact(HDO.out m).a t2
 obtain⟨W,hW⟩:∃W,(w.alloc (.cells #[.slice none 0 0,.slice none 0 0] 28)).alloc (.cells #[.slice none 0 0,.slice none 0 0] 28)=W:=⟨_,rfl⟩;have b0:Below w.heap.size w W:=by rw [<- hW];exact below2 _ _ _
 have A0:Bx2 W w.heap.size (.slice none 0 0) (.slice none 0 0):=by rw [<- hW];exact(Bx2.made w _ _ _).allocs _
 have R0:Bx2 W (w.heap.size+1) (.slice none 0 0) (.slice none 0 0):=by rw [<- hW];simpa using Bx2.made (w.alloc (.cells #[.slice none 0 0,.slice none 0 0] 28)) (.slice none 0 0) (.slice none 0 0) 28
 have zW:W.heap.size=w.heap.size+2:=by rw [<- hW];simp
 have hrb:=h.lt;have HN:=hid (rdNextJ B rb f n x W (h.below (b0.mono hB)));rw [hk0] at HN;have d0:(k0:Int)%12=(q0:Int):=by omega
 have d1:IntKind.i64.wrap (3+(q0:Int))=(N:Int):=by rw [show (3:Int)+(q0:Int)=(N:Int) by omega];exact wrapIn _ (by omega) (by omega)
 have HNN:Hid (N<=14):=hid (by omega);have HA0:=hid A0;have HR0:=hid R0;have HB0:=hid b0;have HZW:=hid zW;have HRB:=hid (And.intro hrb hB);have HKP:=hid hk';have HT:=hid (And.intro ht1 ht2);have HMN:=hid hmN;clear hk0 hq0 hN hD hm1 hm2 hk' ht1 ht2 hS2 h b0 A0 R0 zW hrb hmN;go_enter Tryz.func25,Tryz.ntmps25;go_wp2_with fail;try rw [hW]
 clear hW;refine HN.out.mono ?_;rintro e w1 ⟨rfl,r1,g1⟩;have b3:Below w1.heap.size w1 ((w1.alloc (.cells #[.slice none 0 0,.slice none 0 0,.slice none 0 0,.slice none 0 0,.slice none 0 0,.slice none 0 0] 28)).alloc (.cells #[.slice none 0 0,.slice none 0 0] 28)):=below2 _ _ _;have HI:Hid (DrS w ((w1.alloc (.cells #[.slice none 0 0,.slice none 0 0,.slice none 0 0,.slice none 0 0,.slice none 0 0,.slice none 0 0] 28)).alloc (.cells #[.slice none 0 0,.slice none 0 0] 28)) B rb f n (D 0).x w1.heap.size (D 0).A (D 0).L):=hid (by
  have z1:=HZW.out;have z2:=g1.size;have z3:=HRB.out;have z4:=HB0.out.size;have ng:∀b,w.heap.size<=b ->∀k,some rb=some k ->k≠b:=fun b hb k e=>by injection e with e;omega
  rw [HD0.out];refine⟨fun j hj=>⟨none,0,none,0,?_,?_,SNc.mt _ _ _ _⟩,fun i=> ?_,⟨none,0,none,0,?_,SNc.mt _ _ _ _⟩,(HA0.out.gr g1 (ng _ (Nat.le_refl _))).below b3 (by omega),(HR0.out.gr g1 (ng _ (by omega))).below b3 (by omega),r1.below (b3.mono (by omega)),?_,by omega,by simp,by omega,z3.2⟩
  ·show World.cell? _ ⟨w1.heap.size,j*2,none⟩=some (.slice none 0 0);match j,hj with
   | 0,_=>simp
   | 1,_=>simp
   | 2,_=>simp
  ·show World.cell? _ ⟨w1.heap.size,j*2+1,none⟩=some (.slice none 0 0);match j,hj with
   | 0,_=>simp
   | 1,_=>simp
   | 2,_=>simp
  ·simp
  ·simpa [Sx.mt] using Bx2.made (w1.alloc (.cells #[.slice none 0 0,.slice none 0 0,.slice none 0 0,.slice none 0 0,.slice none 0 0,.slice none 0 0] 28)) (.slice none 0 0) (.slice none 0 0) 28
  ·exact grownBelow ⟨g1.os.trans HB0.out.os,g1.tape.trans HB0.out.tape,g1.output.trans HB0.out.output,by omega,fun k hk hne=>(g1.block k (by omega) hne).trans (HB0.out.block k hk)⟩ b3 (by omega))
 clear r1 g1 HN b3;go_wp2_with fail;obtain⟨W3,hW3⟩:∃W3,((w1.alloc (.cells #[.slice none 0 0,.slice none 0 0,.slice none 0 0,.slice none 0 0,.slice none 0 0,.slice none 0 0] 28)).alloc (.cells #[.slice none 0 0,.slice none 0 0] 28))=W3:=⟨_,rfl⟩;rw [hW3] at HI;try rw [hW3]
 clear hW3;obtain⟨ga,hga⟩:∃ga,w1.heap.size=ga:=⟨_,rfl⟩;rw [hga] at HI ⊢;clear hga d0 d1;go_loopw [7] (fun i wr=>∃j:Nat,j<=m/\ i=.int .i64 (j:Int)/\ Hid (DrS w wr B rb f n (D j).x ga (D j).A (D j).L)) (fun i _=>m - (intOf i).toNat);case atStart=>exact⟨0,Nat.zero_le _,rfl,HI⟩
 case round=>
  clear HI;obtain⟨j,hj,rfl,HS⟩:=hrel;obtain⟨s,hs⟩:∃s,D j=s:=⟨_,rfl⟩;rw [hs] at HS;have HOK:Hid s.Ok:=hid (by rw [<- hs];exact HDO.out j);have HNX:Hid (D (j+1)=dstep f n s):=hid (by rw [HDS.out,hs]);have HC1:Hid (j<m ->j<N/\ (j<3 \/0<n - s.x)):=hid (fun h=>by have:=HM1.out j h;rw [hs] at this;exact this);have HC2:Hid (¬j<m ->¬(j<N/\ (j<3 \/0<n - s.x))):=hid (fun h=>by have e:j=m:=(by omega);have:=HM2.out;rw [<- e,hs] at this;exact this);have HJS:=hid hs;obtain⟨A,L,y⟩:=s;dsimp only at HS HC1 HC2;clear hs;obtain⟨CB,hCB⟩:∃b,decide (j<m)=b:=⟨_,rfl⟩;have HCB:=hid hCB;clear hCB;go_upto_region 5 with fail;go_cut [37] from 26 to 101 (fun v wx=>v=.bool CB/\ Hid (DrS w wx B rb f n y ga A L));case first=>
   by_cases h1:j<N
   ·have i1:(j:Int)<(N:Int):=by omega
    by_cases h2:j<3
    ·have i2:(j:Int)<3:=by omega
     have HE:Hid (CB=true):=hid (by rw [<- HCB.out];exact decide_eq_true (Classical.byContradiction fun hn=>HC2.out hn ⟨h1,.inl h2⟩));go_wp2_with fail;go_meet;exact⟨by rw [HE.out],HS⟩
    ·have i2:¬(j:Int)<3:=by omega
     have HL:=hid (rdLeftJ B rb f n y _ HS.out.rd);obtain⟨lf,hlf⟩:∃lf,n - y=lf:=⟨_,rfl⟩;rw [hlf] at HL HC1 HC2;clear hlf;go_wp2_with fail;refine HL.out.mono ?_;rintro e w5 ⟨rfl,r5,g5⟩;have HS5:=hid (HS.out.gro g5 r5);clear r5 g5 HL;by_cases h3:0<lf
     ·have i3:(0:Int)<(lf:Int):=by omega
      have HE:Hid (CB=true):=hid (by rw [<- HCB.out];exact decide_eq_true (Classical.byContradiction fun hn=>HC2.out hn ⟨h1,.inr h3⟩));go_wp2_with fail;go_meet;exact⟨by rw [HE.out],HS5⟩
     ·have i3:¬(0:Int)<(lf:Int):=by omega
      have HE:Hid (CB=false):=hid (by rw [<- HCB.out];exact decide_eq_false (fun hn=>by rcases (HC1.out hn).2 with e|e<;>omega));go_wp2_with fail;go_meet;exact⟨by rw [HE.out],HS5⟩
   ·have i1:¬(j:Int)<(N:Int):=by omega
    have HE:Hid (CB=false):=hid (by rw [<- HCB.out];exact decide_eq_false (fun hn=>h1 (HC1.out hn).1));go_wp2_with fail;go_meet;exact⟨by rw [HE.out],HS⟩
  case rest=>
   obtain⟨rfl,HS2'⟩:=hcut;clear HS HC1 HC2;obtain⟨k,hk⟩:∃k,rk f n y=k:=⟨_,rfl⟩;have HN:=hid (rdNextJ B rb f n y _ HS2'.out.rd);rw [hk] at HN;have HKY:=hid hk;clear hk;cases CB with
   | false=>
    have hjm:j=m:=by have:=of_decide_eq_false HCB.out;omega
    have ek:k'=k:=by rw [<- HKY.out,<- HKP.out,<- hjm,HJS.out]
    subst hjm;subst ek;have HT1:=HT.out;have hk2:k'<256:=by have:=rk_lt HS2'.out.rd;rw [HKY.out] at this;exact this
    obtain⟨k5,hk5⟩:∃k5,k'/5=k5:=⟨_,rfl⟩;obtain⟨k16,hk16⟩:∃k16,k'/16=k16:=⟨_,rfl⟩;have ew5:IntKind.i64.wrap ((k':Int)/5)=(k5:Int):=by rw [show (k':Int)/5=(k5:Int) by omega];exact wrapIn _ (by omega) (by omega)
    have et5:Int.tmod (k5:Int) 3=(t1:Int):=by rw [Int.tmod_eq_emod_of_nonneg (by omega)];omega
    have ew16:IntKind.i64.wrap ((k':Int)/16)=(k16:Int):=by rw [show (k':Int)/16=(k16:Int) by omega];exact wrapIn _ (by omega) (by omega)
    have et16:Int.tmod (k16:Int) 3=(t2:Int):=by rw [Int.tmod_eq_emod_of_nonneg (by omega)];omega
    have h13:t1<3:=by omega
    have h23:t2<3:=by omega
    have i1:(0:Int)<=(t1:Int):=Int.natCast_nonneg _;have i2:(t1:Int)<3:=by omega
    have i3:(0:Int)<=(t2:Int):=Int.natCast_nonneg _;have i4:(t2:Int)<3:=by omega
    clear hk5 hk16 hk2 HT1 HT HCB;have HAA:Hid (D j=⟨A,L,y⟩):=HJS;by_cases h4:k'%5=4
    ·have e4:((k':Int)%5==4)=true:=by simp;omega
     have HSS:=hid (HS1.out h4);go_wp2_with fail;refine HN.out.mono ?_;rintro e w2 ⟨rfl,r2,g2⟩;have HU:=hid (HS2'.out.gro g2 r2);clear r2 g2 HN HS2';obtain⟨a1,c1,x1,d1,p0,p1,s1⟩:=HU.out.at h13;obtain⟨la,lc,lx,ld,lb,ls⟩:=HU.out.ls;have l0:=lb.c0;have l1:=lb.c1;have HTB:=hid (twoB HU.out.r1 HU.out.r2 (show w.heap.size≠w.heap.size+1 by omega) (.slice a1 (A t1).l.length c1) (.slice x1 (A t1).n d1) (.slice la L.l.length lc) (.slice lx L.n ld));have o0:=HU.out.r1.c0;have o1:=HU.out.r1.c1;have of:=HU.out.r1.f;have q0:=HTB.out.1.c0;have q1:=HTB.out.1.c1;have qf:=HTB.out.1.f;have HS1':=hid s1;have HLS:=hid ls;have hn0:¬w.heap.size=ga:=by have:=HU.out.z1;omega
     have hn1:¬w.heap.size+1=ga:=by have:=HU.out.z1;omega
     have hn2:¬w.heap.size=ga+1:=by have:=HU.out.z1;omega
     clear lb s1 ls;go_wp2_with fail;go_region;try go_wp2_with fail
     all_goals
      obtain⟨X1,X2⟩:=HTB.out.2
      refine bodyPost_ret (v:=.tuple #[.agg #[.slice a1 (A t1).l.length c1,.slice x1 (A t1).n d1],.agg #[.slice la L.l.length lc,.slice lx L.n ld]]) (by simp [results,Tryz.results25,go_sem,X1.c0,X1.c1,X2.c0,X2.c1]) rfl ?_
      rw [HSS.out,HAA.out]
      have z1:=HU.out.z1
      obtain⟨E1,E2⟩:=draw_end HU.out (.slice a1 (A t1).l.length c1) (.slice x1 (A t1).n d1) (.slice la L.l.length lc) (.slice lx L.n ld)
      exact⟨a1,c1,x1,d1,la,lc,lx,ld,rfl,(snc4 (r1:=w.heap.size) (r2:=w.heap.size+1) HS1'.out (by omega) (by omega) (by omega) _ _ _ _).drew,(snc4 (r1:=w.heap.size) (r2:=w.heap.size+1) HLS.out (by omega) (by omega) (by omega) _ _ _ _).drew,E1.below (Below.refl _ _).drew,⟨E2.os,E2.tape,E2.output,E2.size,E2.block⟩⟩
    ·have e4:((k':Int)%5==4)=false:=by simp;omega
     have HSS:=hid (HS2.out h4);go_wp2_with fail;refine HN.out.mono ?_;rintro e w2 ⟨rfl,r2,g2⟩;have HU:=hid (HS2'.out.gro g2 r2);clear r2 g2 HN HS2';obtain⟨a1,c1,x1,d1,p0,p1,s1⟩:=HU.out.at h13;obtain⟨a2,c2,x2,d2,l0,l1,s2⟩:=HU.out.at h23;have HTB:=hid (twoB HU.out.r1 HU.out.r2 (show w.heap.size≠w.heap.size+1 by omega) (.slice a1 (A t1).l.length c1) (.slice x1 (A t1).n d1) (.slice a2 (A t2).l.length c2) (.slice x2 (A t2).n d2));have o0:=HU.out.r1.c0;have o1:=HU.out.r1.c1;have of:=HU.out.r1.f;have q0:=HTB.out.1.c0;have q1:=HTB.out.1.c1;have qf:=HTB.out.1.f;have HS1':=hid s1;have HLS:=hid s2;have hn0:¬w.heap.size=ga:=by have:=HU.out.z1;omega
     have hn1:¬w.heap.size+1=ga:=by have:=HU.out.z1;omega
     clear s1 s2;go_wp2_with fail;go_region;try go_wp2_with fail
     all_goals
      obtain⟨X1,X2⟩:=HTB.out.2
      refine bodyPost_ret (v:=.tuple #[.agg #[.slice a1 (A t1).l.length c1,.slice x1 (A t1).n d1],.agg #[.slice a2 (A t2).l.length c2,.slice x2 (A t2).n d2]]) (by simp [results,Tryz.results25,go_sem,X1.c0,X1.c1,X2.c0,X2.c1]) rfl ?_
      rw [HSS.out,HAA.out]
      have z1:=HU.out.z1
      obtain⟨E1,E2⟩:=draw_end HU.out (.slice a1 (A t1).l.length c1) (.slice x1 (A t1).n d1) (.slice a2 (A t2).l.length c2) (.slice x2 (A t2).n d2)
      exact⟨a1,c1,x1,d1,a2,c2,x2,d2,rfl,(snc4 (r1:=w.heap.size) (r2:=w.heap.size+1) HS1'.out (by omega) (by omega) (by omega) _ _ _ _).drew,(snc4 (r1:=w.heap.size) (r2:=w.heap.size+1) HLS.out (by omega) (by omega) (by omega) _ _ _ _).drew,E1.below (Below.refl _ _).drew,⟨E2.os,E2.tape,E2.output,E2.size,E2.block⟩⟩
   | true=>
    have hjm:j<m:=of_decide_eq_true HCB.out;have hj14:j<15:=by have:=HMN.out;have:=HNN.out;omega
    obtain⟨r,hr⟩:∃r,k%3=r:=⟨_,rfl⟩;obtain⟨t,ht⟩:∃t,k/8%3=t:=⟨_,rfl⟩;have hr3:r<3:=by omega
    have ht3:t<3:=by omega
    have e0:(k:Int)%3=(r:Int):=by omega
    have e1:(k:Int)/8%3=(t:Int):=by omega
    have r0:(0:Int)<=(r:Int):=Int.natCast_nonneg _;have r1:(r:Int)<3:=by omega
    have t0:(0:Int)<=(t:Int):=Int.natCast_nonneg _;have t1:(t:Int)<3:=by omega
    have HRT:=hid (And.intro hr ht);have hk2:(k:Int)<256:=by have:=rk_lt HS2'.out.rd;rw [HKY.out] at this;omega
    clear hr ht HCB;by_cases h7:k%8=7
    ·have e7:((k:Int)%8==7)=true:=by simp;omega
     have HNS:Hid (D (j+1)=⟨jnT A r (A r) (A t),L,rx n y⟩):=hid (by
      rw [HNX.out];unfold dstep;dsimp only;rw [HKY.out,if_pos h7,HRT.out.1,HRT.out.2])
     go_wp2_with fail;refine HN.out.mono ?_;rintro e w2 ⟨rfl,r2,g2⟩;have HU:=hid (HS2'.out.gro g2 r2);clear r2 g2 HN HS2';obtain⟨a1,c1,x1,d1,p0,p1,s1⟩:=HU.out.at hr3;obtain⟨a2,c2,x2,d2,q0,q1,s2⟩:=HU.out.at ht3;have hlt:ga<w2.heap.size:=by have:=HU.out.z3;omega
     have HOR:=hid ((HOK.out.a r).vd);have HOT:=hid ((HOK.out.a t).vd);obtain⟨V,hV⟩:∃V,jnB (A r) (A t)=V:=⟨_,rfl⟩;obtain⟨J,hJ⟩:∃J,jnZ (A r) (A t)=J:=⟨_,rfl⟩;have HJV:Hid (V=true ->D (j+1)=⟨upA A r J,L,(rx n y)⟩):=hid (fun e=>by rw [HNS.out,<- hJ];unfold jnT;rw [hV,if_pos e,jnZ_t (hV.trans e)]);have HJF:Hid (V=false ->D (j+1)=⟨A,L,(rx n y)⟩):=hid (fun e=>by rw [HNS.out];unfold jnT;rw [hV,if_neg (by rw [e];simp)]);have HJC:Hid (∀w':World,Below w2.heap.size w2 w' ->Calls Tryz.prog 5 #[.agg #[.slice a1 (A r).l.length c1,.slice x1 (A r).n d1],.agg #[.slice a2 (A t).l.length c2,.slice x2 (A t).n d2]] w' fun e w''=>∃ja jc jx jd,e=.returned (.tuple #[.agg #[.slice ja J.l.length jc,.slice jx J.n jd],.bool V])/\ SNc w'' w'.heap.size ja jx J/\ Below w'.heap.size w' w''):=hid (fun w' b=>by
      rw [<- hV,<- hJ];exact specJoinC a1 x1 a2 x2 c1 d1 c2 d2 (A r) (A t) w' (vd_sm HOR.out) (vd_sm HOT.out) ⟨(s1.below b).at.1,(s1.below b).at.2⟩ ⟨(s2.below b).at.1,(s2.below b).at.2⟩)
     clear hV hJ HNS;go_upto_region 10 with fail;go_cut [9,10,11] from 26 to 101 (fun p v o wx=>∃b ja jc jx jd,p=.int .i64 (r:Int)/\ v=.pointer (some ⟨b,0,none⟩)/\ o=.bool V/\ Hid (DrS w wx B rb f n (rx n y) ga A L/\ Bx2 wx b (.slice ja J.l.length jc) (.slice jx J.n jd)/\ SNc wx (ga+2) ja jx J));case first=>
      obtain⟨k8,hk8⟩:∃k8,k/8=k8:=⟨_,rfl⟩;have ew:IntKind.i64.wrap ((k:Int)/8)=(k8:Int):=by rw [show (k:Int)/8=(k8:Int) by omega];exact wrapIn _ (by omega) (by omega)
      have et:Int.tmod (k8:Int) 3=(t:Int):=by rw [Int.tmod_eq_emod_of_nonneg (by omega)];have:=HRT.out;omega
      clear hk8 e1 hk2;have HSE:Hid (∀w':World,Below w2.heap.size w2 w' ->(w'.cell? ⟨ga,r*2,none⟩=some (.slice a1 (A r).l.length c1)/\ w'.cell? ⟨ga,r*2+1,none⟩=some (.slice x1 (A r).n d1)/\ w'.cell? ⟨ga,t*2,none⟩=some (.slice a2 (A t).l.length c2)/\ w'.cell? ⟨ga,t*2+1,none⟩=some (.slice x2 (A t).n d2))):=hid (fun w' b=>⟨(b.cell (p:=⟨ga,r*2,none⟩) hlt).trans p0,(b.cell (p:=⟨ga,r*2+1,none⟩) hlt).trans p1,(b.cell (p:=⟨ga,t*2,none⟩) hlt).trans q0,(b.cell (p:=⟨ga,t*2+1,none⟩) hlt).trans q1⟩);refine wp_region_held_drew (S:=fun w'=>w'.cell? ⟨ga,r*2,none⟩=some (.slice a1 (A r).l.length c1)/\ w'.cell? ⟨ga,r*2+1,none⟩=some (.slice x1 (A r).n d1)/\ w'.cell? ⟨ga,t*2,none⟩=some (.slice a2 (A t).l.length c2)/\ w'.cell? ⟨ga,t*2+1,none⟩=some (.slice x2 (A t).n d2)) (by kernel_rfl) (HSE.out _ (Below.refl _ _).drew) (fun hHeld=> ?_);refine tZ 0 48 ?_;refine tZ 1 49 ?_;refine tZ 2 50 ?_;refine tZ 3 51 ?_;refine tZ 4 52 ?_;refine tZ 5 53 ?_;refine tZ 6 54 ?_;refine tZ 7 55 ?_;refine tZ 8 56 ?_;refine tZ 9 57 ?_;refine ready2t (i:=10) (j:=14) (d:=some 58) (d':=some 10) (by kernel_rfl) (by kernel_rfl) (by kernel_rfl) ?_ ?_
      ·
       intro o ho hod K hK;simp only [gZa,gZb,gZc,gZd] at ho;subst ho;go_simp;refine(HJC.out _ (Below.refl _ _).drew).mono ?_;rintro e w5 ⟨ja,jc,jx,jd,rfl,sj,b5⟩;have hB5:Below w2.heap.size w2 w5:=keepS (Below.refl _ _).drew b5;refine hK.out _ _ (HSE.out _ hB5) (fun hHeld=> ?_);clear hK K;try simp only [Act.put,sZa,sZb,sZc]
       refine tZ 11 47 ?_;refine tZ 12 59 ?_;refine tZ 13 60 ?_;refine cZ 14 ?_;intro K hK;go_simp;obtain⟨wx,hwx⟩:∃wx,w5.alloc (.cells #[.slice none 0 0,.slice none 0 0] 28)=wx:=⟨_,rfl⟩;have hxb:Below w5.heap.size w5 wx:=by rw [<- hwx];exact(Below.refl _ _).alloc (Nat.le_refl _) _
       have hxc:Bx2 wx w5.heap.size (.slice none 0 0) (.slice none 0 0):=by rw [<- hwx];exact Bx2.made _ _ _ _
       have hBx:Below w2.heap.size w2 wx:=keepS hB5 hxb;have HF:=hid (HU.out.box hBx hxc hB5.size sj (Nat.le_refl _) hxb.size (fun q q1 q2=>⟨by omega,hxb.block q q2⟩) jc jd);rw [hwx];clear hwx;refine hK.out _ _ (HSE.out _ hBx) (fun hHeld=> ?_);clear hK K;try simp only [Act.put,sZa,sZb,sZc]
       have xc0:=hxc.c0;have xc1:=hxc.c1;have xcf:=hxc.f;clear hxb hBx hxc sj b5 hB5;refine cZ 15 ?_;intro K hK;go_simp;refine hK.out _ _ (HSE.out _ HF.out.1) (fun hHeld=> ?_);clear hK K;try simp only [Act.put,sZa,sZb,sZc]
       clear xc0 xc1 xcf;refine tZ 16 11 ?_;refine wpAnyH_done (by kernel_rfl) ?_ _;go_wp2_with fail;go_meet;exact⟨_,ja,jc,jx,jd,rfl,rfl,rfl,hid HF.out.2⟩
      ·
       intro o ho hod K hK;simp only [gZa,gZb,gZc,gZd] at ho;subst ho;go_simp;obtain⟨wx,hwx⟩:∃wx,(w2.alloc (.cells #[.slice none 0 0,.slice none 0 0] 28)).drew=wx:=⟨_,rfl⟩;have hxb:Below w2.heap.size w2 wx:=by rw [<- hwx];exact((Below.refl _ _).alloc (Nat.le_refl _) _).drew
       have hxc:Bx2 wx w2.heap.size (.slice none 0 0) (.slice none 0 0):=by
        have h0:=Bx2.made w2 (.slice none 0 0) (.slice none 0 0) 28;rw [<- hwx];exact h0.below (Below.refl _ _).drew h0.lt
       have hxz:wx.heap.size=w2.heap.size+1:=by rw [<- hwx];simp
       rw [hwx];clear hwx;refine hK.out _ _ (HSE.out _ hxb) (fun hHeld=> ?_);clear hK K;try simp only [Act.put,sZa,sZb,sZc]
       refine cZ 10 ?_;intro K hK;go_simp;refine(HJC.out _ hxb).mono ?_;rintro e w5 ⟨ja,jc,jx,jd,rfl,sj,b5⟩;have hB5:Below w2.heap.size w2 w5:=keepS hxb b5;have hx5:=hxc.below b5 hxc.lt;have HF:=hid (HU.out.box hB5 hx5 (Nat.le_refl _) sj (by omega) (Nat.le_refl _) (fun q q1 q2=>⟨by omega,rfl⟩) jc jd);refine hK.out _ _ (HSE.out _ hB5) (fun hHeld=> ?_);clear hK K;try simp only [Act.put,sZa,sZb,sZc]
       refine tZ 11 47 ?_;refine tZ 12 59 ?_;refine tZ 13 60 ?_;have xc0:=hx5.c0;have xc1:=hx5.c1;have xcf:=hx5.f;clear hxb hxc hx5 sj b5 hB5 hxz;refine cZ 15 ?_;intro K hK;go_simp;refine hK.out _ _ (HSE.out _ HF.out.1) (fun hHeld=> ?_);clear hK K;try simp only [Act.put,sZa,sZb,sZc]
       clear xc0 xc1 xcf;refine tZ 16 11 ?_;refine wpAnyH_done (by kernel_rfl) ?_ _;go_wp2_with fail;go_meet;exact⟨_,ja,jc,jx,jd,rfl,rfl,rfl,hid HF.out.2⟩
     case rest=>
      obtain⟨b,ja,jc,jx,jd,rfl,rfl,rfl,HR⟩:=hcut;clear HJC HU;cases V with
      | false=>
       have HE:=hid (HJF.out rfl);clear HJV HJF;have HRD:=hid HR.out.1;clear HR;go_wp2_with fail;go_roundw;case rel=>
        exact⟨j+1,hjm,by go_num,by rw [HE.out];exact HRD⟩
       case measure=>simp [intOf];omega
      | true=>
       have HE:=hid (HJV.out rfl);clear HJV HJF;obtain⟨pa,pc,px,pd,p0,p1,_⟩:=HR.out.1.at (r:=r) hr3;have pf:=HR.out.1.fz;have x0:=HR.out.2.1.c0;have x1:=HR.out.2.1.c1;have HRD:=hid (HR.out.1.setA (r:=r) hr3 HR.out.2.2 jc jd);clear HR;go_wp2_with fail;go_roundw;case rel=>
        exact⟨j+1,hjm,by go_num,by rw [HE.out];exact HRD⟩
       case measure=>simp [intOf];omega
    ·have e7:((k:Int)%8==7)=false:=by simp;omega
     obtain⟨S1,hS1⟩:∃S1,(acR f n (rx n y) (A r) r).1=S1:=⟨_,rfl⟩;obtain⟨S2,hS2⟩:∃S2,(acR f n (rx n y) (A r) r).2.1=S2:=⟨_,rfl⟩;obtain⟨y2,hy2⟩:∃y2,(acR f n (rx n y) (A r) r).2.2=y2:=⟨_,rfl⟩;have HAC:Hid (AcP f n (rx n y) (A r) r S1 S2 y2):=hid (by rw [<- hS1,<- hS2,<- hy2];exact acR_ok f n (rx n y) (HOK.out.a r) (by omega));have HN6:Hid (k%8=6 ->D (j+1)=⟨jnT (upA A r S1) t (upA A r S1 t) S2,S2,y2⟩):=hid (fun h6=>by
      rw [HNX.out];unfold dstep;dsimp only;rw [HKY.out,if_neg h7,if_pos h6,HRT.out.1,HRT.out.2,hS1,hS2,hy2])
     have HNE:Hid (¬k%8=6 ->D (j+1)=⟨upA A r S1,S2,y2⟩):=hid (fun h6=>by
      rw [HNX.out];unfold dstep;dsimp only;rw [HKY.out,if_neg h7,if_neg h6,HRT.out.1,hS1,hS2,hy2])
     clear hS1 hS2 hy2;go_wp2_with fail;refine HN.out.mono ?_;rintro e w2 ⟨rfl,r2,g2⟩;have HU:=hid (HS2'.out.gro g2 r2);clear r2 g2 HN HS2';obtain⟨a1,c1,x1,d1,p0,p1,s1⟩:=HU.out.at hr3;have HAP:=hid (HAC.out.2 B (ga+2) rb a1 x1 c1 d1 w2 (by have:=HU.out.z1;have:=HU.out.z5;omega) HU.out.z3 HU.out.rd s1);go_wp2_with fail;refine HAP.out.mono ?_;rintro e w5 ⟨a5,c5,x5,d5,a6,c6,x6,d6,rfl,s5,s6,r5,g5⟩;have HU5:=hid (HU.out.gro g5 r5);have HZ5:Hid (ga+2<=w5.heap.size):=hid HU5.out.z3;have b6:Below w5.heap.size w5 ((w5.alloc (.cells #[.slice a5 S1.l.length c5,.slice x5 S1.n d5] 28)).alloc (.cells #[.slice a6 S2.l.length c6,.slice x6 S2.n d6] 28)):=below2 _ _ _;have HU6:=hid (HU5.out.below b6);have HS5:=hid (s5.below b6);have HS6:=hid (s6.below b6);have HB1:Hid (Bx2 ((w5.alloc (.cells #[.slice a5 S1.l.length c5,.slice x5 S1.n d5] 28)).alloc (.cells #[.slice a6 S2.l.length c6,.slice x6 S2.n d6] 28)) w5.heap.size (.slice a5 S1.l.length c5) (.slice x5 S1.n d5)):=hid ((Bx2.made w5 _ _ _).allocs _);have HB2:Hid (Bx2 ((w5.alloc (.cells #[.slice a5 S1.l.length c5,.slice x5 S1.n d5] 28)).alloc (.cells #[.slice a6 S2.l.length c6,.slice x6 S2.n d6] 28)) (w5.heap.size+1) (.slice a6 S2.l.length c6) (.slice x6 S2.n d6)):=hid (by simpa using Bx2.made (w5.alloc (.cells #[.slice a5 S1.l.length c5,.slice x5 S1.n d5] 28)) (.slice a6 S2.l.length c6) (.slice x6 S2.n d6) 28);clear s5 s6 r5 g5 b6 HAP HU HU5 p0 p1 s1;go_upto_region 14 with fail;obtain⟨W6,hW6⟩:∃W6,((w5.alloc (.cells #[.slice a5 S1.l.length c5,.slice x5 S1.n d5] 28)).alloc (.cells #[.slice a6 S2.l.length c6,.slice x6 S2.n d6] 28))=W6:=⟨_,rfl⟩;rw [hW6] at HU6 HS5 HS6 HB1 HB2;rw [hW6];clear hW6;obtain⟨pa,pc,px,pd,p0,p1,_⟩:=HU6.out.at hr3;have pf:=HU6.out.fz;have x0:=HB1.out.c0;have x1:=HB1.out.c1;have hne:ga≠w5.heap.size+1:=by have:=HZ5.out;omega
     have HU7:=hid (HU6.out.setA hr3 HS5.out c5 d5);have HB7:=hid ((HB2.out.setAt ⟨ga,r*2,none⟩ (.slice a5 S1.l.length c5) hne).setAt ⟨ga,r*2+1,none⟩ (.slice x5 S1.n d5) hne);have HS7:Hid (SNc ((W6.setCell ⟨ga,r*2,none⟩ (.slice a5 S1.l.length c5)).setCell ⟨ga,r*2+1,none⟩ (.slice x5 S1.n d5)) (ga+2) a6 x6 S2):=hid (HS6.out.move (Nat.le_refl _) (by simp [World.setCell]) (fun q q1 q2=>by rw [Below.heap_setCell _ _ _ _ (by simp;omega),Below.heap_setCell _ _ _ _ (by simp;omega)]));clear hne;go_upto_region 15 with fail;obtain⟨W7,hW7⟩:∃W7,((W6.setCell ⟨ga,r*2,none⟩ (.slice a5 S1.l.length c5)).setCell ⟨ga,r*2+1,none⟩ (.slice x5 S1.n d5))=W7:=⟨_,rfl⟩;rw [hW7] at HU7 HB7 HS7;rw [hW7];clear hW7 p0 p1 pf x0 x1 HU6 HS5 HS6 HB1 HB2;obtain⟨la,lc,lx,ld,lb,_⟩:=HU7.out.ls;have l0:=lb.c0;have l1:=lb.c1;have lf:=lb.f;have x0:=HB7.out.c0;have x1:=HB7.out.c1;have hne:ga+1≠w5.heap.size+1:=by have:=HZ5.out;omega
     have HU8:=hid (HU7.out.setL HS7.out c6 d6);have HB8:=hid ((HB7.out.setAt ⟨ga+1,0,none⟩ (.slice a6 S2.l.length c6) hne).setAt ⟨ga+1,1,none⟩ (.slice x6 S2.n d6) hne);have HS8:Hid (SNc ((W7.setCell ⟨ga+1,0,none⟩ (.slice a6 S2.l.length c6)).setCell ⟨ga+1,1,none⟩ (.slice x6 S2.n d6)) (ga+2) a6 x6 S2):=hid (HS7.out.move (Nat.le_refl _) (by simp [World.setCell]) (fun q q1 q2=>by rw [Below.heap_setCell _ _ _ _ (by simp;omega),Below.heap_setCell _ _ _ _ (by simp;omega)]));clear hne lb;go_upto_region 16 with fail;obtain⟨W8,hW8⟩:∃W8,((W7.setCell ⟨ga+1,0,none⟩ (.slice a6 S2.l.length c6)).setCell ⟨ga+1,1,none⟩ (.slice x6 S2.n d6))=W8:=⟨_,rfl⟩;rw [hW8] at HU8 HB8 HS8;rw [hW8];clear hW8 l0 l1 lf x0 x1 HU7 HB7 HS7;by_cases h6:k%8=6
     ·have e6:((k:Int)%8==6)=true:=by simp;omega
      have HNS:=hid (HN6.out h6);clear HN6 HNE;have HU:=HU8;obtain⟨a1,c1,x1,d1,p0,p1,s1⟩:=HU.out.at ht3;have q0:=HB8.out.c0;have q1:=HB8.out.c1;have s2:=HS8.out;have HOR:=hid ((upA_dr (j:=r) HOK.out.a HAC.out.1.1 t).vd);have HOT:=hid (HAC.out.1.2.vd);have hlt:ga<W8.heap.size:=by have:=HU.out.z3;omega
      have hlt2:w5.heap.size+1<W8.heap.size:=HB8.out.lt;clear HU8;obtain⟨V,hV⟩:∃V,jnB (upA A r S1 t) S2=V:=⟨_,rfl⟩;obtain⟨J,hJ⟩:∃J,jnZ (upA A r S1 t) S2=J:=⟨_,rfl⟩;have HJV:Hid (V=true ->D (j+1)=⟨upA (upA A r S1) t J,S2,y2⟩):=hid (fun e=>by rw [HNS.out,<- hJ];unfold jnT;rw [hV,if_pos e,jnZ_t (hV.trans e)]);have HJF:Hid (V=false ->D (j+1)=⟨(upA A r S1),S2,y2⟩):=hid (fun e=>by rw [HNS.out];unfold jnT;rw [hV,if_neg (by rw [e];simp)]);have HJC:Hid (∀w':World,Below W8.heap.size W8 w' ->Calls Tryz.prog 5 #[.agg #[.slice a1 (upA A r S1 t).l.length c1,.slice x1 (upA A r S1 t).n d1],.agg #[.slice a6 (S2).l.length c6,.slice x6 (S2).n d6]] w' fun e w''=>∃ja jc jx jd,e=.returned (.tuple #[.agg #[.slice ja J.l.length jc,.slice jx J.n jd],.bool V])/\ SNc w'' w'.heap.size ja jx J/\ Below w'.heap.size w' w''):=hid (fun w' b=>by
       rw [<- hV,<- hJ];exact specJoinC a1 x1 a6 x6 c1 d1 c6 d6 (upA A r S1 t) (S2) w' (vd_sm HOR.out) (vd_sm HOT.out) ⟨(s1.below b).at.1,(s1.below b).at.2⟩ ⟨(s2.below b).at.1,(s2.below b).at.2⟩)
      clear hV hJ HNS;go_upto_region 17 with fail;go_cut [9,14,15] from 26 to 101 (fun p v o wx=>∃b ja jc jx jd,p=.int .i64 (r:Int)/\ v=.pointer (some ⟨b,0,none⟩)/\ o=.bool V/\ Hid (DrS w wx B rb f n y2 ga (upA A r S1) S2/\ Bx2 wx b (.slice ja J.l.length jc) (.slice jx J.n jd)/\ SNc wx (ga+2) ja jx J));case first=>
       obtain⟨k8,hk8⟩:∃k8,k/8=k8:=⟨_,rfl⟩;have ew:IntKind.i64.wrap ((k:Int)/8)=(k8:Int):=by rw [show (k:Int)/8=(k8:Int) by omega];exact wrapIn _ (by omega) (by omega)
       have et:Int.tmod (k8:Int) 3=(t:Int):=by rw [Int.tmod_eq_emod_of_nonneg (by omega)];have:=HRT.out;omega
       clear hk8 e1 hk2;have HSE:Hid (∀w':World,Below W8.heap.size W8 w' ->(w'.cell? ⟨ga,t*2,none⟩=some (.slice a1 (upA A r S1 t).l.length c1)/\ w'.cell? ⟨ga,t*2+1,none⟩=some (.slice x1 (upA A r S1 t).n d1)/\ w'.cell? ⟨w5.heap.size+1,0,none⟩=some (.slice a6 S2.l.length c6)/\ w'.cell? ⟨w5.heap.size+1,1,none⟩=some (.slice x6 S2.n d6))):=hid (fun w' b=>⟨(b.cell (p:=⟨ga,t*2,none⟩) hlt).trans p0,(b.cell (p:=⟨ga,t*2+1,none⟩) hlt).trans p1,(b.cell (p:=⟨w5.heap.size+1,0,none⟩) hlt2).trans q0,(b.cell (p:=⟨w5.heap.size+1,1,none⟩) hlt2).trans q1⟩);refine wp_region_held_drew (S:=fun w'=>w'.cell? ⟨ga,t*2,none⟩=some (.slice a1 (upA A r S1 t).l.length c1)/\ w'.cell? ⟨ga,t*2+1,none⟩=some (.slice x1 (upA A r S1 t).n d1)/\ w'.cell? ⟨w5.heap.size+1,0,none⟩=some (.slice a6 S2.l.length c6)/\ w'.cell? ⟨w5.heap.size+1,1,none⟩=some (.slice x6 S2.n d6)) (by kernel_rfl) (HSE.out _ (Below.refl _ _).drew) (fun hHeld=> ?_);refine tZ 0 85 ?_;refine tZ 1 86 ?_;refine tZ 2 87 ?_;refine tZ 3 88 ?_;refine tZ 4 89 ?_;refine tZ 5 90 ?_;refine tZ 6 91 ?_;refine ready2t (i:=7) (j:=11) (d:=some 92) (d':=some 14) (by kernel_rfl) (by kernel_rfl) (by kernel_rfl) ?_ ?_
       ·
        intro o ho hod K hK;simp only [gZa,gZb,gZc,gZd] at ho;subst ho;go_simp;refine(HJC.out _ (Below.refl _ _).drew).mono ?_;rintro e w5 ⟨ja,jc,jx,jd,rfl,sj,b5⟩;have hB5:Below W8.heap.size W8 w5:=keepS (Below.refl _ _).drew b5;refine hK.out _ _ (HSE.out _ hB5) (fun hHeld=> ?_);clear hK K;try simp only [Act.put,sZa,sZb,sZc]
        refine tZ 8 84 ?_;refine tZ 9 93 ?_;refine tZ 10 94 ?_;refine cZ 11 ?_;intro K hK;go_simp;obtain⟨wx,hwx⟩:∃wx,w5.alloc (.cells #[.slice none 0 0,.slice none 0 0] 28)=wx:=⟨_,rfl⟩;have hxb:Below w5.heap.size w5 wx:=by rw [<- hwx];exact(Below.refl _ _).alloc (Nat.le_refl _) _
        have hxc:Bx2 wx w5.heap.size (.slice none 0 0) (.slice none 0 0):=by rw [<- hwx];exact Bx2.made _ _ _ _
        have hBx:Below W8.heap.size W8 wx:=keepS hB5 hxb;have HF:=hid (HU.out.box hBx hxc hB5.size sj (Nat.le_refl _) hxb.size (fun q q1 q2=>⟨by omega,hxb.block q q2⟩) jc jd);rw [hwx];clear hwx;refine hK.out _ _ (HSE.out _ hBx) (fun hHeld=> ?_);clear hK K;try simp only [Act.put,sZa,sZb,sZc]
        have xc0:=hxc.c0;have xc1:=hxc.c1;have xcf:=hxc.f;clear hxb hBx hxc sj b5 hB5;refine cZ 12 ?_;intro K hK;go_simp;refine hK.out _ _ (HSE.out _ HF.out.1) (fun hHeld=> ?_);clear hK K;try simp only [Act.put,sZa,sZb,sZc]
        clear xc0 xc1 xcf;refine tZ 13 15 ?_;refine wpAnyH_done (by kernel_rfl) ?_ _;go_wp2_with fail;go_meet;exact⟨_,ja,jc,jx,jd,rfl,rfl,rfl,hid HF.out.2⟩
       ·
        intro o ho hod K hK;simp only [gZa,gZb,gZc,gZd] at ho;subst ho;go_simp;obtain⟨wx,hwx⟩:∃wx,(W8.alloc (.cells #[.slice none 0 0,.slice none 0 0] 28)).drew=wx:=⟨_,rfl⟩;have hxb:Below W8.heap.size W8 wx:=by rw [<- hwx];exact((Below.refl _ _).alloc (Nat.le_refl _) _).drew
        have hxc:Bx2 wx W8.heap.size (.slice none 0 0) (.slice none 0 0):=by
         have h0:=Bx2.made W8 (.slice none 0 0) (.slice none 0 0) 28;rw [<- hwx];exact h0.below (Below.refl _ _).drew h0.lt
        have hxz:wx.heap.size=W8.heap.size+1:=by rw [<- hwx];simp
        rw [hwx];clear hwx;refine hK.out _ _ (HSE.out _ hxb) (fun hHeld=> ?_);clear hK K;try simp only [Act.put,sZa,sZb,sZc]
        refine cZ 7 ?_;intro K hK;go_simp;refine(HJC.out _ hxb).mono ?_;rintro e w5 ⟨ja,jc,jx,jd,rfl,sj,b5⟩;have hB5:Below W8.heap.size W8 w5:=keepS hxb b5;have hx5:=hxc.below b5 hxc.lt;have HF:=hid (HU.out.box hB5 hx5 (Nat.le_refl _) sj (by omega) (Nat.le_refl _) (fun q q1 q2=>⟨by omega,rfl⟩) jc jd);refine hK.out _ _ (HSE.out _ hB5) (fun hHeld=> ?_);clear hK K;try simp only [Act.put,sZa,sZb,sZc]
        refine tZ 8 84 ?_;refine tZ 9 93 ?_;refine tZ 10 94 ?_;have xc0:=hx5.c0;have xc1:=hx5.c1;have xcf:=hx5.f;clear hxb hxc hx5 sj b5 hB5 hxz;refine cZ 12 ?_;intro K hK;go_simp;refine hK.out _ _ (HSE.out _ HF.out.1) (fun hHeld=> ?_);clear hK K;try simp only [Act.put,sZa,sZb,sZc]
        clear xc0 xc1 xcf;refine tZ 13 15 ?_;refine wpAnyH_done (by kernel_rfl) ?_ _;go_wp2_with fail;go_meet;exact⟨_,ja,jc,jx,jd,rfl,rfl,rfl,hid HF.out.2⟩
      case rest=>
       obtain⟨b,ja,jc,jx,jd,rfl,rfl,rfl,HR⟩:=hcut;clear HJC HU;cases V with
       | false=>
        have HE:=hid (HJF.out rfl);clear HJV HJF;have HRD:=hid HR.out.1;clear HR;go_wp2_with fail;go_roundw;case rel=>
         exact⟨j+1,hjm,by go_num,by rw [HE.out];exact HRD⟩
        case measure=>simp [intOf];omega
       | true=>
        have HE:=hid (HJV.out rfl);clear HJV HJF;obtain⟨pa,pc,px,pd,p0,p1,_⟩:=HR.out.1.at (r:=t) ht3;have pf:=HR.out.1.fz;have x0:=HR.out.2.1.c0;have x1:=HR.out.2.1.c1;have HRD:=hid (HR.out.1.setA (r:=t) ht3 HR.out.2.2 jc jd);clear HR;go_wp2_with fail;go_roundw;case rel=>
         exact⟨j+1,hjm,by go_num,by rw [HE.out];exact HRD⟩
        case measure=>simp [intOf];omega
     ·have e6:((k:Int)%8==6)=false:=by simp;omega
      have HE:=hid (HNE.out h6);clear HN6 HNE;go_wp2_with fail;go_roundw;case rel=>
       exact⟨j+1,hjm,by go_num,by rw [HE.out];exact HU8⟩
      case measure=>simp [intOf];omega
theorem rk_byt {f:Nat ->Int}(hf:Byt f)(n x:Nat):rk f n x<256:=by
 unfold rk;split
 ·have:=hf x;omega
 ·omega
theorem jn_gd {A B:Sx}(h:Dr A)(h':Dr B):Gd (jnS A B):=by
 have hl:=jn_len h.vd.w h'.vd.w;refine⟨⟨by omega,fun i=> ?_,by show (jnU A B).length<=_;omega⟩,fun i=> ?_,?_⟩
 ·by_cases hi:i<(jnS A B).l.length
  ·have:=(jn_bd h.vd.w h'.vd.w _ (gL_mem.2 ⟨i,hi,rfl⟩)).2.2.2;omega
  ·rw [gL_far hi];simp
 ·by_cases hi:i<(jnS A B).l.length
  ·obtain⟨a,b,_⟩:=jn_bd h.vd.w h'.vd.w _ (gL_mem.2 ⟨i,hi,rfl⟩);exact⟨wfI (by omega) (by omega),wfI (by omega) (by omega)⟩
  ·exact gL_fa hi
 ·have:=fs_i64 (jn_u h.vd h'.vd).1;rw [jnS_eq,fS_mk] at this;rw [jnS_eq];exact this
noncomputable def prS (f:Nat ->Int)(n k x:Nat)(A B:Sx):Sx×Sx:=
 if k%8=7 then(A,spS f n x B) else if k%8=6 then(spS f n x A,B) else if k%4=1 then(A,jnS A B) else if k%32=2 then(wdS (397+k/32) 0 false,wdS 600 1 true) else(A,B)
theorem prS_gd {f:Nat ->Int}(hf:Byt f){n k x:Nat}{A B:Sx}(hk:k<256)(h:Dr A)(h':Dr B):Gd (prS f n k x A B).1/\ Gd (prS f n k x A B).2:=by
 unfold prS;repeat' split
 ·exact⟨h.gd,spS_gd h' (rk_byt hf _ _)⟩
 ·exact⟨spS_gd h (rk_byt hf _ _),h'.gd⟩
 ·exact⟨h.gd,jn_gd h h'⟩
 ·exact⟨wdS_gd (by omega) (by omega),wdS_gd (by omega) (by omega)⟩
 ·exact⟨h.gd,h'.gd⟩
structure PrS (w wx:World)(B rb:Nat)(f:Nat ->Int)(n x b5:Nat)(X Y:Sx)(a1 x1 a2 x2:Option Addr)(c1 d1 c2 d2:Nat):Prop where
 r1:Bx2 wx w.heap.size (.slice none 0 0) (.slice none 0 0)
 r2:Bx2 wx (w.heap.size+1) (.slice none 0 0) (.slice none 0 0)
 p1:Bx2 wx b5 (.slice a1 X.l.length c1) (.slice x1 X.n d1)
 p2:Bx2 wx (b5+1) (.slice a2 Y.l.length c2) (.slice x2 Y.n d2)
 s1:SNc wx (w.heap.size+2) a1 x1 X
 s2:SNc wx (w.heap.size+2) a2 x2 Y
 rd:RdJ wx B rb f n x
 gr:w.grownBy wx (some rb)
 z:B<=w.heap.size
 hb:w.heap.size+2<=b5
 hr:rb<w.heap.size
section
variable {w wx w1 : World} {B rb n x b5 : Nat} {f : Nat -> Int} {X Y : Sx} {a1 x1 a2 x2 : Option Addr} {c1 d1 c2 d2 : Nat}
theorem PrS.gro (h:PrS w wx B rb f n x b5 X Y a1 x1 a2 x2 c1 d1 c2 d2){x':Nat}(hg:wx.grownBy w1 (some rb))(hr:RdJ w1 B rb f n x'):PrS w w1 B rb f n x' b5 X Y a1 x1 a2 x2 c1 d1 c2 d2:=by
 have h1:=h.hr;have h2:=h.hb;exact⟨h.r1.grw hg (by omega),h.r2.grw hg (by omega),h.p1.grw hg (by omega),h.p2.grw hg (by omega),h.s1.gr hg (by omega),h.s2.gr hg (by omega),hr,grown_transJ h.gr hg,h.z,h.hb,h.hr⟩
theorem PrS.below (h:PrS w wx B rb f n x b5 X Y a1 x1 a2 x2 c1 d1 c2 d2)(hb:Below wx.heap.size wx w1):PrS w w1 B rb f n x b5 X Y a1 x1 a2 x2 c1 d1 c2 d2:=
 h.gro ⟨hb.os,hb.tape,hb.output,hb.size,fun k hk _=>hb.block k hk⟩ (h.rd.below (hb.mono (by have:=h.z;have:=h.r2.lt;omega)))
theorem PrS.fin (h:PrS w wx B rb f n x b5 X Y a1 x1 a2 x2 c1 d1 c2 d2){y1 z1 y2 z2:Option Addr}{S1 S2:Sx}(t1:SNc wx (w.heap.size+2) y1 z1 S1)(t2:SNc wx (w.heap.size+2) y2 z2 S2)(e1 e2 e3 e4:Nat):
  let U:=(wx.setCell ⟨w.heap.size,0,none⟩ (.slice y1 S1.l.length e1)).setCell ⟨w.heap.size,1,none⟩ (.slice z1 S1.n e2)
  let V:=(U.setCell ⟨w.heap.size+1,0,none⟩ (.slice y2 S2.l.length e3)).setCell ⟨w.heap.size+1,1,none⟩ (.slice z2 S2.n e4)
  (Bx2 U (w.heap.size+1) (.slice none 0 0) (.slice none 0 0)/\ Bx2 U b5 (.slice a1 X.l.length c1) (.slice x1 X.n d1)/\ Bx2 U (b5+1) (.slice a2 Y.l.length c2) (.slice x2 Y.n d2))/\ (Bx2 V b5 (.slice a1 X.l.length c1) (.slice x1 X.n d1)/\ Bx2 V (b5+1) (.slice a2 Y.l.length c2) (.slice x2 Y.n d2))/\
  Bx2 V w.heap.size (.slice y1 S1.l.length e1) (.slice z1 S1.n e2)/\ Bx2 V (w.heap.size+1) (.slice y2 S2.l.length e3) (.slice z2 S2.n e4)/\ SNc V w.heap.size y1 z1 S1/\ SNc V w.heap.size y2 z2 S2/\ w.grownBy V (some rb):=by
 intro U V;have hb:=h.hb;obtain⟨q1,q2,q3⟩:=twoB h.r1 h.r2 (by omega) (.slice y1 S1.l.length e1) (.slice z1 S1.n e2) (.slice y2 S2.l.length e3) (.slice z2 S2.n e4);have f:∀{W:World} {b r:Nat} {u0 u1:Value},Bx2 W b u0 u1 ->r≠b ->∀v0 v1,Bx2 ((W.setCell ⟨r,0,none⟩ v0).setCell ⟨r,1,none⟩ v1) b u0 u1:=fun hh hne v0 v1=>(hh.setAt _ _ hne).setAt _ _ hne;exact⟨⟨q1,f h.p1 (by omega) _ _,f h.p2 (by omega) _ _⟩,⟨f (f h.p1 (by omega) _ _) (by omega) _ _,f (f h.p2 (by omega) _ _) (by omega) _ _⟩,q2,q3,snc4 t1 (by omega) (by omega) (by omega) _ _ _ _,snc4 t2 (by omega) (by omega) (by omega) _ _ _ _,grownBelow h.gr (below4 (Below.refl w.heap.size wx) (Nat.le_refl _) (Nat.le_succ _) _ _ _ _) (Nat.le_refl _)⟩
end
def PrQ (S1 S2:Sx)(w:World)(rb:Nat)(e:Ending)(w':World):Prop:=∃a1 c1 x1 d1 a2 c2 x2 d2,e=.returned (.tuple #[.agg #[.slice a1 S1.l.length c1,.slice x1 S1.n d1],.agg #[.slice a2 S2.l.length c2,.slice x2 S2.n d2]])/\ SNc w' w.heap.size a1 x1 S1/\ SNc w' w.heap.size a2 x2 S2/\ w.grownBy w' (some rb)
theorem l3JoinS (a x a' x':Option Addr)(c d c' d':Nat)(S S':Sx)(w:World){lo lo':Nat}(h:Vd S)(h':Vd S')(hs:SNc w lo a x S)(hs':SNc w lo' a' x' S'):
  Calls Tryz.prog 14 #[.agg #[.slice a S.l.length c,.slice x S.n d],.agg #[.slice a' S'.l.length c',.slice x' S'.n d']] w fun e w'=>∃a5 c5 x5 d5,e=.returned (.agg #[.slice a5 (jnS S S').l.length c5,.slice x5 (jnS S S').n d5])/\ SNc w' w.heap.size a5 x5 (jnS S S')/\ Below w.heap.size w w':=by
 have o:=ctxB_iff.1 h.1;have o':=ctxB_iff.1 h'.1;refine(l3JoinC a a' c c' S.l S'.l x S.n d S.R S.F S.T x' S'.n d' S'.R S'.F S'.T w o.2 o'.2 o.1 o'.1 h.2.1 h'.2.1 (ok_pth h) (ok_pth h') hs.at.1 hs'.at.1 hs.at.2 hs'.at.2).mono ?_;rintro e w1 ⟨⟨g,cg,ra,rc,P,Q,rfl,hl,hf⟩,b⟩;exact⟨_,cg,ra,rc,rfl,jn_at hl hf,b⟩
def PrP (f:Nat ->Int)(n x:Nat)(S1 S2:Sx):Prop:=(Gd S1/\ Gd S2)/\∀(B rb:Nat) (w:World),B<=w.heap.size ->RdJ w B rb f n x ->
  Calls Tryz.prog 11 #[.pointer (some ⟨rb,0,none⟩)] w fun e w'=>PrQ S1 S2 w rb e w'
theorem pairJ (f:Nat ->Int)(hf:Byt f)(n x:Nat):∃S1 S2,PrP f n x S1 S2:=by
 obtain⟨X,Y,x2,hd⟩:=drawJ f n (rx n x);obtain⟨k,hk⟩:∃k,rk f n x=k:=⟨_,rfl⟩;have hk256:k<256:=by rw [<- hk];exact rk_byt hf n x
 obtain⟨R,hR⟩:∃R,prS f n k x2 X Y=R:=⟨_,rfl⟩;refine⟨R.1,R.2,by rw [<- hR];exact prS_gd hf hk256 hd.1.1 hd.1.2,fun B rb w hB hrd=> ?_⟩;obtain⟨W,hW⟩:∃W,(w.alloc (.cells #[.slice none 0 0,.slice none 0 0] 28)).alloc (.cells #[.slice none 0 0,.slice none 0 0] 28)=W:=⟨_,rfl⟩;have b0:Below w.heap.size w W:=by rw [<- hW];exact below2 _ _ _
 have A0:Bx2 W w.heap.size (.slice none 0 0) (.slice none 0 0):=by rw [<- hW];exact(Bx2.made w _ _ _).allocs _
 have R0:Bx2 W (w.heap.size+1) (.slice none 0 0) (.slice none 0 0):=by rw [<- hW];simpa using Bx2.made (w.alloc (.cells #[.slice none 0 0,.slice none 0 0] 28)) (.slice none 0 0) (.slice none 0 0) 28
 have HRB:Hid (rb<w.heap.size):=hid (by have:=hrd.lt;omega);have HN:=hid (rdNextJ B rb f n x W (hrd.below (b0.mono hB)));rw [hk] at HN;have HR:=hid hR;have HD:=hid hd;have HA0:=hid A0;have HR0:=hid R0;have HB0:=hid b0;clear b0 A0 R0 hk hR hd hrd;go_enter Tryz.func11,Tryz.ntmps11;go_wp2_with fail;try rw [hW]
 clear hW;refine HN.out.mono ?_;rintro e w1 ⟨rfl,r1,g1⟩;have hz1:w.heap.size+2<=W.heap.size:=HR0.out.lt;have HZ1:Hid (W.heap.size<=w1.heap.size):=hid g1.size;have HG1:Hid (w.grownBy w1 (some rb)):=hid ⟨g1.os.trans HB0.out.os,g1.tape.trans HB0.out.tape,g1.output.trans HB0.out.output,Nat.le_trans HB0.out.size g1.size,fun q hq hne=>(g1.block q (by omega) hne).trans (HB0.out.block q hq)⟩;have HA1:=hid (HA0.out.grw g1 (by have:=HRB.out;omega));have HR1:=hid (HR0.out.grw g1 (by have:=HRB.out;omega));have HDW:=hid (HD.out.2 B rb w1 (by have:=HZ1.out;omega) r1);clear g1 r1 HN HA0 HR0 HB0;go_wp2_with fail;refine HDW.out.mono ?_;rintro e w2 ⟨a1,c1,x1,d1,a2,c2,y2,d2,rfl,s1,s2,r2,g2⟩;obtain⟨W3,hW3⟩:∃W3,(w2.alloc (.cells #[.slice a1 X.l.length c1,.slice x1 X.n d1] 28)).alloc (.cells #[.slice a2 Y.l.length c2,.slice y2 Y.n d2] 28)=W3:=⟨_,rfl⟩;have b3:Below w2.heap.size w2 W3:=by rw [<- hW3];exact below2 _ _ _
 have HP:Hid (PrS w W3 B rb f n x2 w2.heap.size X Y a1 x1 a2 y2 c1 d1 c2 d2):=hid (by
  have z1:=HZ1.out;have z2:=g2.size;have z3:=HRB.out;have A2:=HA1.out.grw g2 (by omega);have R2:=HR1.out.grw g2 (by omega);refine⟨A2.below b3 A2.lt,R2.below b3 R2.lt,?_,?_,(s1.below b3).move (by omega) (Nat.le_refl _) (fun _ _ _=>rfl),(s2.below b3).move (by omega) (Nat.le_refl _) (fun _ _ _=>rfl),r2.below (b3.mono (by omega)),grownBelow (grown_transJ HG1.out g2) b3 (by omega),hB,by omega,z3⟩
  ·rw [<- hW3];exact(Bx2.made w2 _ _ _).allocs _
  ·rw [<- hW3];simpa using Bx2.made (w2.alloc (.cells #[.slice a1 X.l.length c1,.slice x1 X.n d1] 28)) (.slice a2 Y.l.length c2) (.slice y2 Y.n d2) 28)
 obtain⟨b5,hb5⟩:∃b5,w2.heap.size=b5:=⟨_,rfl⟩;rw [hb5] at HP;have p0:=HP.out.p1.c0;have p1:=HP.out.p1.c1;have q0:=HP.out.p2.c0;have q1:=HP.out.p2.c1;clear s1 s2 r2 g2 b3 HDW HA1 HR1 HG1 HZ1;go_upto_if 16 with fail;try rw [hW3]
 try rw [hb5]
 clear hW3 hb5;by_cases h7:k%8=7
 ·
  have e7:((k:Int)%8==7)=true:=by rw [beq_iff_eq];omega
  have HE:Hid (R=(X,spS f n x2 Y)):=hid (by rw [<- HR.out];unfold prS;rw [if_pos h7]);go_wp2_with fail;refine wp_region_held_drew (S:=fun w'=>w'.cell? ⟨b5,0,none⟩=some (.slice a1 X.l.length c1)/\ w'.cell? ⟨b5,1,none⟩=some (.slice x1 X.n d1)/\ w'.cell? ⟨b5+1,0,none⟩=some (.slice a2 Y.l.length c2)/\ w'.cell? ⟨b5+1,1,none⟩=some (.slice y2 Y.n d2)) (by kernel_rfl) ⟨(HP.out.below (Below.refl _ _).drew).p1.c0,(HP.out.below (Below.refl _ _).drew).p1.c1,(HP.out.below (Below.refl _ _).drew).p2.c0,(HP.out.below (Below.refl _ _).drew).p2.c1⟩ (fun hHeld=> ?_);clear p0 p1 q0 q1;refine tZ 0 17 ?_;refine tZ 1 18 ?_;refine tZ 2 19 ?_;refine cZ 3 ?_;intro K hK;go_simp;refine(spoilStJ B rb (w.heap.size+2) f n x2 a2 y2 c2 d2 Y _ (HP.out.below (Below.refl _ _).drew).rd (by have:=HP.out.r2.lt;simp;omega) HD.out.1.2 (HP.out.below (Below.refl _ _).drew).s2 (by have:=HRB.out;omega)).mono ?_;rintro e w5 ⟨a5,c5,x5,d5,rfl,s5,r5,g5⟩;have HP5:=hid ((HP.out.below (Below.refl _ _).drew).gro g5 r5);have s5':SNc w5 (w.heap.size+2) a5 x5 (spS f n x2 Y):=s5.move (by have:=HP.out.r2.lt;simp;omega) (Nat.le_refl _) (fun _ _ _=>rfl);have X0:=HP5.out.r1.c0;have X1:=HP5.out.r1.c1;have Xf:=HP5.out.r1.f;have hF:=HP5.out.fin HP5.out.s1 s5' c1 d1 c5 d5;refine hK.out _ _ ⟨HP5.out.p1.c0,HP5.out.p1.c1,HP5.out.p2.c0,HP5.out.p2.c1⟩ (fun hHeld=> ?_);clear hK K;try simp only [Act.put,sZa,sZb,sZc]
  refine cZ 4 ?_;intro K hK;go_simp;have Y0:=hF.1.1.c0;have Y1:=hF.1.1.c1;have Yf:=hF.1.1.f;refine hK.out _ _ ⟨hF.1.2.1.c0,hF.1.2.1.c1,hF.1.2.2.c0,hF.1.2.2.c1⟩ (fun hHeld=> ?_);clear hK K;try simp only [Act.put,sZa,sZb,sZc]
  refine cZ 5 ?_;intro K hK;go_simp;refine hK.out _ _ ⟨hF.2.1.1.c0,hF.2.1.1.c1,hF.2.1.2.c0,hF.2.1.2.c1⟩ (fun hHeld=> ?_);clear hK K;try simp only [Act.put,sZa,sZb,sZc]
  refine wpAnyH_done (by kernel_rfl) ?_ _;have HF:=hid hF.2.2;clear hF hHeld X0 X1 Xf Y0 Y1 Yf;go_wp2_with fail;obtain⟨u1,u2,u3,u4,u5⟩:=HF.out;have k0:=u1.c0;have k1:=u1.c1;have k2:=u2.c0;have k3:=u2.c1;refine bodyPost_ret (v:=.tuple #[.agg #[.slice a1 X.l.length c1,.slice x1 X.n d1],.agg #[.slice a5 (spS f n x2 Y).l.length c5,.slice x5 (spS f n x2 Y).n d5]]) (by simp [results,Tryz.results11,go_sem,k0,k1,k2,k3]) rfl ?_;rw [HE.out];exact⟨_,_,_,_,_,_,_,_,rfl,u3,u4,u5⟩
 ·have e7:((k:Int)%8==7)=false:=by rw [beq_eq_false_iff_ne];omega
  by_cases h6:k%8=6
  ·
   have e6:((k:Int)%8==6)=true:=by rw [beq_iff_eq];omega
   have HE:Hid (R=(spS f n x2 X,Y)):=hid (by rw [<- HR.out];unfold prS;rw [if_neg h7,if_pos h6]);go_wp2_with fail;refine wp_region_held_drew (S:=fun w'=>w'.cell? ⟨b5,0,none⟩=some (.slice a1 X.l.length c1)/\ w'.cell? ⟨b5,1,none⟩=some (.slice x1 X.n d1)/\ w'.cell? ⟨b5+1,0,none⟩=some (.slice a2 Y.l.length c2)/\ w'.cell? ⟨b5+1,1,none⟩=some (.slice y2 Y.n d2)) (by kernel_rfl) ⟨(HP.out.below (Below.refl _ _).drew).p1.c0,(HP.out.below (Below.refl _ _).drew).p1.c1,(HP.out.below (Below.refl _ _).drew).p2.c0,(HP.out.below (Below.refl _ _).drew).p2.c1⟩ (fun hHeld=> ?_);clear p0 p1 q0 q1;refine tZ 0 24 ?_;refine tZ 1 25 ?_;refine tZ 3 27 ?_;refine cZ 2 ?_;intro K hK;go_simp;refine(spoilStJ B rb (w.heap.size+2) f n x2 a1 x1 c1 d1 X _ (HP.out.below (Below.refl _ _).drew).rd (by have:=HP.out.r2.lt;simp;omega) HD.out.1.1 (HP.out.below (Below.refl _ _).drew).s1 (by have:=HRB.out;omega)).mono ?_;rintro e w5 ⟨a5,c5,x5,d5,rfl,s5,r5,g5⟩;have HP5:=hid ((HP.out.below (Below.refl _ _).drew).gro g5 r5);have s5':SNc w5 (w.heap.size+2) a5 x5 (spS f n x2 X):=s5.move (by have:=HP.out.r2.lt;simp;omega) (Nat.le_refl _) (fun _ _ _=>rfl);have X0:=HP5.out.r1.c0;have X1:=HP5.out.r1.c1;have Xf:=HP5.out.r1.f;have hF:=HP5.out.fin s5' HP5.out.s2 c5 d5 c2 d2;refine hK.out _ _ ⟨HP5.out.p1.c0,HP5.out.p1.c1,HP5.out.p2.c0,HP5.out.p2.c1⟩ (fun hHeld=> ?_);clear hK K;try simp only [Act.put,sZa,sZb,sZc]
   refine cZ 4 ?_;intro K hK;go_simp;have Y0:=hF.1.1.c0;have Y1:=hF.1.1.c1;have Yf:=hF.1.1.f;refine hK.out _ _ ⟨hF.1.2.1.c0,hF.1.2.1.c1,hF.1.2.2.c0,hF.1.2.2.c1⟩ (fun hHeld=> ?_);clear hK K;try simp only [Act.put,sZa,sZb,sZc]
   refine cZ 5 ?_;intro K hK;go_simp;refine hK.out _ _ ⟨hF.2.1.1.c0,hF.2.1.1.c1,hF.2.1.2.c0,hF.2.1.2.c1⟩ (fun hHeld=> ?_);clear hK K;try simp only [Act.put,sZa,sZb,sZc]
   refine wpAnyH_done (by kernel_rfl) ?_ _;have HF:=hid hF.2.2;clear hF hHeld X0 X1 Xf Y0 Y1 Yf;go_wp2_with fail;obtain⟨u1,u2,u3,u4,u5⟩:=HF.out;have k0:=u1.c0;have k1:=u1.c1;have k2:=u2.c0;have k3:=u2.c1;refine bodyPost_ret (v:=.tuple #[.agg #[.slice a5 (spS f n x2 X).l.length c5,.slice x5 (spS f n x2 X).n d5],.agg #[.slice a2 Y.l.length c2,.slice y2 Y.n d2]]) (by simp [results,Tryz.results11,go_sem,k0,k1,k2,k3]) rfl ?_;rw [HE.out];exact⟨_,_,_,_,_,_,_,_,rfl,u3,u4,u5⟩
  ·have e6:((k:Int)%8==6)=false:=by rw [beq_eq_false_iff_ne];omega
   by_cases h4:k%4=1
   ·
    have e4:((k:Int)%4==1)=true:=by rw [beq_iff_eq];omega
    have HE:Hid (R=(X,jnS X Y)):=hid (by rw [<- HR.out];unfold prS;rw [if_neg h7,if_neg h6,if_pos h4]);go_wp2_with fail;refine wp_region_held_drew (S:=fun w'=>w'.cell? ⟨b5,0,none⟩=some (.slice a1 X.l.length c1)/\ w'.cell? ⟨b5,1,none⟩=some (.slice x1 X.n d1)/\ w'.cell? ⟨b5+1,0,none⟩=some (.slice a2 Y.l.length c2)/\ w'.cell? ⟨b5+1,1,none⟩=some (.slice y2 Y.n d2)) (by kernel_rfl) ⟨(HP.out.below (Below.refl _ _).drew).p1.c0,(HP.out.below (Below.refl _ _).drew).p1.c1,(HP.out.below (Below.refl _ _).drew).p2.c0,(HP.out.below (Below.refl _ _).drew).p2.c1⟩ (fun hHeld=> ?_);clear p0 p1 q0 q1;refine tZ 0 31 ?_;refine tZ 1 32 ?_;refine tZ 2 33 ?_;refine cZ 3 ?_;intro K hK;go_simp;refine(l3JoinS a1 x1 a2 y2 c1 d1 c2 d2 X Y _ HD.out.1.1.vd HD.out.1.2.vd (HP.out.below (Below.refl _ _).drew).s1 (HP.out.below (Below.refl _ _).drew).s2).mono ?_;rintro e w5 ⟨a5,c5,x5,d5,rfl,s5,b5'⟩;have HP5:=hid ((HP.out.below (Below.refl _ _).drew).below b5');have s5':SNc w5 (w.heap.size+2) a5 x5 (jnS X Y):=s5.move (by have:=HP.out.r2.lt;simp;omega) (Nat.le_refl _) (fun _ _ _=>rfl);have X0:=HP5.out.r1.c0;have X1:=HP5.out.r1.c1;have Xf:=HP5.out.r1.f;have hF:=HP5.out.fin HP5.out.s1 s5' c1 d1 c5 d5;refine hK.out _ _ ⟨HP5.out.p1.c0,HP5.out.p1.c1,HP5.out.p2.c0,HP5.out.p2.c1⟩ (fun hHeld=> ?_);clear hK K;try simp only [Act.put,sZa,sZb,sZc]
    refine cZ 4 ?_;intro K hK;go_simp;have Y0:=hF.1.1.c0;have Y1:=hF.1.1.c1;have Yf:=hF.1.1.f;refine hK.out _ _ ⟨hF.1.2.1.c0,hF.1.2.1.c1,hF.1.2.2.c0,hF.1.2.2.c1⟩ (fun hHeld=> ?_);clear hK K;try simp only [Act.put,sZa,sZb,sZc]
    refine cZ 5 ?_;intro K hK;go_simp;refine hK.out _ _ ⟨hF.2.1.1.c0,hF.2.1.1.c1,hF.2.1.2.c0,hF.2.1.2.c1⟩ (fun hHeld=> ?_);clear hK K;try simp only [Act.put,sZa,sZb,sZc]
    refine wpAnyH_done (by kernel_rfl) ?_ _;have HF:=hid hF.2.2;clear hF hHeld X0 X1 Xf Y0 Y1 Yf;go_wp2_with fail;obtain⟨u1,u2,u3,u4,u5⟩:=HF.out;have k0:=u1.c0;have k1:=u1.c1;have k2:=u2.c0;have k3:=u2.c1;refine bodyPost_ret (v:=.tuple #[.agg #[.slice a1 X.l.length c1,.slice x1 X.n d1],.agg #[.slice a5 (jnS X Y).l.length c5,.slice x5 (jnS X Y).n d5]]) (by simp [results,Tryz.results11,go_sem,k0,k1,k2,k3]) rfl ?_;rw [HE.out];exact⟨_,_,_,_,_,_,_,_,rfl,u3,u4,u5⟩
   ·have e4:((k:Int)%4==1)=false:=by rw [beq_eq_false_iff_ne];omega
    by_cases h2:k%32=2
    ·
     have e2:((k:Int)%32==2)=true:=by rw [beq_iff_eq];omega
     have HE:Hid (R=(wdS (397+k/32) 0 false,wdS 600 1 true)):=hid (by rw [<- HR.out];unfold prS;rw [if_neg h7,if_neg h6,if_neg h4,if_pos h2]);obtain⟨nw,hnw⟩:∃nw,397+k/32=nw:=⟨_,rfl⟩;rw [hnw] at HE;have en:IntKind.i64.wrap (397+(k:Int)/32)=(nw:Int):=by rw [show 397+(k:Int)/32=(nw:Int) by omega];exact wrapIn _ (by omega) (by omega)
     have HW1:=hid (wideJ nw 0 false (by omega) (by omega) W3);have HW2:=hid (wideJ 600 1 true (by omega) (by omega));simp only [Bool.false_eq_true,if_false] at HW1;simp only [if_true] at HW2;clear hnw;go_wp2_with fail;refine HW1.out.mono ?_;rintro e w4 ⟨a3,c3,x3,d3,rfl,s3,b3⟩;have HP4:=hid (HP.out.below b3);have hr2:=HP.out.r2.lt;have HW3:=hid (HW2.out w4);have HS3:Hid (SNc w4 (w.heap.size+2) a3 x3 (wdS nw 0 false)):=hid (s3.move (by omega) (Nat.le_refl _) (fun _ _ _=>rfl));clear s3 b3 HW1 HW2 p0 p1 q0 q1;go_wp2_with fail;refine HW3.out.mono ?_;rintro e w5 ⟨a5,c5,x5,d5,rfl,s5,b5'⟩;have HP5:=hid (HP4.out.below b5');have hr4:=HP4.out.r2.lt;have s5':SNc w5 (w.heap.size+2) a5 x5 (wdS 600 1 true):=s5.move (by omega) (Nat.le_refl _) (fun _ _ _=>rfl);have hF:=HP5.out.fin (HS3.out.below b5') s5' c3 d3 c5 d5;have X0:=HP5.out.r1.c0;have X1:=HP5.out.r1.c1;have Xf:=HP5.out.r1.f;have Y0:=hF.1.1.c0;have Y1:=hF.1.1.c1;have Yf:=hF.1.1.f;have HF:=hid hF.2.2;clear hF s5 s5' b5' HW3;go_wp2_with fail;obtain⟨u1,u2,u3,u4,u5⟩:=HF.out;have k0:=u1.c0;have k1:=u1.c1;have k2:=u2.c0;have k3:=u2.c1;refine bodyPost_ret (v:=.tuple #[.agg #[.slice a3 (wdS nw 0 false).l.length c3,.slice x3 (wdS nw 0 false).n d3],.agg #[.slice a5 (wdS 600 1 true).l.length c5,.slice x5 (wdS 600 1 true).n d5]]) (by simp [results,Tryz.results11,go_sem,k0,k1,k2,k3]) rfl ?_;rw [HE.out];exact⟨_,_,_,_,_,_,_,_,rfl,u3,u4,u5⟩
    ·have e2:((k:Int)%32==2)=false:=by rw [beq_eq_false_iff_ne];omega
     have HE:Hid (R=(X,Y)):=hid (by rw [<- HR.out];unfold prS;rw [if_neg h7,if_neg h6,if_neg h4,if_neg h2]);go_wp2_with fail;refine wp_region_held_drew (S:=fun w'=>w'.cell? ⟨b5,0,none⟩=some (.slice a1 X.l.length c1)/\ w'.cell? ⟨b5,1,none⟩=some (.slice x1 X.n d1)/\ w'.cell? ⟨b5+1,0,none⟩=some (.slice a2 Y.l.length c2)/\ w'.cell? ⟨b5+1,1,none⟩=some (.slice y2 Y.n d2)) (by kernel_rfl) ⟨(HP.out.below (Below.refl _ _).drew).p1.c0,(HP.out.below (Below.refl _ _).drew).p1.c1,(HP.out.below (Below.refl _ _).drew).p2.c0,(HP.out.below (Below.refl _ _).drew).p2.c1⟩ (fun hHeld=> ?_);clear p0 p1 q0 q1;refine tZ 0 43 ?_;refine tZ 1 44 ?_;have X0:=HP.out.r1.c0;have X1:=HP.out.r1.c1;have Xf:=HP.out.r1.f;have hF:=HP.out.fin HP.out.s1 HP.out.s2 c1 d1 c2 d2;refine cZ 2 ?_;intro K hK;go_simp;have Y0:=hF.1.1.c0;have Y1:=hF.1.1.c1;have Yf:=hF.1.1.f;refine hK.out _ _ ⟨hF.1.2.1.c0,hF.1.2.1.c1,hF.1.2.2.c0,hF.1.2.2.c1⟩ (fun hHeld=> ?_);clear hK K;try simp only [Act.put,sZa,sZb,sZc]
     refine cZ 3 ?_;intro K hK;go_simp;refine hK.out _ _ ⟨hF.2.1.1.c0,hF.2.1.1.c1,hF.2.1.2.c0,hF.2.1.2.c1⟩ (fun hHeld=> ?_);clear hK K;try simp only [Act.put,sZa,sZb,sZc]
     refine wpAnyH_done (by kernel_rfl) ?_ _;have HF:=hid hF.2.2;clear hF hHeld X0 X1 Xf Y0 Y1 Yf;go_wp2_with fail;obtain⟨u1,u2,u3,u4,u5⟩:=HF.out;have k0:=u1.c0;have k1:=u1.c1;have k2:=u2.c0;have k3:=u2.c1;refine bodyPost_ret (v:=.tuple #[.agg #[.slice a1 X.l.length c1,.slice x1 X.n d1],.agg #[.slice a2 Y.l.length c2,.slice y2 Y.n d2]]) (by simp [results,Tryz.results11,go_sem,k0,k1,k2,k3]) rfl ?_;rw [HE.out];exact⟨_,_,_,_,_,_,_,_,rfl,u3.below (Below.refl _ _).drew,u4.below (Below.refl _ _).drew,⟨u5.os,u5.tape,u5.output,u5.size,u5.block⟩⟩
def DjP (f:Nat ->Int)(n:Nat)(S1 S2:Sx):Prop:=(Gd S1/\ Gd S2)/\∀(a:Option Addr) (c:Nat) (w:World),n<=c ->Seg w a n f ->
  Calls Tryz.prog 4 #[.slice a n c] w fun e w'=>∃a1 c1 x1 d1 a2 c2 x2 d2,e=.returned (.tuple #[.agg #[.slice a1 S1.l.length c1,.slice x1 S1.n d1],.agg #[.slice a2 S2.l.length c2,.slice x2 S2.n d2]])/\ SNc w' w.heap.size a1 x1 S1/\ SNc w' w.heap.size a2 x2 S2/\ Below w.heap.size w w'
theorem drawJoinJ (f:Nat ->Int)(hf:Byt f)(n:Nat)(hn:n<=9223372036854775807):∃S1 S2,DjP f n S1 S2:=by
 obtain⟨S1,S2,hp⟩:=pairJ f hf (min n 1000) 0;refine⟨S1,S2,hp.1,fun a c w hc hs=> ?_⟩;obtain⟨W,hW⟩:∃W,(w.alloc (.cells #[.slice none 0 0,.slice none 0 0] 28)).alloc (.cells #[.slice none 0 0,.slice none 0 0] 28)=W:=⟨_,rfl⟩;have b0:Below w.heap.size w W:=by rw [<- hW];exact below2 _ _ _
 have A0:Bx2 W w.heap.size (.slice none 0 0) (.slice none 0 0):=by rw [<- hW];exact(Bx2.made w _ _ _).allocs _
 have R0:Bx2 W (w.heap.size+1) (.slice none 0 0) (.slice none 0 0):=by rw [<- hW];simpa using Bx2.made (w.alloc (.cells #[.slice none 0 0,.slice none 0 0] 28)) (.slice none 0 0) (.slice none 0 0) 28
 have HO:=hid (rdOpenJ a n c f W hc hn (hs.below b0) hf);have HP:=hid hp.2;have HA0:=hid A0;have HR0:=hid R0;have HB0:=hid b0;clear b0 A0 R0 hs hp;go_enter Tryz.func4,Tryz.ntmps4;go_wp2_with fail;try rw [hW]
 clear hW;refine HO.out.mono ?_;rintro e w1 ⟨rfl,r1,b1⟩;have hz1:w.heap.size+2<=W.heap.size:=HR0.out.lt;have HC:=hid (HP.out _ _ w1 (by have:=r1.lt.1;omega) r1);have HB1:=hid b1;clear r1 b1 HO HP;go_wp2_with fail;refine HC.out.mono ?_;rintro e w2 ⟨a1,c1,x1,d1,a2,c2,x2,d2,rfl,s1,s2,g2⟩;have hz2:=HB1.out.size;have b2:Below w.heap.size w w2:=by
  have b:=HB0.out.trans (HB1.out.mono HB0.out.size);refine⟨g2.os.trans b.os,g2.tape.trans b.tape,g2.output.trans b.output,Nat.le_trans b.size g2.size,fun q hq=> ?_⟩;exact(g2.block q (by omega) (fun e=>by injection e with e;omega)).trans (b.block q hq)
 have A2:=(HA0.out.below HB1.out HA0.out.lt).grw g2 (by omega);have R2:=(HR0.out.below HB1.out HR0.out.lt).grw g2 (by omega);obtain⟨q1,q2,q3⟩:=twoB A2 R2 (by omega) (.slice a1 S1.l.length c1) (.slice x1 S1.n d1) (.slice a2 S2.l.length c2) (.slice x2 S2.n d2);have X0:=A2.c0;have X1:=A2.c1;have Xf:=A2.f;have Y0:=q1.c0;have Y1:=q1.c1;have Yf:=q1.f;have HQ:=hid (And.intro q2 q3);have HS1:=hid s1;have HS2:=hid s2;have HB2:=hid b2;have HZ2:Hid (w.heap.size+2<=w1.heap.size):=hid (by omega);clear s1 s2 g2 b2 A2 R2 q1 q2 q3 HC;go_wp2_with fail;have k0:=HQ.out.1.c0;have k1:=HQ.out.1.c1;have k2:=HQ.out.2.c0;have k3:=HQ.out.2.c1;have z2:=HZ2.out;refine bodyPost_ret (v:=.tuple #[.agg #[.slice a1 S1.l.length c1,.slice x1 S1.n d1],.agg #[.slice a2 S2.l.length c2,.slice x2 S2.n d2]]) (by simp [results,Tryz.results4,go_sem,k0,k1,k2,k3]) rfl ?_;exact⟨a1,c1,x1,d1,a2,c2,x2,d2,rfl,snc4 HS1.out (by omega) (by omega) (by omega) _ _ _ _,snc4 HS2.out (by omega) (by omega) (by omega) _ _ _ _,below4 HB2.out (Nat.le_refl _) (Nat.le_succ _) _ _ _ _⟩
end Go.Proofs.YtpfmeafmepgimaaGreat
namespace Go.Proofs.YtpfmeafmepgimaaGreat
open Go.ChangeShapes Go.WideShapes Go.ChangeAt Go.RowKit
def LAt (w:World)(b off:Nat)(l:List Lf)(i m:Nat):Prop:=b<w.heap.size/\∀t,t<m ->∃qa qc,w.cell? ⟨b,off+t*5,none⟩=some (.slice qa (gL l (i+t)).p.length qc)/\ SSeg w qa (gL l (i+t)).p/\ w.cell? ⟨b,off+t*5+1,none⟩=some (.bool (gL l (i+t)).fl)/\ w.cell? ⟨b,off+t*5+2,none⟩=some (.int .i64 (gL l (i+t)).r)/\ w.cell? ⟨b,off+t*5+3,none⟩=some (.int .i64 (gL l (i+t)).q)/\ w.cell? ⟨b,off+t*5+4,none⟩=some (.string (gL l (i+t)).v)
theorem LAt.below {w w':World}{b off i m:Nat}{l:List Lf}(h:LAt w b off l i m)(hb:Below w.heap.size w w'):LAt w' b off l i m:=
 ⟨Nat.lt_of_lt_of_le h.1 hb.size,fun t ht=>by
  obtain⟨qa,qc,h0,h1,h2,h3,h4,h5⟩:=h.2 t ht;exact⟨qa,qc,(hb.cell (p:=⟨b,_,none⟩) h.1).trans h0,h1.below hb,(hb.cell (p:=⟨b,_,none⟩) h.1).trans h2,(hb.cell (p:=⟨b,_,none⟩) h.1).trans h3,(hb.cell (p:=⟨b,_,none⟩) h.1).trans h4,(hb.cell (p:=⟨b,_,none⟩) h.1).trans h5⟩⟩
theorem LAt.take {w:World}{b off i m k:Nat}{l:List Lf}(h:LAt w b off l i m)(hk:k<=m):LAt w b off l i k:=⟨h.1,fun t ht=>h.2 t (by omega)⟩
theorem LAt.drop {w:World}{b off i m k:Nat}{l:List Lf}(h:LAt w b off l i m)(hk:k<=m):LAt w b (off+k*5) l (i+k) (m - k):=⟨h.1,fun t ht=>by
 have:=h.2 (k+t) (by omega);rw [show off+(k+t)*5=off+k*5+t*5 by omega,show i+(k+t)=i+k+t by omega] at this;exact this⟩
def kAt (d n:Nat)(fl:Bool):Int:=if d+1<n then 3 else kd fl
theorem l4KindC (pa:Option Addr)(n pc:Nat)(fl:Bool)(r q:Int)(v:ByteArray)(d:Nat)(w:World)(hn:n<=1048576)(hd:d<=1000):
  Calls Tryz.prog 119 #[.agg #[.slice pa n pc,.bool fl,.int .i64 r,.int .i64 q,.string v],.int .i64 (d:Int)] w fun e w'=>e=.returned (.int .i64 (kAt d n fl))/\ Below w.heap.size w w':=by
 have HB:=hid ((Below.refl w.heap.size w).alloc (Nat.le_refl _) (.cells #[.slice pa n pc,.bool fl,.int .i64 r,.int .i64 q,.string v] 65));by_cases h:d+1<n
 ·have h1:(d:Int)+1<(n:Int):=by omega
  have HK:Hid (kAt d n fl=3):=hid (if_pos h);go_enter Tryz.func119,Tryz.ntmps119;go_wp2_with fail;go_ret;exact⟨by rw [HK.out];rfl,HB.out⟩
 ·have h1:¬(d:Int)+1<(n:Int):=by omega
  cases fl with
  | true=>
   have HK:Hid (kAt d n true=2):=hid (if_neg h);go_enter Tryz.func119,Tryz.ntmps119;go_wp2_with fail;go_ret;exact⟨by rw [HK.out];rfl,HB.out⟩
  | false=>
   have HK:Hid (kAt d n false=1):=hid (if_neg h);go_enter Tryz.func119,Tryz.ntmps119;go_wp2_with fail;go_ret;exact⟨by rw [HK.out];rfl,HB.out⟩
theorem l4GroupC (l:List Lf)(b off i m c d:Nat)(w:World)(hm:1<=m)(hm2:m<=1048576)(hd:d<=1000)(hp:∀t,t<m ->d<(gL l (i+t)).p.length/\ (gL l (i+t)).p.length<=1048576)(h:LAt w b off l i m):
  Calls Tryz.prog 118 #[.slice (some ⟨b,off,none⟩) m c,.int .i64 (d:Int)] w fun e w'=>(∃g:Nat,e=.returned (.int .i64 (g:Int))/\ 1<=g/\ g<=m/\ (∀t,t<g ->onWay (gL l (i+t)).p (kd (gL l (i+t)).fl) d=onWay (gL l i).p (kd (gL l i).fl) d)/\ (g<m ->onWay (gL l (i+g)).p (kd (gL l (i+g)).fl) d≠onWay (gL l i).p (kd (gL l i).fl) d))/\ Below w.heap.size w w':=by
 have HL:=hid h;have HP:=hid hp;clear h hp;go_enter Tryz.func118,Tryz.ntmps118;go_wp2_with fail;go_loopw [5] (fun i' wr=>∃k:Nat,k<=m/\ i'=.int .i64 k/\ Hid (∀t,t<k ->onWay (gL l (i+t)).p (kd (gL l (i+t)).fl) d=onWay (gL l i).p (kd (gL l i).fl) d)/\ Hid (Below w.heap.size w wr)) (fun i' _=>m - (intOf i').toNat);case atStart=>exact⟨0,Nat.zero_le _,rfl,hid (fun t ht=>by omega),hid (Below.refl _ _)⟩
 case round=>
  obtain⟨k,hk,rfl,HE,HB⟩:=hrel;by_cases hlt:k<m
  ·have HLr:=HL.out.below HB.out;obtain⟨qa,kc,h0,hs,h1,h2,h3,h4⟩:=HLr.2 k hlt;obtain⟨qz,zc,g0,gs,g1,g2,g3,g4⟩:=HLr.2 0 (by omega);have hpk:=HP.out k hlt;have hpz:=HP.out 0 (by omega);simp only [Nat.add_zero,Nat.zero_mul] at g0 gs g1 g2 g3 g4 hpz;rcases hs with hs|⟨kb,ko,rfl,hkb,hkc⟩
   ·omega
   rcases gs with gs|⟨zb,zo,rfl,hzb,hzc⟩
   ·omega
   have h5:=hkc d hpk.1;have g5:=hzc d hpz.1;have HSAME:Hid (k=0 ->gL l (i+k)=gL l i):=hid (fun e=>by rw [e,Nat.add_zero]);have HNXT:Hid (onWay (gL l (i+k)).p (kd (gL l (i+k)).fl) d=onWay (gL l i).p (kd (gL l i).fl) d↔gS (gL l (i+k)).p d=gS (gL l i).p d/\ kAt d (gL l (i+k)).p.length (gL l (i+k)).fl=kAt d (gL l i).p.length (gL l i).fl):=hid (by unfold onWay kAt;exact Prod.mk.injEq _ _ _ _ ▸ Iff.rfl);have HEND:Hid (onWay (gL l (i+k)).p (kd (gL l (i+k)).fl) d≠onWay (gL l i).p (kd (gL l i).fl) d ->1<=k):=hid (fun hne=>by
    rcases Nat.eq_zero_or_pos k with e|e
    ·exact absurd (by rw [HSAME.out e]) hne
    ·exact e)
   have HNE:Hid (∀v,onWay (gL l (i+k)).p (kd (gL l (i+k)).fl) d≠onWay (gL l i).p (kd (gL l i).fl) d ->v=k ->(1<=v/\ v<=m/\ (∀t,t<v ->onWay (gL l (i+t)).p (kd (gL l (i+t)).fl) d=onWay (gL l i).p (kd (gL l i).fl) d)/\ (v<m ->onWay (gL l (i+v)).p (kd (gL l (i+v)).fl) d≠onWay (gL l i).p (kd (gL l i).fl) d))):=hid (fun v h e=>by subst e;exact⟨HEND.out h,hk,HE.out,fun _=>h⟩);have HGO:Hid (onWay (gL l (i+k)).p (kd (gL l (i+k)).fl) d=onWay (gL l i).p (kd (gL l i).fl) d ->∀t,t<k+1 ->onWay (gL l (i+t)).p (kd (gL l (i+t)).fl) d=onWay (gL l i).p (kd (gL l i).fl) d):=hid (fun h t ht=>by
    by_cases e:t=k
    ·subst e;exact h
    ·exact HE.out t (by omega))
   obtain⟨X,hX⟩:∃X,(onWay (gL l (i+k)).p (kd (gL l (i+k)).fl) d=onWay (gL l i).p (kd (gL l i).fl) d)=X:=⟨_,rfl⟩;have HX:=hid hX;rw [hX] at HNXT;clear hkc hzc;obtain⟨yk,hyk⟩:∃y,gL l (i+k)=y:=⟨_,rfl⟩;obtain⟨yz,hyz⟩:∃y,gL l i=y:=⟨_,rfl⟩;rw [hyk] at h0 h1 h2 h3 h4 h5 hpk HNXT;rw [hyz] at g0 g1 g2 g3 g4 g5 hpz HNXT;clear hyk hyz;obtain⟨kp,kf,kr,kq,kv⟩:=yk;obtain⟨zp,zf,zr,zq,zv⟩:=yz;dsimp only at h0 h1 h2 h3 h4 h5 hpk g0 g1 g2 g3 g4 g5 hpz HNXT;clear hX;obtain⟨s,hs'⟩:∃s,gS kp d=s:=⟨_,rfl⟩;obtain⟨z,hz'⟩:∃z,gS zp d=z:=⟨_,rfl⟩;obtain⟨kn,hkn⟩:∃kn,kp.length=kn:=⟨_,rfl⟩;obtain⟨zn,hzn⟩:∃zn,zp.length=zn:=⟨_,rfl⟩;rw [hs',hz',hkn,hzn] at HNXT;rw [hs'] at h5;rw [hz'] at g5;rw [hkn] at h0 hpk;rw [hzn] at g0 hpz;have i1:(0:Int)<=(k:Int):=Int.natCast_nonneg _;have i2:(k:Int)<(m:Int):=by omega
   have i3:(0:Int)<=(d:Int):=Int.natCast_nonneg _;have i4:(d:Int)<(kn:Int):=by omega
   have i5:(d:Int)<(zn:Int):=by omega
   have i6:(0:Int)<(m:Int):=by omega
   have i7:0<m:=by omega
   have hbr:b<wr.heap.size:=HLr.1;clear hs' hz' hkn hzn HLr;have dk:decide ((k:Int)<(m:Int))=true:=by simp;omega
   have dk2:decide (k<m)=true:=by simp;omega
   go_wp2_with fail;cases hsz:(s.toList==z.toList) with
   | false=>
    have HNX:Hid (¬X):=hid (fun h=>by rw [(HNXT.out.1 h).1] at hsz;simp at hsz);go_quiet (fail);have HBq:=hid (below_drewS HB.out nq);go_wp2_with fail;go_ret;exact⟨⟨k,rfl,HNE.out k (fun h=>HNX.out (by rw [<- HX.out];exact h)) rfl⟩,HBq.out⟩
   | true=>
    have HSZ:Hid (s=z):=hid (toList_inj (by simpa using hsz));have HCS:Hid (∀w',Below wr.heap.size wr w' ->(Below wr.heap.size wr w'/\ w'.cell? ⟨b,off+k*5,none⟩=some (.slice (some ⟨kb,ko,none⟩) kn kc)/\ w'.cell? ⟨b,off+k*5+1,none⟩=some (.bool kf)/\ w'.cell? ⟨b,off+k*5+2,none⟩=some (.int .i64 kr)/\ w'.cell? ⟨b,off+k*5+3,none⟩=some (.int .i64 kq)/\ w'.cell? ⟨b,off+k*5+4,none⟩=some (.string kv)/\ w'.cell? ⟨kb,ko+d,none⟩=some (.string s)/\ w'.cell? ⟨b,off,none⟩=some (.slice (some ⟨zb,zo,none⟩) zn zc)/\ w'.cell? ⟨b,off+1,none⟩=some (.bool zf)/\ w'.cell? ⟨b,off+2,none⟩=some (.int .i64 zr)/\ w'.cell? ⟨b,off+3,none⟩=some (.int .i64 zq)/\ w'.cell? ⟨b,off+4,none⟩=some (.string zv)/\ w'.cell? ⟨zb,zo+d,none⟩=some (.string z))):=hid (fun w' hB=>⟨hB,(hB.cell (p:=⟨b,_,none⟩) hbr).trans h0,(hB.cell (p:=⟨b,_,none⟩) hbr).trans h1,(hB.cell (p:=⟨b,_,none⟩) hbr).trans h2,(hB.cell (p:=⟨b,_,none⟩) hbr).trans h3,(hB.cell (p:=⟨b,_,none⟩) hbr).trans h4,(hB.cell (p:=⟨kb,_,none⟩) hkb).trans h5,(hB.cell (p:=⟨b,_,none⟩) hbr).trans g0,(hB.cell (p:=⟨b,_,none⟩) hbr).trans g1,(hB.cell (p:=⟨b,_,none⟩) hbr).trans g2,(hB.cell (p:=⟨b,_,none⟩) hbr).trans g3,(hB.cell (p:=⟨b,_,none⟩) hbr).trans g4,(hB.cell (p:=⟨zb,_,none⟩) hzb).trans g5⟩);clear h0 h1 h2 h3 h4 h5 g0 g1 g2 g3 g4 g5;refine wp_region_held_drew (S:=fun w'=>Below wr.heap.size wr w'/\ w'.cell? ⟨b,off+k*5,none⟩=some (.slice (some ⟨kb,ko,none⟩) kn kc)/\ w'.cell? ⟨b,off+k*5+1,none⟩=some (.bool kf)/\ w'.cell? ⟨b,off+k*5+2,none⟩=some (.int .i64 kr)/\ w'.cell? ⟨b,off+k*5+3,none⟩=some (.int .i64 kq)/\ w'.cell? ⟨b,off+k*5+4,none⟩=some (.string kv)/\ w'.cell? ⟨kb,ko+d,none⟩=some (.string s)/\ w'.cell? ⟨b,off,none⟩=some (.slice (some ⟨zb,zo,none⟩) zn zc)/\ w'.cell? ⟨b,off+1,none⟩=some (.bool zf)/\ w'.cell? ⟨b,off+2,none⟩=some (.int .i64 zr)/\ w'.cell? ⟨b,off+3,none⟩=some (.int .i64 zq)/\ w'.cell? ⟨b,off+4,none⟩=some (.string zv)/\ w'.cell? ⟨zb,zo+d,none⟩=some (.string z)) (by kernel_rfl) (HCS.out _ (Below.refl _ _).drew) (fun hHeld=> ?_);refine tZ 0 6 ?_;refine tZ 1 7 ?_;refine tZ 2 8 ?_;refine tZ 3 9 ?_;refine tZ 4 10 ?_;refine tZ 5 11 ?_;refine tZ 6 12 ?_;refine tZ 7 13 ?_;refine tZ 8 14 ?_;refine tZ 9 15 ?_;refine tZ 10 16 ?_;refine tZ 11 17 ?_;refine tZ 12 18 ?_;refine tZ 13 19 ?_;refine tZ 14 20 ?_;refine tZ 15 21 ?_;refine tZ 16 22 ?_;refine tZ 17 23 ?_;refine tZ 18 24 ?_;refine tZ 19 25 ?_;refine tZ 20 26 ?_;refine tZ 21 27 ?_;refine tZ 22 28 ?_;refine tZ 23 29 ?_;refine tZ 24 30 ?_;refine tZ 25 31 ?_;refine tZ 26 32 ?_;refine tZ 27 33 ?_;refine tZ 29 35 ?_;refine tZ 30 36 ?_;refine tZ 31 37 ?_;refine tZ 32 38 ?_;refine cZ 28 ?_;intro K hK;go_simp;refine(l4KindC (some ⟨kb,ko,none⟩) kn kc kf kr kq kv d _ (by omega) hd).mono ?_;rintro e w1 ⟨rfl,b1⟩;have hB1:=keepS hHeld.1 b1;refine hK.out _ _ (HCS.out _ hB1) (fun hHeld=> ?_);clear hK K;try simp only [Act.put,sZa,sZb,sZc]
    refine cZ 33 ?_;intro K hK;go_simp;refine(l4KindC (some ⟨zb,zo,none⟩) zn zc zf zr zq zv d _ (by omega) hd).mono ?_;rintro e w2 ⟨rfl,b2⟩;have hB2:=keepS hB1 b2;refine hK.out _ _ (HCS.out _ hB2) (fun hHeld=> ?_);clear hK K;try simp only [Act.put,sZa,sZb,sZc]
    have HB2:=hid (HB.out.trans (hB2.mono HB.out.size));obtain⟨K1,hK1⟩:∃K1,kAt d kn kf=K1:=⟨_,rfl⟩;obtain⟨K2,hK2⟩:∃K2,kAt d zn zf=K2:=⟨_,rfl⟩;rw [hK1,hK2] at HNXT ⊢;clear hK1 hK2 b1 b2;cases hkk:(K1==K2) with
    | false=>
     refine tZ 34 40 ?_;refine tZ 35 41 ?_;refine wpAnyH_done (by kernel_rfl) ?_ _;have HNX:Hid (¬X):=hid (fun h=>by rw [(HNXT.out.1 h).2] at hkk;simp at hkk);clear hHeld hB1 hB2;go_wp2_with fail;go_ret;exact⟨⟨k,rfl,HNE.out k (fun h=>HNX.out (by rw [<- HX.out];exact h)) rfl⟩,HB2.out⟩
    | true=>
     refine tZ 34 40 ?_;refine tZ 35 41 ?_;refine wpAnyH_done (by kernel_rfl) ?_ _;have HNX:Hid X:=hid (HNXT.out.2 ⟨HSZ.out,by simpa using hkk⟩);clear hHeld hB1 hB2;go_wp2_with fail;go_roundw;case rel=>exact⟨k+1,hlt,by go_num,hid (HGO.out (by rw [HX.out];exact HNX.out)),HB2⟩
     case measure=>simp [intOf];omega
  ·obtain rfl:k=m:=by omega
   have dk:decide ((k:Int)<(k:Int))=false:=by simp
   have dk2:decide (k<k)=false:=by simp
   go_wp2_with fail;go_quiet (fail);have HBq:=hid (below_drewS HB.out nq);go_wp2_with fail;go_ret;exact⟨⟨k,rfl,hm,Nat.le_refl _,HE.out,fun h=>by omega⟩,HBq.out⟩
theorem appO (B B':Nat)(v x:Value)(zs ns:List Int)(w:World)(ho:Own w B v zs)(hx:Own w B' x ns)(hxn:x.ownBlock≠none)(hB:B<=w.heap.size)(hl:zs.length+ns.length<=1000000000):
  ∃v' w',(Builtin.append_ #[22,22] 22 #[v,x]).run Tryz.prog w=.ok v' w'/\ Own w' B v' (zs++ns)/\ Gr w w' v v'/\ (v.ownBlock≠none ->v'.ownBlock≠none):=by
 have hx':w.ownsRow B' 5 1 x ns.length (ns.map (Value.int .u8)):=hx;rcases hx'.2 with ⟨rfl,_⟩|⟨g,cap,cur,rfl,_⟩
 ·exact absurd rfl hxn
 obtain⟨v',w',h1,h2,h3⟩:=bytesApp B v zs ns ⟨g,0,none⟩ ns.length cap w ho rfl (World.ownsRow.cells hx' rfl) hB (by omega);refine⟨v',w',h1,h2,h3,fun hv=> ?_⟩;rcases h3.l with e|⟨k,e,_⟩
 ·rw [e];exact hv
 ·rw [e];simp
theorem own_ne {w:World}{B:Nat}{v:Value}{zs:List Int}(h:Own w B v zs)(hz:0<zs.length):v.ownBlock≠none:=by
 obtain⟨h1,h2⟩:=h;rcases h2 with ⟨_,h2⟩|⟨g,cap,cur,rfl,_⟩
 ·omega
 ·simp [Value.ownBlock]
theorem tB_pos (l:List Lf)(f:Nat)(p:List ByteArray):0<(tB l (f+1) p).length:=by
 rw [tB_eq,List.length_append];have:=(uvF_len 9 (kS l p l.length).length).2;omega
theorem kS_pre (l:List Lf)(p:List ByteArray)(k:Nat):∀j,k<=j ->kS l p k <+:kS l p j
 | 0,h=>by rw [show k=0 by omega];exact List.prefix_refl _
 | j+1,h=>by
  by_cases e:k=j+1
  ·rw [e];exact List.prefix_refl _
  ·have ih:=kS_pre l p k j (by omega);cases h1:nx p (gL l j) with
   | none=>rw [kS_none h1];exact ih
   | some y=>
    rw [kS_some h1];split
    ·exact ih
    ·exact ih.trans (List.prefix_append _ _)
theorem flat_pre {α:Type}(f:α ->List Int){a b:List α}(h:a <+:b):(a.flatMap f).length<=(b.flatMap f).length:=by
 obtain⟨c,rfl⟩:=h;rw [List.flatMap_append,List.length_append];omega
structure Bd (w wr:World)(body:Value)(zs:List Int):Prop where
 b:Below w.heap.size w wr
 o:Own wr w.heap.size body zs
 n:body.ownBlock≠none
theorem Bd.keep {w wr w1:World}{body:Value}{zs:List Int}(h:Bd w wr body zs)(hb:Below wr.heap.size wr w1):Bd w w1 body zs:=
 ⟨h.b.trans (hb.mono h.b.size),Own.kept h.o hb (fun k hk=>(World.ownsRow.lt h.o k hk).2),h.n⟩
theorem Bd.app {w wr w1:World}{body v:Value}{zs ns:List Int}(h:Bd w wr body zs)(hb:Below wr.heap.size wr w1)(ho:Own w1 wr.heap.size v ns)(hz:0<ns.length)(hl:zs.length+ns.length<=1000000000):
  ∃v' w2,(Builtin.append_ #[22,22] 22 #[body,v]).run Tryz.prog w1=.ok v' w2/\ Bd w w2 v' (zs++ns):=by
 have h1:=h.keep hb;obtain⟨v',w2,e,o2,g2,n2⟩:=appO w.heap.size wr.heap.size body v zs ns w1 h1.o ho (own_ne ho hz) h1.b.size hl;exact⟨v',w2,e,h1.b.trans (g2.below h1.b.size (fun k hk=>(World.ownsRow.lt h1.o k hk).1)),o2,n2 h.n⟩
theorem Bd.byte {w wr:World}{body:Value}{zs:List Int}(h:Bd w wr body zs)(Y:Int)(hl:zs.length<=1000000000):
  ∃v' w2,(Builtin.append_ #[22,22] 22 #[body,.slice (some ⟨wr.heap.size,0,none⟩) 1 1]).run Tryz.prog (wr.alloc (.cells #[.int .u8 Y] 5))=.ok v' w2/\ Bd w w2 v' (zs++[Y]):=by
 have b1:Below wr.heap.size wr (wr.alloc (.cells #[.int .u8 Y] 5)):=(Below.refl _ _).alloc (Nat.le_refl _) _;have h1:=h.keep b1;obtain⟨v',w2,e,o2,g2⟩:=bytesApp w.heap.size body zs [Y] ⟨wr.heap.size,0,none⟩ 1 1 (wr.alloc (.cells #[.int .u8 Y] 5)) h1.o rfl (fun i u hu=>cell_one_new _ _ _ i u hu) h1.b.size (by omega);refine⟨v',w2,e,h1.b.trans (g2.below h1.b.size (fun k hk=>(World.ownsRow.lt h1.o k hk).1)),o2,?_⟩;rcases g2.l with e1|⟨k,e1,_⟩
 ·rw [e1];exact h.n
 ·rw [e1];simp
theorem grp_all {R F T:Nat ->Int}{n:Nat}{l:List Lf}{p:List ByteArray}{i e J g:Nat}{y:Ky}(hlv:LvOk R F T n l l.length)(hI:Iv l p i e)(hij:i<=J)(hfr:y ∉ kS l p J)(h1:1<=g)(hge:J+g<=e)(hy:onWay (gL l J).p (kd (gL l J).fl) p.length=y)(hsame:∀t,t<g ->onWay (gL l (J+t)).p (kd (gL l (J+t)).fl) p.length=y)(hdiff:J+g<e ->onWay (gL l (J+g)).p (kd (gL l (J+g)).fl) p.length≠y):
  kS l p (J+g)=kS l p J++[y]/\ dsK l p y l.length=((List.range g).map fun t=>gL l (J+t))/\ (∀s,y=(s,3) ->Iv l (p++[s]) J (J+g))/\∀z,nx p (gL l (J+g))=some z ->J+g<e ->z ∉ kS l p (J+g):=by
 have hel:=hI.2.2;have hg:∀t,t<g ->nx p (gL l (J+t))=some y:=fun t ht=>by
  rw [nx_some];exact⟨nx_ne.1 ((hI.1 (J+t) (by omega)).2 (by omega)),hsame t ht⟩
 have hs:J+g<e ->nx p (gL l (J+g))≠some y:=fun hlt he=>by
  rw [nx_some] at he;exact hdiff hlt he.2
 have ho:=grp_only hlv hI hij hfr h1 hge hg hs;refine⟨?_,grp_list ho (by omega),fun s es=>by subst es;exact grp_map ho (by omega),fun z hz hlt=>grp_next hlv hI hfr h1 hge hg hs hlt hz⟩;have:=grp_keys hfr hg (g - 1) (by omega);rwa [show J+(g - 1+1)=J+g by omega] at this
theorem Bd.made (w:World):Bd w (w.alloc (.cells #[] 5)) (.slice (some ⟨w.heap.size,0,none⟩) 0 0) []:=by
 refine⟨(Below.refl _ _).alloc (Nat.le_refl _) _,?_,by simp [Value.ownBlock]⟩;have:=World.ownsRow_lit (base:=w.heap.size) (e:=5) (size:=1) w #[] 0 (by omega) (by unfold maxLen;omega) rfl;simpa [Own] using this
theorem Bd.front {w wr w1:World}{body u:Value}{zs ns:List Int}(h:Bd w wr body zs)(hb:Below wr.heap.size wr w1)(ho:Own w1 wr.heap.size u ns)(hl:ns.length+zs.length<=1000000000):
  ∃v' w2,(Builtin.append_ #[22,22] 22 #[u,body]).run Tryz.prog w1=.ok v' w2/\ Own w2 w.heap.size v' (ns++zs)/\ Below w.heap.size w w2:=by
 have h1:=h.keep hb;have ho':=Own.weak ho h.b.size;obtain⟨v',w2,e,o2,g2,n2⟩:=appO w.heap.size w.heap.size u body ns zs w1 ho' h1.o h.n h1.b.size hl;exact⟨v',w2,e,o2,h1.b.trans (g2.below h1.b.size (fun k hk=>(World.ownsRow.lt ho' k hk).1))⟩
structure Lp (l:List Lf)(p:List ByteArray)(w:World)(J M:Nat)(a:Option Addr)(c:Nat):Prop where
 c1:M<=c
 c2:c<=9223372036854775807
 a1:0<M ->∃b o,a=some ⟨b,o,none⟩/\ LAt w b o l J M
 fr:0<M ->∀y,nx p (gL l J)=some y ->y ∉ kS l p J
def sLen:Value ->Nat
 | .slice _ n _=>n
 | _=>0
theorem l4TreeStep {R F T:Nat ->Int}{n:Nat}(l:List Lf)(hlv:LvOk R F T n l l.length)(hbd:LvB l)(f:Nat)(p:List ByteArray)(hpf:p.length+(f+1)=8)
  (ih:∀(s:ByteArray),1<=f ->∀(i m c:Nat) (a:Option Addr) (w:World),m<=c ->c<=9223372036854775807 ->Iv l (p++[s]) i (i+m) ->(0<m ->∃b off,a=some ⟨b,off,none⟩/\ LAt w b off l i m) ->(tB l f (p++[s])).length<=90000000 ->
   Calls Tryz.prog 95 #[.slice a m c,.int .i64 ((p++[s]).length:Int)] w fun e w'=>∃v,e=.returned v/\ Own w' w.heap.size v (tB l f (p++[s]))/\ Below w.heap.size w w')
  (i m c:Nat) (a:Option Addr) (w:World) (hmc:m<=c) (hcm:c<=9223372036854775807) (hI:Iv l p i (i+m)) (hL:0<m ->∃b off,a=some ⟨b,off,none⟩/\ LAt w b off l i m) (hl:(tB l (f+1) p).length<=90000000):
  Calls Tryz.prog 95 #[.slice a m c,.int .i64 (p.length:Int)] w fun e w'=>∃v,e=.returned v/\ Own w' w.heap.size v (tB l (f+1) p)/\ Below w.heap.size w w':=by
  obtain⟨TB,hTB⟩:∃TB,tB l (f+1) p=TB:=⟨_,rfl⟩;rw [hTB] at hl ⊢;have HTE:Hid (uvF 9 (kS l p l.length).length++(kS l p l.length).flatMap (kB l f p)=TB):=hid (by rw [<- hTB,tB_eq]);have HIv:=hid hI;have HL:=hid hL;obtain⟨d,hd⟩:∃d,p.length=d:=⟨_,rfl⟩;have HD:=hid hd;have HIH:Hid (∀(s:ByteArray),1<=f ->∀(i m c:Nat) (a:Option Addr) (w:World),m<=c ->c<=9223372036854775807 ->Iv l (p++[s]) i (i+m) ->(0<m ->∃b off,a=some ⟨b,off,none⟩/\ LAt w b off l i m) ->(tB l f (p++[s])).length<=90000000 ->
   Calls Tryz.prog 95 #[.slice a m c,.int .i64 ((d:Int)+1)] w fun e w'=>∃v,e=.returned v/\ Own w' w.heap.size v (tB l f (p++[s]))/\ Below w.heap.size w w'):=hid (fun s hf i m c a w h1 h2 h3 h4 h5=>by
    have:=ih s hf i m c a w h1 h2 h3 h4 h5;rw [show (((p++[s]).length:Nat):Int)=(d:Int)+1 by simp;omega] at this;exact this)
  rw [hd] at hpf ⊢;have hl0:m<=1000:=by have:=hI.2;have:=hbd.len;omega
  clear hTB hI hL hd ih;go_enter Tryz.func95,Tryz.ntmps95;go_wp2_with fail;go_loopw [0,5,6] (fun lv cv bd wr=>∃(J M c':Nat) (a':Option Addr),Hid (i<=J/\ J+M=i+m)/\ lv=.slice a' M c'/\ cv=.int .i64 ((kS l p J).length:Nat)/\ Hid (Lp l p w J M a' c')/\ Hid (Bd w wr bd ((kS l p J).flatMap (kB l f p)))) (fun lv _ _ _=>sLen lv);case atStart=>
   have e:=HIv.out.start i (Nat.le_refl _);refine⟨i,m,c,a,hid ⟨Nat.le_refl _,rfl⟩,rfl,by rw [e];rfl,hid ⟨hmc,hcm,HL.out,fun _ y _=>by rw [e];simp⟩,hid ?_⟩;rw [e];exact Bd.made w
  case round=>
   obtain⟨J,M,c',a',HJ,rfl,rfl,HLp,HBd⟩:=hrel;clear HL;by_cases hlt:0<M
   ·obtain⟨b,o,rfl,hLA⟩:=HLp.out.a1 hlt;have HLA:=hid hLA;have hM:M<=1000:=by have:=HJ.out;omega
    have HEL:Hid (i+m<=l.length/\ l.length<=1000):=hid ⟨HIv.out.2.2,hbd.len⟩;have HP:Hid (∀t,t<M ->d<(gL l (J+t)).p.length/\ (gL l (J+t)).p.length<=8):=hid (fun t ht=>by
     have hJ:=HJ.out;have he:=HEL.out;have h1:=nx_ne.1 ((HIv.out.1 (J+t) (by omega)).2 (by omega));rw [HD.out] at h1;exact⟨h1.2,(hlv (J+t) (by omega)).1.1.2.1⟩)
    have hp0:=HP.out 0 hlt;have HLf:Hid (LfOk1 (gL l J)):=hid ((hlv J (by have:=HJ.out;have:=HEL.out;omega)).1);obtain⟨qa,qc,h0,hs,h1,h2,h3,h4⟩:=hLA.2 0 hlt;simp only [Nat.add_zero,Nat.zero_mul] at h0 hs h1 h2 h3 h4 hp0;rcases hs with hs|⟨kb,ko,rfl,hkb,hkc⟩
    ·omega
    have h5:=hkc d hp0.1;have hb0:=hLA.1;have HFR:=hid (HLp.out.fr hlt);have HNX:Hid (nx p (gL l J)=some (onWay (gL l J).p (kd (gL l J).fl) d)):=hid (by
     have hJ:=HJ.out;have he:=HEL.out;have h1:=nx_ne.1 ((HIv.out.1 J (by omega)).2 (by omega));rw [nx_some];exact⟨h1,by rw [HD.out]⟩)
    have hss:(gS (gL l J).p d).size<=40:=(HLf.out.1.2.2 d hp0.1).2;have HGC:=hid (l4GroupC l b o J M c' d wr (by omega) (by omega) (by omega) (fun t ht=>by have:=HP.out t ht;omega) (hLA.below HBd.out.b));have HYE:Hid (onWay (gL l J).p (kd (gL l J).fl) d=(gS (gL l J).p d,kAt d (gL l J).p.length (gL l J).fl)):=hid rfl;have HY3:Hid (kAt d (gL l J).p.length (gL l J).fl=1 \/kAt d (gL l J).p.length (gL l J).fl=2 \/(kAt d (gL l J).p.length (gL l J).fl=3/\ 1<=f)):=hid (by
     unfold kAt;split
     ·exact .inr (.inr ⟨rfl,by omega⟩)
     ·rcases kd_or (gL l J).fl with h|h
      ·exact .inl h
      ·exact .inr (.inl h))
    have HKS:Hid ((kS l p J).length<=1000/\ ((kS l p J).flatMap (kB l f p)).length<=90000000):=hid ⟨by have:=kS_len l p J;have hJ:=HJ.out;have he:=HEL.out;omega,by
     have h1:=flat_pre (kB l f p) (kS_pre l p J l.length (by have hJ:=HJ.out;have he:=HEL.out;omega));have h2:TB.length<=90000000:=hl;rw [<- HTE.out,List.length_append] at h2;omega⟩
    have HGR:Hid (∀g,1<=g ->g<=M ->(∀t,t<g ->onWay (gL l (J+t)).p (kd (gL l (J+t)).fl) d=onWay (gL l J).p (kd (gL l J).fl) d) ->(g<M ->onWay (gL l (J+g)).p (kd (gL l (J+g)).fl) d≠onWay (gL l J).p (kd (gL l J).fl) d) ->
      kS l p (J+g)=kS l p J++[onWay (gL l J).p (kd (gL l J).fl) d]/\ dsK l p (onWay (gL l J).p (kd (gL l J).fl) d) l.length=((List.range g).map fun t=>gL l (J+t))/\ (∀s,onWay (gL l J).p (kd (gL l J).fl) d=(s,3) ->Iv l (p++[s]) J (J+g))/\ (g<M ->∀z,nx p (gL l (J+g))=some z ->z ∉ kS l p (J+g))/\ ((kS l p (J+g)).flatMap (kB l f p)).length<=90000000):=hid (fun g g1 g2 g3 g4=>by
     have hJ:=HJ.out;have he:=HEL.out;have hdd:=HD.out;obtain⟨r1,r2,r3,r4⟩:=grp_all hlv HIv.out hJ.1 (HFR.out _ HNX.out) g1 (by omega) (by rw [hdd]) (by rw [hdd];exact g3) (by rw [hdd];exact fun h=>g4 (by omega));refine⟨r1,r2,r3,fun h z hz=>r4 z hz (by omega),?_⟩;have h1:=flat_pre (kB l f p) (kS_pre l p (J+g) l.length (by omega));have h2:TB.length<=90000000:=hl;rw [<- HTE.out,List.length_append] at h2;omega)
    have HLX:Hid (∀t,t<M ->∃r q:Nat,∃v,r<=7/\ q<=1000000000/\ v.size<=200/\ (∀Y:Int,lfB Y (gL l (J+t))=uvF 9 r++(uvF 9 q++if Y=1 then textInts v else []))/\∀w',Below w.heap.size w w' ->w'.cell? ⟨b,o+t*5+2,none⟩=some (.int .i64 (r:Int))/\ w'.cell? ⟨b,o+t*5+3,none⟩=some (.int .i64 (q:Int))/\ w'.cell? ⟨b,o+t*5+4,none⟩=some (.string v)):=hid (fun t ht=>by
     have hJ:=HJ.out;have he:=HEL.out;have hr:=hbd.rep (J+t) (by omega);have hq:=hbd.seq (J+t) (by omega);have hv:=hbd.val (J+t) (by omega);refine⟨(gL l (J+t)).r.toNat,(gL l (J+t)).q.toNat,(gL l (J+t)).v,by omega,by omega,hv,fun Y=>rfl,fun w' hb'=> ?_⟩;obtain⟨_,_,_,_,_,k2,k3,k4⟩:=(HLA.out.below hb').2 t ht;refine⟨?_,?_,k4⟩
     ·rw [k2];congr 2;omega
     ·rw [k3];congr 2;omega)
    obtain⟨x,hx⟩:∃x,gL l J=x:=⟨_,rfl⟩;rw [hx] at h0 h1 h2 h3 h4 h5 hp0 hss HYE HY3 HNX HGR HGC;clear hx;obtain⟨xp,fl,xr,xq,xv⟩:=x;dsimp only at h0 h1 h2 h3 h4 h5 hp0 hss HYE HY3 HNX HGR HGC;rw [HYE.out] at HNX HGR HGC;obtain⟨s,hs'⟩:∃s,gS xp d=s:=⟨_,rfl⟩;obtain⟨pn,hpn⟩:∃pn,xp.length=pn:=⟨_,rfl⟩;obtain⟨Y,hY⟩:∃Y,kAt d pn fl=Y:=⟨_,rfl⟩;rw [hs',hpn,hY] at HNX HGR HGC;rw [hpn,hY] at HY3;rw [hs'] at hss h5;rw [hpn] at h0 hp0;have HYY:=hid hY;clear hs' hpn hY HYE hkc hLA;have HC:Hid (∀w',Below w.heap.size w w' ->w'.cell? ⟨b,o,none⟩=some (.slice (some ⟨kb,ko,none⟩) pn qc)/\ w'.cell? ⟨b,o+1,none⟩=some (.bool fl)/\ w'.cell? ⟨b,o+2,none⟩=some (.int .i64 xr)/\ w'.cell? ⟨b,o+3,none⟩=some (.int .i64 xq)/\ w'.cell? ⟨b,o+4,none⟩=some (.string xv)/\ w'.cell? ⟨kb,ko+d,none⟩=some (.string s)):=hid (fun w' hB=>⟨(hB.cell (p:=⟨b,_,none⟩) hb0).trans h0,(hB.cell (p:=⟨b,_,none⟩) hb0).trans h1,(hB.cell (p:=⟨b,_,none⟩) hb0).trans h2,(hB.cell (p:=⟨b,_,none⟩) hb0).trans h3,(hB.cell (p:=⟨b,_,none⟩) hb0).trans h4,(hB.cell (p:=⟨kb,_,none⟩) hkb).trans h5⟩);clear h0 h1 h2 h3 h4 h5 hb0 hkb;obtain⟨cn,hcn⟩:∃cn,(kS l p J).length=cn:=⟨_,rfl⟩;obtain⟨zs,hzs⟩:∃zs,(kS l p J).flatMap (kB l f p)=zs:=⟨_,rfl⟩;rw [hcn,hzs] at HKS;rw [hzs] at HBd;have HCN:=hid hcn;have HZS:=hid hzs;have hcn2:=HKS.out.1;simp only [hcn];have hc1:M<=c':=HLp.out.c1;have hc2:c'<=9223372036854775807:=HLp.out.c2;clear hcn hzs HLp;go_wp2_with fail;refine HGC.out.mono ?_;rintro e w1 ⟨⟨g,rfl,g1,g2,g3,g4⟩,b1⟩;have HG:=hid (HGR.out g g1 g2 g3 g4);have HBd1:=hid (HBd.out.keep b1);obtain⟨q0,q1,q2,q3,q4,q5⟩:=HC.out w1 HBd1.out.b;clear HGR g3 g4 HBd HGC b1;go_wp2_with fail;refine(l4KindC (some ⟨kb,ko,none⟩) pn qc fl xr xq xv d w1 (by omega) (by omega)).mono ?_;rintro e w2 ⟨rfl,b2⟩;rw [HYY.out];have HBd2:=hid (HBd1.out.keep b2);clear q0 q1 q2 q3 q4 q5 HBd1 b2;obtain⟨q0,q1,q2,q3,q4,q5⟩:=HC.out w2 HBd2.out.b;go_wp2_with fail;refine(specText s w2 (by omega)).mono ?_;rintro e w3 ⟨v3,rfl,o3,b3,z3⟩;have hts:=textInts_len s;obtain⟨v4,w4,happ,bd4⟩:=HBd2.out.app b3 o3 (by unfold textInts;have:=(uvF_len 9 s.size).2;rw [List.length_append];omega) (by have:=HKS.out.2;omega);have HBd4:=hid bd4;clear q0 q1 q2 q3 q4 q5 HBd2 b3 o3 z3 bd4;have HL4:Hid ((zs++textInts s).length<=90000050):=hid (by have:=HKS.out.2;rw [List.length_append];omega);rcases HY3.out with rfl|rfl|⟨rfl,hf⟩
    ·have HKB:Hid (kB l f p (s,1)=textInts s++([1]++(uvF 9 g++(List.range g).flatMap fun t=>lfB 1 (gL l (J+t))))):=hid (by unfold kB;rw [if_neg (show¬(1:Int)=3 by decide),HG.out.2.1];unfold mB;simp [List.flatMap_map]);obtain⟨v5,w5,happ5,bd5⟩:=HBd4.out.byte 1 (by have:=HL4.out;omega);have HBd5:=hid bd5;have HL5:Hid ((zs++textInts s++[1]).length<=90000051):=hid (by have:=HL4.out;rw [List.length_append];simp;simpa using this);clear bd5 HBd4 hts;go_wp2_with (at_builtin;first|(refine wpList_app2 rfl _ _ _ _ rfl happ (by rfl) (by rfl) rfl ?_;clear happ)|(refine wpList_app2 rfl _ _ _ _ rfl happ5 (by rfl) (by rfl) rfl ?_;clear happ5));refine(specPut1 g w5 (by omega)).mono ?_;rintro e w6 ⟨v6,rfl,o6,b6,z6⟩;have hug:=uvF_len 9 g;obtain⟨v7,w7,happ7,bd7⟩:=HBd5.out.app b6 o6 hug.2 (by have:=HL5.out;omega);have HBd7:=hid bd7;obtain⟨ys,hys⟩:∃ys,zs++textInts s++[1]++uvF 9 g=ys:=⟨_,rfl⟩;have HYS:=hid hys;have HL7:Hid (ys.length<=90000070):=hid (by rw [<- hys,List.length_append];have:=HL5.out;omega);rw [hys] at HBd7;clear hys bd7 o6 b6 z6 hug HBd5;go_wp2_with (at_builtin;refine wpList_app2 rfl _ _ _ _ rfl happ7 (by rfl) (by rfl) rfl ?_;clear happ7);go_loopw [6,9] (fun bd iv wr=>∃t:Nat,t<=g/\ iv=.int .i64 t/\ Hid (Bd w wr bd (ys++(List.range t).flatMap fun t=>lfB 1 (gL l (J+t))))) (fun _ iv _=>g - (intOf iv).toNat);case atStart=>exact⟨0,Nat.zero_le _,rfl,hid (by simpa using HBd7.out)⟩
     case round=>
      obtain⟨t,ht,rfl,HBt⟩:=hrel;clear HBd7;by_cases htg:t<g
      ·obtain⟨r,q,v,hr,hq,hv,hlf,hkk⟩:=HLX.out t (by omega);have HK:=hid hkk;obtain⟨k2,k3,k4⟩:=hkk _ HBt.out.b;clear hkk;have HTK:Hid (ys++((List.range (t+1)).flatMap fun t=>lfB 1 (gL l (J+t)))=ys++((List.range t).flatMap fun t=>lfB 1 (gL l (J+t)))++(uvF 9 r++(uvF 9 q++textInts v))):=hid (by rw [List.range_succ,List.flatMap_append];simp [hlf]);have HLt:Hid ((ys++(List.range t).flatMap fun t=>lfB 1 (gL l (J+t))).length<=90000070+230*1000):=hid (by
        have h2:=flat_len (fun t=>lfB 1 (gL l (J+t))) (fun _=>1) 230 (List.range t) (fun z hz=>by
         have hz':=List.mem_range.1 hz;obtain⟨r,q,v,hr,hq,hv,hlf,_⟩:=HLX.out z (by omega);have a1:=(uvF_len 9 r).1;have a2:=(uvF_len 9 q).1;have a3:=textInts_len v;rw [hlf];simp only [List.length_append];split
         ·omega
         ·simp;omega)
        have h3:∀ls:List Nat,(ls.map fun _=>1).sum=ls.length:=fun ls=>by
         induction ls with
         | nil=>rfl
         | cons a r ih=>simp only [List.map_cons,List.sum_cons,ih,List.length_cons];omega
        rw [h3,List.length_range] at h2;have:=HL7.out;rw [List.length_append];omega)
       obtain⟨us,hus⟩:∃us,ys++((List.range t).flatMap fun t=>lfB 1 (gL l (J+t)))=us:=⟨_,rfl⟩;rw [hus] at HBt HTK HLt;clear hus hlf;have hur:=uvF_len 9 r;have huq:=uvF_len 9 q;go_wp2_with fail;refine(specPut1 r _ (by omega)).mono ?_;rintro e y1 ⟨u1,rfl,oo1,bb1,zz1⟩;obtain⟨u2,y2,ha2,bu2⟩:=HBt.out.app bb1 oo1 hur.2 (by have:=HLt.out;omega);have HB2:=hid bu2;clear bu2 bb1 oo1 zz1 HBt k2 k3 k4;obtain⟨k2,k3,k4⟩:=HK.out _ HB2.out.b;go_wp2_with (at_builtin;refine wpList_app2 rfl _ _ _ _ rfl ha2 (by rfl) (by rfl) rfl ?_;clear ha2);refine(specPut1 q _ (by omega)).mono ?_;rintro e y3 ⟨u3,rfl,oo3,bb3,zz3⟩;obtain⟨u4,y4,ha4,bu4⟩:=HB2.out.app bb3 oo3 huq.2 (by have:=HLt.out;rw [List.length_append];omega);have HB4:=hid bu4;clear bu4 bb3 oo3 zz3 HB2 k2 k3 k4;obtain⟨k2,k3,k4⟩:=HK.out _ HB4.out.b;go_wp2_with (at_builtin;refine wpList_app2 rfl _ _ _ _ rfl ha4 (by rfl) (by rfl) rfl ?_;clear ha4);refine(specText v _ (by omega)).mono ?_;rintro e y5 ⟨u5,rfl,oo5,bb5,zz5⟩;have htv:=textInts_len v;obtain⟨u6,y6,ha6,bu6⟩:=HB4.out.app bb5 oo5 (by unfold textInts;have:=(uvF_len 9 v.size).2;rw [List.length_append];omega) (by have:=HLt.out;rw [List.length_append,List.length_append];omega);have HB6:=hid bu6;clear bu6 bb5 oo5 zz5 HB4 k2 k3 k4;go_wp2_with (at_builtin;refine wpList_app2 rfl _ _ _ _ rfl ha6 (by rfl) (by rfl) rfl ?_;clear ha6);go_roundw;case rel=>exact⟨t+1,htg,by go_num,hid (by rw [HTK.out];simpa using HB6.out)⟩
       case measure=>simp [intOf];omega
      ·obtain rfl:g=t:=by omega
       have HFZ:Hid (Bd w wr u6 ((kS l p (J+g)).flatMap (kB l f p))):=hid (by rw [HG.out.1,List.flatMap_append,HZS.out];simp only [List.flatMap_cons,List.flatMap_nil,List.append_nil];rw [HKB.out];simpa [<- HYS.out] using HBt.out);have HCN2:Hid ((kS l p (J+g)).length=cn+1):=hid (by rw [HG.out.1,List.length_append,HCN.out];rfl);have HFR2:Hid (0<M - g ->∀y,nx p (gL l (J+g))=some y ->y ∉ kS l p (J+g)):=hid (fun h=>HG.out.2.2.2.1 (by omega));clear HBt HZS HCN HFR;by_cases hgc:g<c'
       ·go_wp2_with fail;go_roundw;case rel=>exact⟨J+g,M - g,c' - g,some ⟨b,o+g*5,none⟩,hid (by have:=HJ.out;omega),by first|rfl|rw [if_neg (by omega)],by rw [HCN2.out];go_num,hid ⟨by omega,by omega,fun h=>⟨b,_,rfl,HLA.out.drop g2⟩,HFR2.out⟩,HFZ⟩
        case measure=>simp [sLen];omega
       ·go_wp2_with fail;go_roundw;case rel=>exact⟨J+g,M - g,c' - g,some ⟨b,o,none⟩,hid (by have:=HJ.out;omega),by first|rfl|rw [if_pos (by omega)],by rw [HCN2.out];go_num,hid ⟨by omega,by omega,fun h=>by omega,HFR2.out⟩,HFZ⟩
        case measure=>simp [sLen];omega
    ·have HKB:Hid (kB l f p (s,2)=textInts s++([2]++(uvF 9 g++(List.range g).flatMap fun t=>lfB 2 (gL l (J+t))))):=hid (by unfold kB;rw [if_neg (show¬(2:Int)=3 by decide),HG.out.2.1];unfold mB;simp [List.flatMap_map]);obtain⟨v5,w5,happ5,bd5⟩:=HBd4.out.byte 2 (by have:=HL4.out;omega);have HBd5:=hid bd5;have HL5:Hid ((zs++textInts s++[2]).length<=90000051):=hid (by have:=HL4.out;rw [List.length_append];simp;simpa using this);clear bd5 HBd4 hts;go_wp2_with (at_builtin;first|(refine wpList_app2 rfl _ _ _ _ rfl happ (by rfl) (by rfl) rfl ?_;clear happ)|(refine wpList_app2 rfl _ _ _ _ rfl happ5 (by rfl) (by rfl) rfl ?_;clear happ5));refine(specPut1 g w5 (by omega)).mono ?_;rintro e w6 ⟨v6,rfl,o6,b6,z6⟩;have hug:=uvF_len 9 g;obtain⟨v7,w7,happ7,bd7⟩:=HBd5.out.app b6 o6 hug.2 (by have:=HL5.out;omega);have HBd7:=hid bd7;obtain⟨ys,hys⟩:∃ys,zs++textInts s++[2]++uvF 9 g=ys:=⟨_,rfl⟩;have HYS:=hid hys;have HL7:Hid (ys.length<=90000070):=hid (by rw [<- hys,List.length_append];have:=HL5.out;omega);rw [hys] at HBd7;clear hys bd7 o6 b6 z6 hug HBd5;go_wp2_with (at_builtin;refine wpList_app2 rfl _ _ _ _ rfl happ7 (by rfl) (by rfl) rfl ?_;clear happ7);go_loopw [6,9] (fun bd iv wr=>∃t:Nat,t<=g/\ iv=.int .i64 t/\ Hid (Bd w wr bd (ys++(List.range t).flatMap fun t=>lfB 2 (gL l (J+t))))) (fun _ iv _=>g - (intOf iv).toNat);case atStart=>exact⟨0,Nat.zero_le _,rfl,hid (by simpa using HBd7.out)⟩
     case round=>
      obtain⟨t,ht,rfl,HBt⟩:=hrel;clear HBd7;by_cases htg:t<g
      ·obtain⟨r,q,v,hr,hq,hv,hlf,hkk⟩:=HLX.out t (by omega);have HK:=hid hkk;obtain⟨k2,k3,k4⟩:=hkk _ HBt.out.b;clear hkk;have HTK:Hid (ys++((List.range (t+1)).flatMap fun t=>lfB 2 (gL l (J+t)))=ys++((List.range t).flatMap fun t=>lfB 2 (gL l (J+t)))++(uvF 9 r++uvF 9 q)):=hid (by rw [List.range_succ,List.flatMap_append];simp [hlf]);have HLt:Hid ((ys++(List.range t).flatMap fun t=>lfB 2 (gL l (J+t))).length<=90000070+230*1000):=hid (by
        have h2:=flat_len (fun t=>lfB 2 (gL l (J+t))) (fun _=>1) 230 (List.range t) (fun z hz=>by
         have hz':=List.mem_range.1 hz;obtain⟨r,q,v,hr,hq,hv,hlf,_⟩:=HLX.out z (by omega);have a1:=(uvF_len 9 r).1;have a2:=(uvF_len 9 q).1;have a3:=textInts_len v;rw [hlf];simp only [List.length_append];split
         ·omega
         ·simp;omega)
        have h3:∀ls:List Nat,(ls.map fun _=>1).sum=ls.length:=fun ls=>by
         induction ls with
         | nil=>rfl
         | cons a r ih=>simp only [List.map_cons,List.sum_cons,ih,List.length_cons];omega
        rw [h3,List.length_range] at h2;have:=HL7.out;rw [List.length_append];omega)
       obtain⟨us,hus⟩:∃us,ys++((List.range t).flatMap fun t=>lfB 2 (gL l (J+t)))=us:=⟨_,rfl⟩;rw [hus] at HBt HTK HLt;clear hus hlf;have hur:=uvF_len 9 r;have huq:=uvF_len 9 q;go_wp2_with fail;refine(specPut1 r _ (by omega)).mono ?_;rintro e y1 ⟨u1,rfl,oo1,bb1,zz1⟩;obtain⟨u2,y2,ha2,bu2⟩:=HBt.out.app bb1 oo1 hur.2 (by have:=HLt.out;omega);have HB2:=hid bu2;clear bu2 bb1 oo1 zz1 HBt k2 k3 k4;obtain⟨k2,k3,k4⟩:=HK.out _ HB2.out.b;go_wp2_with (at_builtin;refine wpList_app2 rfl _ _ _ _ rfl ha2 (by rfl) (by rfl) rfl ?_;clear ha2);refine(specPut1 q _ (by omega)).mono ?_;rintro e y3 ⟨u3,rfl,oo3,bb3,zz3⟩;obtain⟨u4,y4,ha4,bu4⟩:=HB2.out.app bb3 oo3 huq.2 (by have:=HLt.out;rw [List.length_append];omega);have HB4:=hid bu4;clear bu4 bb3 oo3 zz3 HB2 k2 k3 k4;obtain⟨k2,k3,k4⟩:=HK.out _ HB4.out.b;go_wp2_with (at_builtin;refine wpList_app2 rfl _ _ _ _ rfl ha4 (by rfl) (by rfl) rfl ?_;clear ha4);go_roundw;case rel=>exact⟨t+1,htg,by go_num,hid (by rw [HTK.out];simpa using HB4.out)⟩
       case measure=>simp [intOf];omega
      ·obtain rfl:g=t:=by omega
       have HFZ:Hid (Bd w wr u6 ((kS l p (J+g)).flatMap (kB l f p))):=hid (by rw [HG.out.1,List.flatMap_append,HZS.out];simp only [List.flatMap_cons,List.flatMap_nil,List.append_nil];rw [HKB.out];simpa [<- HYS.out] using HBt.out);have HCN2:Hid ((kS l p (J+g)).length=cn+1):=hid (by rw [HG.out.1,List.length_append,HCN.out];rfl);have HFR2:Hid (0<M - g ->∀y,nx p (gL l (J+g))=some y ->y ∉ kS l p (J+g)):=hid (fun h=>HG.out.2.2.2.1 (by omega));clear HBt HZS HCN HFR;by_cases hgc:g<c'
       ·go_wp2_with fail;go_roundw;case rel=>exact⟨J+g,M - g,c' - g,some ⟨b,o+g*5,none⟩,hid (by have:=HJ.out;omega),by first|rfl|rw [if_neg (by omega)],by rw [HCN2.out];go_num,hid ⟨by omega,by omega,fun h=>⟨b,_,rfl,HLA.out.drop g2⟩,HFR2.out⟩,HFZ⟩
        case measure=>simp [sLen];omega
       ·go_wp2_with fail;go_roundw;case rel=>exact⟨J+g,M - g,c' - g,some ⟨b,o,none⟩,hid (by have:=HJ.out;omega),by first|rfl|rw [if_pos (by omega)],by rw [HCN2.out];go_num,hid ⟨by omega,by omega,fun h=>by omega,HFR2.out⟩,HFZ⟩
        case measure=>simp [sLen];omega
    ·have HKB:Hid (kB l f p (s,3)=textInts s++([3]++tB l f (p++[s]))):=hid (by unfold kB;rw [if_pos rfl]);have HTL:Hid ((tB l f (p++[s])).length<=90000000/\ 0<(tB l f (p++[s])).length):=hid ⟨by
      have h1:=HG.out.2.2.2.2;rw [HG.out.1,List.flatMap_append,List.length_append] at h1;simp only [List.flatMap_cons,List.flatMap_nil,List.append_nil] at h1;rw [HKB.out] at h1;simp only [List.length_append] at h1;omega,by
      obtain⟨f',rfl⟩:∃f',f=f'+1:=⟨f - 1,by omega⟩;exact tB_pos _ _ _⟩
     obtain⟨v5,w5,happ5,bd5⟩:=HBd4.out.byte 3 (by have:=HL4.out;omega);have HBd5:=hid bd5;have HL5:Hid ((zs++textInts s++[3]).length<=90000051):=hid (by have:=HL4.out;rw [List.length_append];simp;simpa using this);clear bd5 HBd4 hts;go_wp2_with (at_builtin;first|(refine wpList_app2 rfl _ _ _ _ rfl happ (by rfl) (by rfl) rfl ?_;clear happ)|(refine wpList_app2 rfl _ _ _ _ rfl happ5 (by rfl) (by rfl) rfl ?_;clear happ5));refine(HIH.out s hf J g c' (some ⟨b,o,none⟩) w5 (by omega) hc2 (HG.out.2.2.1 s rfl) (fun _=>⟨b,o,rfl,(HLA.out.take g2).below HBd5.out.b⟩) HTL.out.1).mono ?_;rintro e w6 ⟨v6,rfl,o6,b6⟩;obtain⟨v7,w7,happ7,bd7⟩:=HBd5.out.app b6 o6 HTL.out.2 (by have:=HL5.out;have:=HTL.out.1;omega);have HBd7:=hid bd7;clear bd7 o6 b6 HBd5;have HFZ:Hid (Bd w w7 v7 ((kS l p (J+g)).flatMap (kB l f p))):=hid (by rw [HG.out.1,List.flatMap_append,HZS.out];simp only [List.flatMap_cons,List.flatMap_nil,List.append_nil];rw [HKB.out];simpa [List.append_assoc] using HBd7.out);have HCN2:Hid ((kS l p (J+g)).length=cn+1):=hid (by rw [HG.out.1,List.length_append,HCN.out];rfl);have HFR2:Hid (0<M - g ->∀y,nx p (gL l (J+g))=some y ->y ∉ kS l p (J+g)):=hid (fun h=>HG.out.2.2.2.1 (by omega));clear HBd7 HZS HCN HFR;by_cases hgc:g<c'
     ·go_wp2_with (at_builtin;refine wpList_app2 rfl _ _ _ _ rfl happ7 (by rfl) (by rfl) rfl ?_;clear happ7);go_roundw;case rel=>exact⟨J+g,M - g,c' - g,some ⟨b,o+g*5,none⟩,hid (by have:=HJ.out;omega),by first|rfl|rw [if_neg (by omega)],by rw [HCN2.out];go_num,hid ⟨by omega,by omega,fun h=>⟨b,_,rfl,HLA.out.drop g2⟩,HFR2.out⟩,HFZ⟩
      case measure=>simp [sLen];omega
     ·go_wp2_with (at_builtin;refine wpList_app2 rfl _ _ _ _ rfl happ7 (by rfl) (by rfl) rfl ?_;clear happ7);go_roundw;case rel=>exact⟨J+g,M - g,c' - g,some ⟨b,o,none⟩,hid (by have:=HJ.out;omega),by first|rfl|rw [if_pos (by omega)],by rw [HCN2.out];go_num,hid ⟨by omega,by omega,fun h=>by omega,HFR2.out⟩,HFZ⟩
      case measure=>simp [sLen];omega
   ·obtain rfl:M=0:=by omega
    have HST:Hid (kS l p J=kS l p l.length):=hid (by have h1:=HJ.out;have h2:=HIv.out;rw [h2.stop l.length h2.2.2 (Nat.le_refl _)];congr 1;omega);have HKS:Hid ((kS l p J).length<=1000/\ uvF 9 (kS l p J).length++(kS l p J).flatMap (kB l f p)=TB):=hid ⟨by have:=kS_len l p J;have h1:=HJ.out;have h2:=HIv.out.2.2;have:=hbd.len;omega,by rw [HST.out];exact HTE.out⟩;obtain⟨cn,hcn⟩:∃cn,(kS l p J).length=cn:=⟨_,rfl⟩;obtain⟨zs,hzs⟩:∃zs,(kS l p J).flatMap (kB l f p)=zs:=⟨_,rfl⟩;rw [hcn,hzs] at HKS;rw [hzs] at HBd;have hcn2:=HKS.out.1;simp only [hcn];clear hcn hzs HLp HST HJ;go_wp2_with fail;refine(specPut1 cn _ (by omega)).mono ?_;rintro e w1 ⟨v1,rfl,o1,b1,z1⟩;obtain⟨v2,w2,happ,o2,b2⟩:=HBd.out.front b1 o1 (by have h1:=HKS.out.2;have h2:TB.length<=90000000:=hl;rw [<- h1,List.length_append] at h2;omega);rw [HKS.out.2] at o2;have HO:=hid o2;have HB:=hid b2;clear o2 b2 b1 o1 z1 HBd;go_wp2_with (at_builtin;refine wpList_app2 rfl _ _ _ _ rfl happ (by rfl) (by rfl) rfl ?_;clear happ);go_ret;exact⟨v2,rfl,HO.out,HB.out⟩
theorem l4TreeC {R F T:Nat ->Int}{n:Nat}(l:List Lf)(hlv:LvOk R F T n l l.length)(hbd:LvB l):∀(f:Nat) (p:List ByteArray),p.length+f=8 ->1<=f ->∀(i m c:Nat) (a:Option Addr) (w:World),m<=c ->c<=9223372036854775807 ->Iv l p i (i+m) ->(0<m ->∃b off,a=some ⟨b,off,none⟩/\ LAt w b off l i m) ->(tB l f p).length<=90000000 ->
  Calls Tryz.prog 95 #[.slice a m c,.int .i64 (p.length:Int)] w fun e w'=>∃v,e=.returned v/\ Own w' w.heap.size v (tB l f p)/\ Below w.heap.size w w':=by
 intro f;induction f with
 | zero=>intro p _ h1;omega
 | succ f IH=>exact fun p hpf _ i m c a w h1 h2 h3 h4 h5=>l4TreeStep l hlv hbd f p hpf (fun s hf=>IH (p++[s]) (by rw [List.length_append];simp;omega) hf) i m c a w h1 h2 h3 h4 h5
end Go.Proofs.YtpfmeafmepgimaaGreat
