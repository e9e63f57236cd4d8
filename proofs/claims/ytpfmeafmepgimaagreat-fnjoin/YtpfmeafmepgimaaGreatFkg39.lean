import Derived.Test.YtpfmeafmepgimaaGreatFkg38
import Derived.Deep.QuietTactic
import Derived.BigQuiet
import Derived.Test.YtpfmeafmepgimaaGreatFkg33
import Derived.Test.YtpfmeafmepgimaaGreatFkg16
import Derived.Test.YtpfmeafmepgimaaGreatFkg24
set_option linter.unusedVariables false
set_option linter.unusedSimpArgs false
set_option maxRecDepth 100000
set_option maxHeartbeats 40000000
namespace Go.Proofs.YtpfmeafmepgimaaGreat
open Go.ChangeShapes Go.WideShapes Go.ChangeAt Go.RowKit Go.Maps
theorem jrunF:Tryz.prog.fieldsOf 87=match Tryz.prog.underlying 87 with|some (.struct fs)=>fs|_=>#[]:=rfl
theorem jrunStood:Tryz.prog.stoodInHeld 87=false:=by kernel_rfl
theorem neqRun (r f t r' f' t':Int)(w:World):(binOp .neq 87 (.agg #[.int .i64 r,.int .i64 f,.int .i64 t]) (.agg #[.int .i64 r',.int .i64 f',.int .i64 t'])).run Tryz.prog w=.ok (.bool (!(r==r' && (f==f' && t==t')))) w:=by
 rw [run_neq_struct,show (10000:Nat)=9999+1 from rfl,run_equalIn_agg _ _ _ _ _ (by kernel_rfl) jrunStood,jrunF,Tryz.underlying87];cases h1:(r==r')<;>cases h2:(f==f')<;>simp [Op.eqFields,go_sem,Tryz.underlying3,h1,h2];by_cases h3:t=t'<;>simp [h3]
def EqR (n:Nat)(R F T:Nat ->Int)(n':Nat)(R' F' T':Nat ->Int):Prop:=n=n'/\∀i,i<n ->R i=R' i/\ F i=F' i/\ T i=T' i
theorem eqRunsX (a a':Option Addr)(c c' n n':Nat)(R F T R' F' T':Nat ->Int)(w:World)(hl:n<=1048576)(hl':n'<=1048576)(h:RSeg w a n R F T)(h':RSeg w a' n' R' F' T'):
  Calls Tryz.prog 50 #[.slice a n c,.slice a' n' c'] w fun e w'=>e=.returned (.bool (yes (EqR n R F T n' R' F' T')))/\ Below w.heap.size w w':=by
 obtain⟨B,hB⟩:∃B,yes (EqR n R F T n' R' F' T')=B:=⟨_,rfl⟩;have HBV:=hid hB;rw [hB];clear hB;by_cases hlen:n=n'
 ·subst hlen;have d0:((n:Int) !=(n:Int))=false:=by simp
  have HL:=hid h;have HL':=hid h';clear h h' hl';go_enter Tryz.func50,Tryz.ntmps50;go_wp2_with fail;go_loopw [13] (fun i wr=>∃j:Nat,j<=n/\ i=.int .i64 j/\ Hid (Below w.heap.size w wr)/\ Hid (∀t,t<j ->R t=R' t/\ F t=F' t/\ T t=T' t)) (fun i _=>n - (intOf i).toNat);case atStart=>exact⟨0,Nat.zero_le _,rfl,hid (Below.refl _ _),hid (fun t ht=>by omega)⟩
  case round=>
   obtain⟨j,hj,rfl,HB,HN⟩:=hrel;by_cases hlt:j<n
   ·have i1:(0:Int)<=(j:Int):=Int.natCast_nonneg _;have i2:(j:Int)<(n:Int):=by omega
    obtain⟨b,o,rfl,hb,c0,c1,c2⟩:=(HL.out.below HB.out).at hlt;obtain⟨b',o',rfl,hb',e0,e1,e2⟩:=(HL'.out.below HB.out).at hlt;obtain⟨r,hr⟩:∃x,R j=x:=⟨_,rfl⟩;obtain⟨f,hf⟩:∃x,F j=x:=⟨_,rfl⟩;obtain⟨t,ht⟩:∃x,T j=x:=⟨_,rfl⟩;obtain⟨r',hr'⟩:∃x,R' j=x:=⟨_,rfl⟩;obtain⟨f',hf'⟩:∃x,F' j=x:=⟨_,rfl⟩;obtain⟨t',ht'⟩:∃x,T' j=x:=⟨_,rfl⟩;rw [hr] at c0;rw [hf] at c1;rw [ht] at c2;rw [hr'] at e0;rw [hf'] at e1;rw [ht'] at e2;have HV:=hid (And.intro (And.intro hr (And.intro hf ht)) (And.intro hr' (And.intro hf' ht')));have NQ:∀w:World,(binOp .neq 87 (.agg #[.int .i64 r,.int .i64 f,.int .i64 t]) (.agg #[.int .i64 r',.int .i64 f',.int .i64 t'])).run Tryz.prog w=.ok (.bool (!(r==r' && (f==f' && t==t')))) w:=fun w=>neqRun r f t r' f' t' w;by_cases he:r=r'/\ f=f'/\ t=t'
    ·have q1:(!(r==r' && (f==f' && t==t')))=false:=by simp [he.1,he.2.1,he.2.2]
     rw [q1] at NQ;have HN1:Hid (∀u,u<j+1 ->R u=R' u/\ F u=F' u/\ T u=T' u):=hid (fun u hu=>by
      by_cases e:u=j
      ·have h1:=HV.out;rw [e,h1.1.1,h1.1.2.1,h1.1.2.2,h1.2.1,h1.2.2.1,h1.2.2.2];exact he
      ·exact HN.out u (by omega))
     clear he q1 hr hf ht hr' hf' ht';go_wp2_with fail;go_region;go_wp2_with fail;go_roundw;case rel=>exact⟨j+1,hlt,by go_num,hid HB.out.drew,HN1⟩
     case measure=>simp [intOf];omega
    ·have q1:(!(r==r' && (f==f' && t==t')))=true:=by
      cases hb:(r==r' && (f==f' && t==t')) with
      | false=>rfl
      | true=>exact absurd (by simpa using hb) he
     rw [q1] at NQ;have HG:Hid (B=false):=hid (by
      rw [<- HBV.out];refine yes_f fun e=>he ?_;have h1:=HV.out;have h2:=e.2 j hlt;rw [h1.1.1,h1.1.2.1,h1.1.2.2,h1.2.1,h1.2.2.1,h1.2.2.2] at h2;exact h2)
     clear he q1 hr hf ht hr' hf' ht';go_wp2_with fail;go_region;go_wp2_with fail;go_ret;exact⟨ret_b HG.out.symm,HB.out.drew⟩
   ·obtain rfl:j=n:=by omega
    have HG:Hid (B=true):=hid (by rw [<- HBV.out];exact yes_t ⟨rfl,HN.out⟩);go_wp2_with fail;go_ret;exact⟨ret_b HG.out.symm,HB.out⟩
 ·have d0:((n:Int) !=(n':Int))=true:=by simp;omega
  have HG:Hid (B=false):=hid (by rw [<- HBV.out];exact yes_f (fun e=>hlen e.1));go_enter Tryz.func50,Tryz.ntmps50;go_wp2_with fail;go_ret;exact⟨ret_b HG.out.symm,Below.refl _ _⟩
theorem sameStateX (a x a' x':Option Addr)(c d c' d':Nat)(A A':Sx)(w:World)(hm:A.Sm)(hm':A'.Sm)(h:SAt w a x A)(h':SAt w a' x' A'):
  Calls Tryz.prog 23 #[.agg #[.slice a A.l.length c,.slice x A.n d],.agg #[.slice a' A'.l.length c',.slice x' A'.n d']] w fun e w'=>e=.returned (.bool (yes (EqS A A')))/\ Below w.heap.size w w':=by
 obtain⟨W,hW⟩:∃W,(w.alloc (.cells #[.slice a A.l.length c,.slice x A.n d] 28)).alloc (.cells #[.slice a' A'.l.length c',.slice x' A'.n d'] 28)=W:=⟨_,rfl⟩;have b0:Below w.heap.size w W:=by rw [<- hW];exact below2 _ _ _
 have X0:Bx2 W w.heap.size (.slice a A.l.length c) (.slice x A.n d):=by rw [<- hW];exact(Bx2.made w _ _ _).allocs _
 have Y0:Bx2 W (w.heap.size+1) (.slice a' A'.l.length c') (.slice x' A'.n d'):=by rw [<- hW];simpa using Bx2.made (w.alloc (.cells #[.slice a A.l.length c,.slice x A.n d] 28)) (.slice a' A'.l.length c') (.slice x' A'.n d') 28
 have HL:=hid (eqFuncX a a' c c' A.l A'.l W hm.l1 hm'.l1 hm.p1 hm'.p1 (h.below b0).lf (h'.below b0).lf);have HR:=hid (fun w1 (b1:Below W.heap.size W w1)=>eqRunsX x x' d d' A.n A'.n A.R A.F A.T A'.R A'.F A'.T w1 hm.n1 hm'.n1 ((h.below b0).below b1).rn ((h'.below b0).below b1).rn);have HB0:=hid b0;have HX:=hid X0;have HY:=hid Y0;have k0:=X0.c0;have k1:=X0.c1;have l0:=Y0.c0;have l1:=Y0.c1;obtain⟨B,hB⟩:∃B,yes (EqS A A')=B:=⟨_,rfl⟩;obtain⟨B1,hB1⟩:∃B,yes (A.l=A'.l)=B:=⟨_,rfl⟩;obtain⟨B2,hB2⟩:∃B,yes (EqR A.n A.R A.F A.T A'.n A'.R A'.F A'.T)=B:=⟨_,rfl⟩;have HE:Hid (B=(B1 && B2)):=hid (by
  rw [<- hB,<- hB1,<- hB2];by_cases h1:A.l=A'.l
  ·by_cases h2:EqR A.n A.R A.F A.T A'.n A'.R A'.F A'.T
   ·rw [yes_t h1,yes_t h2,yes_t (show EqS A A' from⟨h1,h2⟩)];rfl
   ·rw [yes_t h1,yes_f h2,yes_f (fun e:EqS A A'=>h2 e.2)];rfl
  ·rw [yes_f h1,yes_f (fun e:EqS A A'=>h1 e.1)];rfl)
 rw [hB1] at HL;rw [hB2] at HR;rw [hB];clear b0 X0 Y0 h h' hB hB1 hB2;go_enter Tryz.func23,Tryz.ntmps23;go_wp2_with fail;try rw [hW]
 clear hW;refine HL.out.mono ?_;rintro e w1 ⟨rfl,b1⟩;have HB1:=hid (keepS HB0.out b1);cases B1 with
 | false=>
  have HG:Hid (B=false):=hid HE.out;clear HE b1;go_wp2_with fail;go_ret;exact⟨ret_b HG.out.symm,HB1.out⟩
 | true=>
  have m1:=(HX.out.below b1 HX.out.lt).c1;have m3:=(HY.out.below b1 HY.out.lt).c1;have HCA:=hid (HR.out w1 b1);clear b1;go_wp2_with fail;refine HCA.out.mono ?_;rintro e w2 ⟨rfl,b2⟩;have HB2:=hid (keepS HB1.out b2);have HG:Hid (B=B2):=hid (by have:=HE.out;simpa using this);clear HE b2;go_wp2_with fail;go_ret;exact⟨ret_b HG.out.symm,HB2.out⟩
theorem l3EqualX (a x a' x':Option Addr)(c d c' d':Nat)(A A':Sx)(w:World)(hm:A.Sm)(hm':A'.Sm)(h:SCt w a x A)(h':SCt w a' x' A'):
  Calls Tryz.prog 22 #[.agg #[.slice a A.l.length c,.slice x A.n d],.agg #[.slice a' A'.l.length c',.slice x' A'.n d']] w fun e w'=>e=.returned (.bool (yes (EqS A A')))/\ Below w.heap.size w w':=by
 obtain⟨W,hW⟩:∃W,(w.alloc (.cells #[.slice a A.l.length c,.slice x A.n d] 28)).alloc (.cells #[.slice a' A'.l.length c',.slice x' A'.n d'] 28)=W:=⟨_,rfl⟩;have b0:Below w.heap.size w W:=by rw [<- hW];exact below2 _ _ _
 have X0:Bx2 W w.heap.size (.slice a A.l.length c) (.slice x A.n d):=by rw [<- hW];exact(Bx2.made w _ _ _).allocs _
 have Y0:Bx2 W (w.heap.size+1) (.slice a' A'.l.length c') (.slice x' A'.n d'):=by rw [<- hW];simpa using Bx2.made (w.alloc (.cells #[.slice a A.l.length c,.slice x A.n d] 28)) (.slice a' A'.l.length c') (.slice x' A'.n d') 28
 have HH:=hid (h.below b0);have HH':=hid (h'.below b0);have HB0:=hid b0;have HX:=hid X0;have HY:=hid Y0;have k0:=X0.c0;have k1:=X0.c1;have l0:=Y0.c0;have l1:=Y0.c1;obtain⟨B,hB⟩:∃B,yes (EqS A A')=B:=⟨_,rfl⟩;have HBV:=hid hB;rw [hB];clear b0 X0 Y0 h h' hB;by_cases h1:A.l.length=A'.l.length;case neg=>
  have d1:((A.l.length:Int) !=(A'.l.length:Int))=true:=by simp;omega
  have HG:Hid (B=false):=hid (by rw [<- HBV.out];exact yes_f (fun e=>h1 (by rw [e.1])));clear h1 hm hm';go_enter Tryz.func22,Tryz.ntmps22;go_wp2_with fail;try rw [hW]
  go_ret;exact⟨ret_b HG.out.symm,HB0.out⟩
 by_cases h2:A.n=A'.n;case neg=>
  obtain⟨nl,hnl⟩:∃n,A.l.length=n:=⟨_,rfl⟩;have hnl':A'.l.length=nl:=by omega
  rw [hnl] at k0 hW;rw [hnl'] at l0 hW;rw [hnl,hnl'];have d1:((nl:Int) !=(nl:Int))=false:=by simp
  have d2:((A.n:Int) !=(A'.n:Int))=true:=by simp;omega
  have HG:Hid (B=false):=hid (by rw [<- HBV.out];exact yes_f (fun e=>h2 e.2.1));clear h1 h2 hm hm' hnl hnl' HX HY HH HH' HBV;go_enter Tryz.func22,Tryz.ntmps22;go_wp2_with fail;try rw [hW]
  go_ret;exact⟨ret_b HG.out.symm,HB0.out⟩
 obtain⟨nl,hnl⟩:∃n,A.l.length=n:=⟨_,rfl⟩;have hnl':A'.l.length=nl:=by omega
 obtain⟨nr,hnr⟩:∃n,A.n=n:=⟨_,rfl⟩;have hnr':A'.n=nr:=by omega
 have HNN:=hid (And.intro (And.intro hnl hnl') (And.intro hnr hnr'));rw [hnl] at k0 hW HX;rw [hnr] at k1 hW HX;rw [hnl'] at l0 hW HY;rw [hnr'] at l1 hW HY;rw [hnl,hnl',hnr,hnr'];have z1:nl<=1048576:=by have:=hm.l1;omega
 have z2:nr<=1048576:=by have:=hm.n1;omega
 have d1:((nl:Int) !=(nl:Int))=false:=by simp
 have d2:((nr:Int) !=(nr:Int))=false:=by simp
 clear h1 h2 hm hm' hnl hnl' hnr hnr';go_enter Tryz.func22,Tryz.ntmps22;go_wp2_with fail;try rw [hW]
 clear hW k0 k1 l0 l1;go_loopw [5] (fun i wr=>∃j:Nat,j<=nl/\ i=.int .i64 j/\ Hid (Below W.heap.size W wr)/\ Hid (∀t,t<j ->gL A.l t=gL A'.l t)) (fun i _=>nl - (intOf i).toNat);case atStart=>exact⟨0,Nat.zero_le _,rfl,hid (Below.refl _ _),hid (fun t ht=>by omega)⟩
 case round=>
  obtain⟨j,hj,rfl,HB,HN⟩:=hrel;have X1:=HX.out.below HB.out HX.out.lt;have Y1:=HY.out.below HB.out HY.out.lt;have k0:=X1.c0;by_cases hlt:j<nl
  ·have i1:(0:Int)<=(j:Int):=Int.natCast_nonneg _;have i2:(j:Int)<(nl:Int):=by omega
   obtain⟨b,off,rfl,hb,hcs⟩:=(HH.out.below HB.out).lf.resolve_left (by have:=HNN.out;omega);obtain⟨pa,pc,⟨c0,d0⟩,sg,c1,c2,c3,c4⟩:=hcs j (by have:=HNN.out;omega);obtain⟨b',off',rfl,hb',hcs'⟩:=(HH'.out.below HB.out).lf.resolve_left (by have:=HNN.out;omega);obtain⟨pa',pc',⟨e0,d0'⟩,sg',e1,e2,e3,e4⟩:=hcs' j (by have:=HNN.out;omega);have HCA:=hid (fun w1 (b1:Below wr.heap.size wr w1)=>l3SameC pa pa' pc pc' (gL A.l j).p (gL A'.l j).p (gL A.l j).fl (gL A'.l j).fl (gL A.l j).r (gL A.l j).q (gL A'.l j).r (gL A'.l j).q (gL A.l j).v (gL A'.l j).v w1 d0.1 d0'.1 d0.2 d0'.2 (sg.below b1) (sg'.below b1));obtain⟨y,hy⟩:∃y,gL A.l j=y:=⟨_,rfl⟩;obtain⟨z,hz⟩:∃z,gL A'.l j=z:=⟨_,rfl⟩;rw [hy] at c0 c1 c2 c3 c4;rw [hz] at e0 e1 e2 e3 e4;rw [hy,hz] at HCA;have HYZ:=hid (And.intro hy hz);obtain⟨yp,yf,yr,yq,yv⟩:=y;obtain⟨zp,zf,zr,zq,zv⟩:=z;dsimp only at c0 c1 c2 c3 c4 e0 e1 e2 e3 e4 HCA;obtain⟨C,hC⟩:∃C,yes ((⟨yp,yf,yr,yq,yv⟩:Lf)=⟨zp,zf,zr,zq,zv⟩)=C:=⟨_,rfl⟩;have HCV:=hid hC;rw [hC] at HCA;have HCS:Hid (∀w',Below wr.heap.size wr w' ->(w'.cell? ⟨w.heap.size,0,none⟩=some (.slice (some ⟨b,off,none⟩) nl c)/\ w'.cell? ⟨w.heap.size+1,0,none⟩=some (.slice (some ⟨b',off',none⟩) nl c')/\ w'.cell? ⟨b,off+j*5,none⟩=some (.slice pa yp.length pc)/\ w'.cell? ⟨b,off+j*5+1,none⟩=some (.bool yf)/\ w'.cell? ⟨b,off+j*5+2,none⟩=some (.int .i64 yr)/\ w'.cell? ⟨b,off+j*5+3,none⟩=some (.int .i64 yq)/\ w'.cell? ⟨b,off+j*5+4,none⟩=some (.string yv)/\ w'.cell? ⟨b',off'+j*5,none⟩=some (.slice pa' zp.length pc')/\ w'.cell? ⟨b',off'+j*5+1,none⟩=some (.bool zf)/\ w'.cell? ⟨b',off'+j*5+2,none⟩=some (.int .i64 zr)/\ w'.cell? ⟨b',off'+j*5+3,none⟩=some (.int .i64 zq)/\ w'.cell? ⟨b',off'+j*5+4,none⟩=some (.string zv))):=hid (fun w' b1=>by
    have q:=fun o=>b1.cell (p:=⟨b,o,none⟩) hb;have q':=fun o=>b1.cell (p:=⟨b',o,none⟩) hb';exact⟨(X1.below b1 X1.lt).c0,(Y1.below b1 Y1.lt).c0,(q _).trans c0,(q _).trans c1,(q _).trans c2,(q _).trans c3,(q _).trans c4,(q' _).trans e0,(q' _).trans e1,(q' _).trans e2,(q' _).trans e3,(q' _).trans e4⟩)
   clear hy hz hC hcs hcs' sg sg' d0 d0';go_wp2_with fail;refine wp_region_held_drew (S:=fun w'=>w'.cell? ⟨w.heap.size,0,none⟩=some (.slice (some ⟨b,off,none⟩) nl c)/\ w'.cell? ⟨w.heap.size+1,0,none⟩=some (.slice (some ⟨b',off',none⟩) nl c')/\ w'.cell? ⟨b,off+j*5,none⟩=some (.slice pa yp.length pc)/\ w'.cell? ⟨b,off+j*5+1,none⟩=some (.bool yf)/\ w'.cell? ⟨b,off+j*5+2,none⟩=some (.int .i64 yr)/\ w'.cell? ⟨b,off+j*5+3,none⟩=some (.int .i64 yq)/\ w'.cell? ⟨b,off+j*5+4,none⟩=some (.string yv)/\ w'.cell? ⟨b',off'+j*5,none⟩=some (.slice pa' zp.length pc')/\ w'.cell? ⟨b',off'+j*5+1,none⟩=some (.bool zf)/\ w'.cell? ⟨b',off'+j*5+2,none⟩=some (.int .i64 zr)/\ w'.cell? ⟨b',off'+j*5+3,none⟩=some (.int .i64 zq)/\ w'.cell? ⟨b',off'+j*5+4,none⟩=some (.string zv)) (by kernel_rfl) (HCS.out _ (Below.refl _ _).drew) (fun hHeld=> ?_);clear k0 X1 Y1 c0 c1 c2 c3 c4 e0 e1 e2 e3 e4;refine tZ 0 32 ?_;refine tZ 1 33 ?_;refine tZ 2 34 ?_;refine tZ 3 35 ?_;refine tZ 4 36 ?_;refine tZ 5 37 ?_;refine tZ 6 38 ?_;refine tZ 7 39 ?_;refine tZ 8 40 ?_;refine tZ 9 41 ?_;refine cZ 10 ?_;intro K hK;go_simp;refine(HCA.out _ (Below.refl _ _).drew).mono ?_;rintro e w1 ⟨rfl,b1⟩;have b1':Below wr.heap.size wr w1:=⟨b1.os,b1.tape,b1.output,b1.size,b1.block⟩;refine hK.out _ _ (HCS.out _ b1') (fun hHeld=> ?_);clear hK K;try simp only [Act.put,sZa,sZb,sZc]
   refine tZ 11 43 ?_;refine wpAnyH_done (by kernel_rfl) ?_ _;have HB1:=hid (HB.out.trans (b1'.mono HB.out.size));clear hHeld b1 b1' HCS HCA;cases C with
   | true=>
    have HN1:Hid (∀t,t<j+1 ->gL A.l t=gL A'.l t):=hid (fun t ht=>by
     by_cases e:t=j
     ·rw [e,HYZ.out.1,HYZ.out.2];exact Classical.byContradiction fun hn=>by have:=HCV.out;rw [yes_f hn] at this;cases this
     ·exact HN.out t (by omega))
    clear HN HB;go_wp2_with fail;go_roundw;case rel=>exact⟨j+1,hlt,by go_num,HB1,HN1⟩
    case measure=>simp [intOf];omega
   | false=>
    have HG:Hid (B=false):=hid (by
     rw [<- HBV.out];refine yes_f fun e=> ?_;have:=HCV.out;rw [yes_t (by rw [<- HYZ.out.1,<- HYZ.out.2,e.1])] at this;cases this)
    go_wp2_with fail;go_ret;exact⟨ret_b HG.out.symm,keepS HB0.out HB1.out⟩
  ·obtain rfl:j=nl:=by omega
   have HAL:Hid (A.l=A'.l):=hid (gL_all (by have:=HNN.out;omega) (fun i hi=>HN.out i (by have:=HNN.out;omega)));obtain⟨U,hU⟩:∃U,U=wr:=⟨_,rfl⟩;subst hU;have HX1:=hid X1;have HY1:=hid Y1;clear X1 Y1 HN;go_wp2_with fail;clear k0;go_loopw [6] (fun i wr=>∃k:Nat,k<=nr/\ i=.int .i64 k/\ Hid (Below U.heap.size U wr)/\ Hid (∀t,t<k ->A.R t=A'.R t/\ A.F t=A'.F t/\ A.T t=A'.T t)) (fun i _=>nr - (intOf i).toNat);case atStart=>exact⟨0,Nat.zero_le _,rfl,hid (Below.refl _ _),hid (fun t ht=>by omega)⟩
   case round=>
    obtain⟨k,hk,rfl,HB2,HN⟩:=hrel;have X1:=HX1.out.below HB2.out HX1.out.lt;have Y1:=HY1.out.below HB2.out HY1.out.lt;have k1:=X1.c1;have l1:=Y1.c1;by_cases hlt:k<nr
    ·have i1:(0:Int)<=(k:Int):=Int.natCast_nonneg _;have i2:(k:Int)<(nr:Int):=by omega
     obtain⟨b,o,rfl,hb,c0,c1,c2⟩:=((HH.out.below HB.out).below HB2.out).rn.at (k:=k) (by have:=HNN.out;omega);obtain⟨b',o',rfl,hb',e0,e1,e2⟩:=((HH'.out.below HB.out).below HB2.out).rn.at (k:=k) (by have:=HNN.out;omega);obtain⟨r,hr⟩:∃y,A.R k=y:=⟨_,rfl⟩;obtain⟨f,hf⟩:∃y,A.F k=y:=⟨_,rfl⟩;obtain⟨t,ht⟩:∃y,A.T k=y:=⟨_,rfl⟩;obtain⟨r',hr'⟩:∃y,A'.R k=y:=⟨_,rfl⟩;obtain⟨f',hf'⟩:∃y,A'.F k=y:=⟨_,rfl⟩;obtain⟨t',ht'⟩:∃y,A'.T k=y:=⟨_,rfl⟩;rw [hr] at c0;rw [hf] at c1;rw [ht] at c2;rw [hr'] at e0;rw [hf'] at e1;rw [ht'] at e2;have HV:=hid (And.intro (And.intro hr (And.intro hf ht)) (And.intro hr' (And.intro hf' ht')));have NQ:∀w:World,(binOp .neq 87 (.agg #[.int .i64 r,.int .i64 f,.int .i64 t]) (.agg #[.int .i64 r',.int .i64 f',.int .i64 t'])).run Tryz.prog w=.ok (.bool (!(r==r' && (f==f' && t==t')))) w:=fun w=>neqRun r f t r' f' t' w;by_cases he:r=r'/\ f=f'/\ t=t'
     ·have q1:(!(r==r' && (f==f' && t==t')))=false:=by simp [he.1,he.2.1,he.2.2]
      rw [q1] at NQ;have HN1:Hid (∀u,u<k+1 ->A.R u=A'.R u/\ A.F u=A'.F u/\ A.T u=A'.T u):=hid (fun u hu=>by
       by_cases e:u=k
       ·have h1:=HV.out;rw [e,h1.1.1,h1.1.2.1,h1.1.2.2,h1.2.1,h1.2.2.1,h1.2.2.2];exact he
       ·exact HN.out u (by omega))
      clear he q1 hr hf ht hr' hf' ht' X1 Y1;go_wp2_with fail;go_region;go_wp2_with fail;go_roundw;case rel=>exact⟨k+1,hlt,by go_num,hid HB2.out.drew,HN1⟩
      case measure=>simp [intOf];omega
     ·have q1:(!(r==r' && (f==f' && t==t')))=true:=by
       cases hb:(r==r' && (f==f' && t==t')) with
       | false=>rfl
       | true=>exact absurd (by simpa using hb) he
      rw [q1] at NQ;have HG:Hid (B=false):=hid (by
       rw [<- HBV.out];refine yes_f fun e=>he ?_;have h1:=HV.out;have h2:=e.2.2 k (by have:=HNN.out;omega);rw [h1.1.1,h1.1.2.1,h1.1.2.2,h1.2.1,h1.2.2.1,h1.2.2.2] at h2;exact h2)
      clear he q1 hr hf ht hr' hf' ht' X1 Y1;go_wp2_with fail;go_region;go_wp2_with fail;go_ret;exact⟨ret_b HG.out.symm,keepS HB0.out (keepS HB.out HB2.out.drew)⟩
    ·obtain rfl:k=nr:=by omega
     have HG:Hid (B=true):=hid (by rw [<- HBV.out];exact yes_t ⟨HAL.out,by have:=HNN.out;omega,fun i hi=>HN.out i (by have:=HNN.out;omega)⟩);clear X1 Y1;go_wp2_with fail;go_ret;exact⟨ret_b HG.out.symm,keepS HB0.out (keepS HB.out HB2.out)⟩
end Go.Proofs.YtpfmeafmepgimaaGreat
namespace Go.Proofs.YtpfmeafmepgimaaGreat
open Go.ChangeShapes Go.WideShapes Go.ChangeAt Go.RowKit
theorem l4FitC (a x:Option Addr)(c d:Nat)(S:Sx)(w:World)(hm:S.Sm)(hc:S.l.length<=c/\ c<=9223372036854775807)(h:SCt w a x S):
  Calls Tryz.prog 21 #[.agg #[.slice a S.l.length c,.slice x S.n d]] w fun e w'=>(∃b:Bool,e=.returned (.bool b))/\ Below w.heap.size w w':=by
 obtain⟨W,hW⟩:∃W,w.alloc (.cells #[.slice a S.l.length c,.slice x S.n d] 28)=W:=⟨_,rfl⟩;have b0:Below w.heap.size w W:=by rw [<- hW];exact(Below.refl _ _).alloc (Nat.le_refl _) _
 have X0:Bx2 W w.heap.size (.slice a S.l.length c) (.slice x S.n d):=by rw [<- hW];exact Bx2.made _ _ _ _
 have hh:=h.below b0;have HP:=hid (specPutState a c S.l x S.n d S.R S.F S.T W hc.1 hc.2 hm.l1 hm.p1 hm.n1 hh.lf hh.lf.seg hh.rn);have HB:=hid b0;have k0:=X0.c0;have k1:=X0.c1;clear b0 X0 hh h;go_enter Tryz.func21,Tryz.ntmps21;go_wp2_with fail;try rw [hW]
 clear hW;refine HP.out.mono ?_;rintro e w1 ⟨v,zs,k,rfl,_,_,b1⟩;have HB1:=hid (keepS HB.out b1);clear b1 k0 k1 HP;go_wp2_with fail;go_ret;exact⟨⟨_,rfl⟩,HB1.out⟩
theorem l6EmptyJ (w:World):Calls Tryz.prog 20 #[] w fun e w'=>(∃a x,e=.returned (.agg #[.slice a 0 0,.slice x 0 0]))/\ Below w.heap.size w w':=by
 obtain⟨W,hW⟩:∃W,w.alloc (.cells #[.slice none 0 0,.slice none 0 0] 28)=W:=⟨_,rfl⟩;have b0:Below w.heap.size w W:=by rw [<- hW];exact(Below.refl _ _).alloc (Nat.le_refl _) _
 have X0:Bx2 W w.heap.size (.slice none 0 0) (.slice none 0 0):=by rw [<- hW];exact Bx2.made _ _ _ _
 obtain⟨W2,hW2⟩:∃W2,(W.alloc (.cells #[] 65)).alloc (.cells #[] 87)=W2:=⟨_,rfl⟩;have b2:Below W.heap.size W W2:=by rw [<- hW2];exact below2 _ _ _
 have X2:=X0.below b2 X0.lt;have zW:W.heap.size=w.heap.size+1:=by rw [<- hW];simp
 have HZ:=hid zW;have HX:=hid (X2.set (.slice (some ⟨w.heap.size+1,0,none⟩) 0 0) (.slice (some ⟨w.heap.size+1+1,0,none⟩) 0 0));have HB:=hid (keepS b0 b2);have o0:=X2.c0;have o1:=X2.c1;have of:=X2.f;have hWW:((w.alloc (.cells #[.slice none 0 0,.slice none 0 0] 28)).alloc (.cells #[] 65)).alloc (.cells #[] 87)=W2:=by rw [hW];exact hW2
 clear b0 X0 b2 X2 zW hW hW2;go_enter Tryz.func20,Tryz.ntmps20;go_wp2_with fail;try rw [hWW]
 try go_wp2_with fail
 have s0:=HX.out.c0;have s1:=HX.out.c1;refine bodyPost_ret (v:=.agg #[.slice (some ⟨w.heap.size+1,0,none⟩) 0 0,.slice (some ⟨w.heap.size+1+1,0,none⟩) 0 0]) (by simp [results,Tryz.results20,go_sem,s0,s1]) rfl ?_;exact⟨⟨_,_,rfl⟩,(HB.out.setCell (p:=⟨w.heap.size,0,none⟩) (Nat.le_refl _) _).setCell (p:=⟨w.heap.size,1,none⟩) (Nat.le_refl _) _⟩
theorem sameStC (a x a' x':Option Addr)(c d c' d':Nat)(A A':Sx)(w:World)(hm:A.Sm)(hm':A'.Sm)(h:SCt w a x A)(h':SCt w a' x' A'):
  Calls Tryz.prog 8 #[.agg #[.slice a A.l.length c,.slice x A.n d],.agg #[.slice a' A'.l.length c',.slice x' A'.n d']] w fun e w'=>e=.returned (.bool (yes (EqS A A')))/\ Below w.heap.size w w':=by
 obtain⟨W,hW⟩:∃W,(w.alloc (.cells #[.slice a A.l.length c,.slice x A.n d] 28)).alloc (.cells #[.slice a' A'.l.length c',.slice x' A'.n d'] 28)=W:=⟨_,rfl⟩;have b0:Below w.heap.size w W:=by rw [<- hW];exact below2 _ _ _
 have X0:Bx2 W w.heap.size (.slice a A.l.length c) (.slice x A.n d):=by rw [<- hW];exact(Bx2.made w _ _ _).allocs _
 have Y0:Bx2 W (w.heap.size+1) (.slice a' A'.l.length c') (.slice x' A'.n d'):=by rw [<- hW];simpa using Bx2.made (w.alloc (.cells #[.slice a A.l.length c,.slice x A.n d] 28)) (.slice a' A'.l.length c') (.slice x' A'.n d') 28
 have HE:=hid (l3EqualX a x a' x' c d c' d' A A' W hm hm' (h.below b0) (h'.below b0));have HB:=hid b0;obtain⟨E,hE⟩:∃E,yes (EqS A A')=E:=⟨_,rfl⟩;rw [hE] at HE ⊢;have k0:=X0.c0;have k1:=X0.c1;have l0:=Y0.c0;have l1:=Y0.c1;clear b0 X0 Y0 h h' hE;go_enter Tryz.func8,Tryz.ntmps8;go_wp2_with fail;try rw [hW]
 clear hW;refine HE.out.mono ?_;rintro e w1 ⟨rfl,b1⟩;have HB1:=hid (keepS HB.out b1);clear b1 k0 k1 l0 l1 HE;go_wp2_with fail;go_ret;exact⟨rfl,HB1.out⟩
theorem chJ_vd {X:Nat ->Sx}:∀{i:Nat},AllJ X i ->∀Y∈chJ X i,Vd Y
 | 0,_,Y,hY=>by
  rw [show Y=Sx.mt by simpa [chJ] using hY];exact mt_vd
 | i+1,h,Y,hY=>by
  have h0:AllJ X i:=fun j hj=>h j (by omega);rcases List.mem_append.1 (show Y∈chJ X i++(chJ X i).map (fun Z=>jnS Z (X i)) from hY) with h1|h1
  ·exact chJ_vd h0 Y h1
  ·obtain⟨Z,hZ,rfl⟩:=List.mem_map.1 h1;obtain⟨a,b,f⟩:=jnB_iff.1 (h i (by omega) Z hZ);exact jn_vd a b f
theorem allJ_step {X:Nat ->Sx}{i m m':Nat}{J J':Nat ->Sx}(h:AllJ X i)(hin:∀Y∈chJ X i,∃k,k<m/\ EqS (J k) Y)(hb:∀k,k<m ->jnB (J k) (X i)=true)(hn:∀k,k<m ->∃k',k'<m'/\ EqS (J' k') (jnS (J k) (X i)))(hpre:∀k,k<m ->J' k=J k)(hm:m<=m'):
  AllJ X (i+1)/\∀Y∈chJ X (i+1),∃k,k<m'/\ EqS (J' k) Y:=by
 refine⟨fun j hj Y hY=> ?_,fun Y hY=> ?_⟩
 ·by_cases e:j=i
  ·subst e;obtain⟨k,hk,he⟩:=hin Y hY;obtain⟨a,b,f⟩:=jnB_iff.1 (hb k hk);exact jnB_iff.2 ⟨chJ_vd h Y hY,b,jnF_congr (by rw [jn_congr he (EqS.refl (X j))];exact EqS.refl _) f⟩
  ·exact h j (by omega) Y hY
 ·rcases List.mem_append.1 (show Y∈chJ X i++(chJ X i).map (fun Z=>jnS Z (X i)) from hY) with h1|h1
  ·obtain⟨k,hk,he⟩:=hin Y h1;exact⟨k,by omega,by rw [hpre k hk];exact he⟩
  ·obtain⟨Z,hZ,rfl⟩:=List.mem_map.1 h1;obtain⟨k,hk,he⟩:=hin Z hZ;obtain⟨k',hk',he'⟩:=hn k hk;exact⟨k',hk',by rw [<- jn_congr he (EqS.refl (X i))];exact he'⟩
theorem allJ_0 (X:Nat ->Sx):AllJ X 0/\∀Y∈chJ X 0,∃k,k<1/\ EqS Sx.mt Y:=⟨fun j hj=>absurd hj (Nat.not_lt_zero _),fun Y hY=>⟨0,by omega,by rw [show Y=Sx.mt by simpa [chJ] using hY];exact EqS.refl _⟩⟩
end Go.Proofs.YtpfmeafmepgimaaGreat
