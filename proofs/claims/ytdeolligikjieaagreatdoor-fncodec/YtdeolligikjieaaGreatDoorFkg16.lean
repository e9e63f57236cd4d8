import Derived.Test.YtdeolligikjieaaGreatDoorFkg10
import Derived.Test.YtdeolligikjieaaGreatDoorFkg15
import Derived.Deep.QuietTactic
import Derived.BigQuiet
import Derived.Test.YtdeolligikjieaaGreatDoorFkg13
import Derived.Test.YtdeolligikjieaaGreatDoorFkg07
import Derived.Test.YtdeolligikjieaaGreatDoorFkg12
import Derived.Deep.CutRange
import Derived.Test.YtdeolligikjieaaGreatDoorFkg09
import Derived.Test.YtdeolligikjieaaGreatDoorFkg04
set_option linter.unusedVariables false
set_option linter.unusedSimpArgs false
set_option maxRecDepth 100000
set_option maxHeartbeats 40000000
namespace Go.Proofs.YtdeolligikjieaaGreatDoor
open Go.ChangeShapes Go.WideShapes Go.ChangeAt Go.RowKit Go.Maps
theorem Qo8:Tryz.prog.fieldsOf 113=match Tryz.prog.underlying 113 with|some (.struct fs)=>fs|_=>#[]:=rfl
theorem QiR:Tryz.prog.stoodInHeld 113=false:=by kernel_rfl
theorem Qn9 (r f t r' f' t':Int)(w:World):(binOp .neq 113 (.agg #[.int .i64 r,.int .i64 f,.int .i64 t]) (.agg #[.int .i64 r',.int .i64 f',.int .i64 t'])).run Tryz.prog w=.ok (.bool (!(r==r' && (f==f' && t==t')))) w:=by
 rw [run_neq_struct,show (10000:Nat)=9999+1 from rfl,run_equalIn_agg _ _ _ _ _ (by kernel_rfl) QiR,Qo8,Tryz.underlying113];cases h1:(r==r')<;>cases h2:(f==f')<;>simp [Op.eqFields,go_sem,Tryz.underlying3,h1,h2];by_cases j:t=t'<;>simp [j]
theorem Qkr (a x a' x':Option Addr)(c d c' d':Nat)(A A':Sx)(w:World)(hm:A.Sm)(hm':A'.Sm)(h:SCt w a x A)(h':SCt w a' x' A'):
  Calls Tryz.prog 18 #[.agg #[.slice a A.l.length c,.slice x A.n d],.agg #[.slice a' A'.l.length c',.slice x' A'.n d']] w fun e w'=>e=.returned (.bool (yes (EqS A A')))/\ Below w.heap.size w w':=by
 obtain⟨W,E⟩:∃W,(w.alloc (.cells #[.slice a A.l.length c,.slice x A.n d] 28)).alloc (.cells #[.slice a' A'.l.length c',.slice x' A'.n d'] 28)=W:=⟨_,rfl⟩;have b0:Below w.heap.size w W:=by rw [<- E];exact Qak _ _ _
 have X0:Bx2 W w.heap.size (.slice a A.l.length c) (.slice x A.n d):=by rw [<- E];exact(Bx2.made w _ _ _).allocs _
 have Y0:Bx2 W (w.heap.size+1) (.slice a' A'.l.length c') (.slice x' A'.n d'):=by rw [<- E];simpa using Bx2.made (w.alloc (.cells #[.slice a A.l.length c,.slice x A.n d] 28)) (.slice a' A'.l.length c') (.slice x' A'.n d') 28
 have HH:=hid (h.below b0);have Hl:=hid (h'.below b0);have Hc:=hid b0;have HX:=hid X0;have HY:=hid Y0;have k0:=X0.c0;have k1:=X0.c1;have l0:=Y0.c0;have l1:=Y0.c1;obtain⟨B,hB⟩:∃B,yes (EqS A A')=B:=⟨_,rfl⟩;have Hb:=hid hB;rw [hB];clear b0 X0 Y0 h h' hB;by_cases m:A.l.length=A'.l.length;case neg=>
  have d1:((A.l.length:Int) !=(A'.l.length:Int))=true:=by simp;omega
  have H:Hid (B=false):=hid (by rw [<- Hb.out];exact Qaj (fun e=>m (by rw [e.1])));clear m hm hm';go_enter Tryz.func18,Tryz.ntmps18;go_wp2_with fail;try rw [E]
  go_ret;exact⟨Qa3 H.symm,Hc.out⟩
 by_cases h2:A.n=A'.n;case neg=>
  obtain⟨g,L⟩:∃n,A.l.length=n:=⟨_,rfl⟩;have N:A'.l.length=g:=by omega
  rw [L] at k0 E;rw [N] at l0 E;rw [L,N];have d1:((g:Int) !=(g:Int))=false:=by simp
  have d2:((A.n:Int) !=(A'.n:Int))=true:=by simp;omega
  have H:Hid (B=false):=hid (by rw [<- Hb.out];exact Qaj (fun e=>h2 e.2.1));clear m h2 hm hm' L N HX HY HH Hl Hb;go_enter Tryz.func18,Tryz.ntmps18;go_wp2_with fail;try rw [E]
  go_ret;exact⟨Qa3 H.symm,Hc.out⟩
 obtain⟨g,L⟩:∃n,A.l.length=n:=⟨_,rfl⟩;have N:A'.l.length=g:=by omega
 obtain⟨I,Hh⟩:∃n,A.n=n:=⟨_,rfl⟩;have Ha:A'.n=I:=by omega
 have Q:=hid (And.intro (And.intro L N) (And.intro Hh Ha));rw [L] at k0 E HX;rw [Hh] at k1 E HX;rw [N] at l0 E HY;rw [Ha] at l1 E HY;rw [L,N,Hh,Ha];have z1:g<=1048576:=by have:=hm.l1;omega
 have z2:I<=1048576:=by have:=hm.n1;omega
 have d1:((g:Int) !=(g:Int))=false:=by simp
 have d2:((I:Int) !=(I:Int))=false:=by simp
 clear m h2 hm hm' L N Hh Ha;go_enter Tryz.func18,Tryz.ntmps18;go_wp2_with fail;try rw [E]
 clear E k0 k1 l0 l1;go_loopw [5] (fun i wr=>∃j:Nat,j<=g/\ i=.int .i64 j/\ Hid (Below W.heap.size W wr)/\ Hid (∀t,t<j ->gL A.l t=gL A'.l t)) (fun i _=>g - (intOf i).toNat);case atStart=>exact⟨0,Nat.zero_le _,rfl,hid zI,hid (fun t P=>by omega)⟩
 case round=>
  obtain⟨j,hj,rfl,O,D⟩:=hrel;have V:=HX.below O.out HX.lt;have Z:=HY.below O.out HY.lt;have k0:=V.c0;by_cases Hp:j<g
  ·have i1:(0:Int)<=(j:Int):=Int.natCast_nonneg _;have i2:(j:Int)<(g:Int):=by omega
   obtain⟨b,off,rfl,hb,Hx⟩:=(HH.below O.out).lf.resolve_left (by have:=Q.out;omega);obtain⟨pa,pc,⟨Y,d0⟩,sg,G,c2,c3,c4⟩:=Hx j (by have:=Q.out;omega);obtain⟨b',M,rfl,Hw,He⟩:=(Hl.below O.out).lf.resolve_left (by have:=Q.out;omega);obtain⟨Hq,Hr,⟨e0,Ho⟩,Hy,e1,e2,e3,e4⟩:=He j (by have:=Q.out;omega);have Hd:=hid (fun w1 (s:Below wr.heap.size wr w1)=>Qjb pa Hq pc Hr (gL A.l j).p (gL A'.l j).p (gL A.l j).fl (gL A'.l j).fl (gL A.l j).r (gL A.l j).q (gL A'.l j).r (gL A'.l j).q (gL A.l j).v (gL A'.l j).v w1 d0.1 Ho.1 d0.2 Ho.2 (sg.below s) (Hy.below s));obtain⟨y,hy⟩:∃y,gL A.l j=y:=⟨_,rfl⟩;obtain⟨z,hz⟩:∃z,gL A'.l j=z:=⟨_,rfl⟩;rw [hy] at Y G c2 c3 c4;rw [hz] at e0 e1 e2 e3 e4;rw [hy,hz] at Hd;have Hf:=hid (And.intro hy hz);obtain⟨yp,yf,yr,yq,yv⟩:=y;obtain⟨zp,zf,zr,zq,zv⟩:=z;dsimp only at Y G c2 c3 c4 e0 e1 e2 e3 e4 Hd;obtain⟨C,hC⟩:∃C,yes ((⟨yp,yf,yr,yq,yv⟩:Lf)=⟨zp,zf,zr,zq,zv⟩)=C:=⟨_,rfl⟩;have Ht:=hid hC;rw [hC] at Hd;have Hk:Hid (∀w',Below wr.heap.size wr w' ->(w'.cell? ⟨w.heap.size,0,none⟩=some (.slice (some ⟨b,off,none⟩) g c)/\ w'.cell? ⟨w.heap.size+1,0,none⟩=some (.slice (some ⟨b',M,none⟩) g c')/\ w'.cell? ⟨b,off+j*5,none⟩=some (.slice pa yp.length pc)/\ w'.cell? ⟨b,off+j*5+1,none⟩=some (.bool yf)/\ w'.cell? ⟨b,off+j*5+2,none⟩=some (.int .i64 yr)/\ w'.cell? ⟨b,off+j*5+3,none⟩=some (.int .i64 yq)/\ w'.cell? ⟨b,off+j*5+4,none⟩=some (.string yv)/\ w'.cell? ⟨b',M+j*5,none⟩=some (.slice Hq zp.length Hr)/\ w'.cell? ⟨b',M+j*5+1,none⟩=some (.bool zf)/\ w'.cell? ⟨b',M+j*5+2,none⟩=some (.int .i64 zr)/\ w'.cell? ⟨b',M+j*5+3,none⟩=some (.int .i64 zq)/\ w'.cell? ⟨b',M+j*5+4,none⟩=some (.string zv))):=hid (fun w' s=>by
    have q:=fun o=>s.cell (p:=⟨b,o,none⟩) hb;have q':=fun o=>s.cell (p:=⟨b',o,none⟩) Hw;exact⟨(V.below s V.lt).c0,(Z.below s Z.lt).c0,(q _).trans Y,(q _).trans G,(q _).trans c2,(q _).trans c3,(q _).trans c4,(q' _).trans e0,(q' _).trans e1,(q' _).trans e2,(q' _).trans e3,(q' _).trans e4⟩)
   clear hy hz hC Hx He sg Hy d0 Ho;go_wp2_with fail;refine zR (S:=fun w'=>w'.cell? ⟨w.heap.size,0,none⟩=some (.slice (some ⟨b,off,none⟩) g c)/\ w'.cell? ⟨w.heap.size+1,0,none⟩=some (.slice (some ⟨b',M,none⟩) g c')/\ w'.cell? ⟨b,off+j*5,none⟩=some (.slice pa yp.length pc)/\ w'.cell? ⟨b,off+j*5+1,none⟩=some (.bool yf)/\ w'.cell? ⟨b,off+j*5+2,none⟩=some (.int .i64 yr)/\ w'.cell? ⟨b,off+j*5+3,none⟩=some (.int .i64 yq)/\ w'.cell? ⟨b,off+j*5+4,none⟩=some (.string yv)/\ w'.cell? ⟨b',M+j*5,none⟩=some (.slice Hq zp.length Hr)/\ w'.cell? ⟨b',M+j*5+1,none⟩=some (.bool zf)/\ w'.cell? ⟨b',M+j*5+2,none⟩=some (.int .i64 zr)/\ w'.cell? ⟨b',M+j*5+3,none⟩=some (.int .i64 zq)/\ w'.cell? ⟨b',M+j*5+4,none⟩=some (.string zv)) (Hk _ zI.drew) (fun qh=> ?_);clear k0 V Z Y G c2 c3 c4 e0 e1 e2 e3 e4;refine tZ 0 32 ?_;refine tZ 1 33 ?_;refine tZ 2 34 ?_;refine tZ 3 35 ?_;refine tZ 4 36 ?_;refine tZ 5 37 ?_;refine tZ 6 38 ?_;refine tZ 7 39 ?_;refine tZ 8 40 ?_;refine tZ 9 41 ?_;refine cZ 10 ?_;intro K hK;go_simp;refine(Hd _ zI.drew).mono ?_;rintro e w1 ⟨rfl,s⟩;have Hn:Below wr.heap.size wr w1:=⟨s.os,s.tape,s.output,s.size,s.block⟩;refine hK.out _ _ (Hk _ Hn) (fun qh=> ?_);clear hK K;try simp only [zP]
   refine tZ 11 43 ?_;refine zD ?_;have Hs:=hid (O.trans (Hn.mono O.size));clear qh s Hn Hk Hd;cases C with
   | true=>
    have Hm:Hid (∀t,t<j+1 ->gL A.l t=gL A'.l t):=hid (fun t P=>by
     by_cases e:t=j
     ·rw [e,Hf.1,Hf.2];exact Classical.byContradiction fun hn=>by have:=Ht.out;rw [Qaj hn] at this;cases this
     ·exact D t (by omega))
    clear D O;go_wp2_with fail;go_roundw;case rel=>exact⟨j+1,Hp,by go_num,Hs,Hm⟩
    case measure=>simp [intOf];omega
   | false=>
    have H:Hid (B=false):=hid (by
     rw [<- Hb.out];refine Qaj fun e=> ?_;have:=Ht.out;rw [Qal (by rw [<- Hf.1,<- Hf.2,e.1])] at this;cases this)
    go_wp2_with fail;go_ret;exact⟨Qa3 H.symm,Qab Hc.out Hs.out⟩
  ·obtain rfl:j=g:=by omega
   have Hz:Hid (A.l=A'.l):=hid (Qni (by have:=Q.out;omega) (fun i hi=>D.out i (by have:=Q.out;omega)));obtain⟨U,hU⟩:∃U,U=wr:=⟨_,rfl⟩;subst hU;have Hu:=hid V;have Hv:=hid Z;clear V Z D;go_wp2_with fail;clear k0;go_loopw [6] (fun i wr=>∃k:Nat,k<=I/\ i=.int .i64 k/\ Hid (Below U.heap.size U wr)/\ Hid (∀t,t<k ->A.R t=A'.R t/\ A.F t=A'.F t/\ A.T t=A'.T t)) (fun i _=>I - (intOf i).toNat);case atStart=>exact⟨0,Nat.zero_le _,rfl,hid zI,hid (fun t P=>by omega)⟩
   case round=>
    obtain⟨k,hk,rfl,X,D⟩:=hrel;have V:=Hu.below X.out Hu.lt;have Z:=Hv.below X.out Hv.lt;have k1:=V.c1;have l1:=Z.c1;by_cases Hp:k<I
    ·have i1:(0:Int)<=(k:Int):=Int.natCast_nonneg _;have i2:(k:Int)<(I:Int):=by omega
     obtain⟨b,o,rfl,hb,Y,G,c2⟩:=((HH.below O.out).below X.out).rn.at (k:=k) (by have:=Q.out;omega);obtain⟨b',o',rfl,Hw,e0,e1,e2⟩:=((Hl.below O.out).below X.out).rn.at (k:=k) (by have:=Q.out;omega);obtain⟨r,hr⟩:∃y,A.R k=y:=⟨_,rfl⟩;obtain⟨f,hf⟩:∃y,A.F k=y:=⟨_,rfl⟩;obtain⟨t,P⟩:∃y,A.T k=y:=⟨_,rfl⟩;obtain⟨r',Hi⟩:∃y,A'.R k=y:=⟨_,rfl⟩;obtain⟨f',Hg⟩:∃y,A'.F k=y:=⟨_,rfl⟩;obtain⟨t',Hj⟩:∃y,A'.T k=y:=⟨_,rfl⟩;rw [hr] at Y;rw [hf] at G;rw [P] at c2;rw [Hi] at e0;rw [Hg] at e1;rw [Hj] at e2;have HV:=hid (And.intro (And.intro hr (And.intro hf P)) (And.intro Hi (And.intro Hg Hj)));have NQ:∀w:World,(binOp .neq 113 (.agg #[.int .i64 r,.int .i64 f,.int .i64 t]) (.agg #[.int .i64 r',.int .i64 f',.int .i64 t'])).run Tryz.prog w=.ok (.bool (!(r==r' && (f==f' && t==t')))) w:=fun w=>Qn9 r f t r' f' t' w;by_cases J:r=r'/\ f=f'/\ t=t'
     ·have q1:(!(r==r' && (f==f' && t==t')))=false:=by simp [J.1,J.2.1,J.2.2]
      rw [q1] at NQ;have Hm:Hid (∀u,u<k+1 ->A.R u=A'.R u/\ A.F u=A'.F u/\ A.T u=A'.T u):=hid (fun u hu=>by
       by_cases e:u=k
       ·have m:=HV.out;rw [e,m.1.1,m.1.2.1,m.1.2.2,m.2.1,m.2.2.1,m.2.2.2];exact J
       ·exact D u (by omega))
      clear J q1 hr hf P Hi Hg Hj V Z;go_wp2_with fail;go_region;go_wp2_with fail;go_roundw;case rel=>exact⟨k+1,Hp,by go_num,hid X.drew,Hm⟩
      case measure=>simp [intOf];omega
     ·have q1:(!(r==r' && (f==f' && t==t')))=true:=by
       cases hb:(r==r' && (f==f' && t==t')) with
       | false=>rfl
       | true=>exact absurd (by simpa using hb) J
      rw [q1] at NQ;have H:Hid (B=false):=hid (by
       rw [<- Hb.out];refine Qaj fun e=>J ?_;have m:=HV.out;have h2:=e.2.2 k (by have:=Q.out;omega);rw [m.1.1,m.1.2.1,m.1.2.2,m.2.1,m.2.2.1,m.2.2.2] at h2;exact h2)
      clear J q1 hr hf P Hi Hg Hj V Z;go_wp2_with fail;go_region;go_wp2_with fail;go_ret;exact⟨Qa3 H.symm,Qab Hc.out (Qab O.out X.drew)⟩
    ·obtain rfl:k=I:=by omega
     have H:Hid (B=true):=hid (by rw [<- Hb.out];exact Qal ⟨Hz.out,by have:=Q.out;omega,fun i hi=>D.out i (by have:=Q.out;omega)⟩);clear V Z;go_wp2_with fail;go_ret;exact⟨Qa3 H.symm,Qab Hc.out (Qab O.out X.out)⟩
theorem Qj0 (a x a' x':Option Addr)(c d c' d':Nat)(A A':Sx)(w:World)(hm:A.Sm)(hm':A'.Sm)(h:SCt w a x A)(h':SCt w a' x' A'):
  Calls Tryz.prog 8 #[.agg #[.slice a A.l.length c,.slice x A.n d],.agg #[.slice a' A'.l.length c',.slice x' A'.n d']] w fun e w'=>e=.returned (.bool (yes (EqS A A')))/\ Below w.heap.size w w':=by
 obtain⟨W,j⟩:∃W,(w.alloc (.cells #[.slice a A.l.length c,.slice x A.n d] 28)).alloc (.cells #[.slice a' A'.l.length c',.slice x' A'.n d'] 28)=W:=⟨_,rfl⟩;have k:Below w.heap.size w W:=by rw [<- j];exact Qak _ _ _
 have q:Bx2 W w.heap.size (.slice a A.l.length c) (.slice x A.n d):=by rw [<- j];exact(Bx2.made w _ _ _).allocs _
 have r:Bx2 W (w.heap.size+1) (.slice a' A'.l.length c') (.slice x' A'.n d'):=by rw [<- j];simpa using Bx2.made (w.alloc (.cells #[.slice a A.l.length c,.slice x A.n d] 28)) (.slice a' A'.l.length c') (.slice x' A'.n d') 28
 have m:=hid (Qkr a x a' x' c d c' d' A A' W hm hm' (h.below k) (h'.below k));have y:=hid k;obtain⟨E,v⟩:∃E,yes (EqS A A')=E:=⟨_,rfl⟩;rw [v] at m ⊢;have g:=q.c0;have t:=q.c1;have o:=r.c0;have i:=r.c1;clear k q r h h' v;go_enter Tryz.func8,Tryz.ntmps8;go_wp2_with fail;try rw [j]
 clear j;refine m.mono ?_;rintro e w1 ⟨rfl,u⟩;have z:=hid (Qab y.out u);clear u g t o i m;go_wp2_with fail;go_ret;exact⟨rfl,z.out⟩
open Go.Deep
structure Vb where
 b:Nat
 a:Option Addr
 x:Option Addr
 c:Nat
 d:Nat
 S:Sx
def Vb.At (v:Vb)(w:World):Prop:=Bx2 w v.b (.slice v.a v.S.l.length v.c) (.slice v.x v.S.n v.d)/\ SCt w v.a v.x v.S
def Ats (w:World)(L:List Vb):Prop:=∀v∈L,v.At w
theorem Ats.below {w w1:World}{L:List Vb}(h:Ats w L)(hb:Below w.heap.size w w1):Ats w1 L:=fun v hv=>⟨(h v hv).1.below hb (h v hv).1.lt,(h v hv).2.below hb⟩
theorem Ats.box {w w1:World}{L:List Vb}(h:Ats w L)(hb:Below w.heap.size w w1){a x:Option Addr}{S:Sx}(s:SCt w1 a x S)(c d:Nat):Ats (w1.alloc (.cells #[.slice a S.l.length c,.slice x S.n d] 28)) (⟨w1.heap.size,a,x,c,d,S⟩::L):=fun v j=>by
 have k:Below w1.heap.size w1 (w1.alloc (.cells #[.slice a S.l.length c,.slice x S.n d] 28)):=zO _ _;rcases List.mem_cons.1 j with rfl|j
 ·exact⟨Bx2.made _ _ _ _,s.below k⟩
 ·exact(h.below hb).below k v j
theorem Ats.box2 {w w1:World}{L:List Vb}(h:Ats w L)(hb:Below w.heap.size w w1){a x a' x':Option Addr}{S S':Sx}(s:SCt w1 a x S)(s':SCt w1 a' x' S')(c d c' d':Nat):Ats ((w1.alloc (.cells #[.slice a S.l.length c,.slice x S.n d] 28)).alloc (.cells #[.slice a' S'.l.length c',.slice x' S'.n d'] 28)) (⟨w1.heap.size+1,a',x',c',d',S'⟩::⟨w1.heap.size,a,x,c,d,S⟩::L):=by
 have j:Below w1.heap.size w1 (w1.alloc (.cells #[.slice a S.l.length c,.slice x S.n d] 28)):=zO _ _;have:=(h.box hb s c d).box zI (s'.below j) c' d';simpa using this
theorem QaL.self {w:World}{B size g off n n' c:Nat}{xs:List Value}(h:QaL w B size (.slice (some ⟨g,off,none⟩) n' c) n xs):QaL w g size (.slice (some ⟨g,off,none⟩) n' c) n xs:=by
 obtain⟨m,q,j,e,u,r⟩:=h;have k:=e;injection e with e1 _ _;injection e1 with e1;injection e1 with e1 _ _;exact⟨m,q,j,k,Nat.le_of_eq e1,r⟩
structure SpA (w wx:World)(B rb:Nat)(f:Nat ->Int)(n x:Nat)(S:Sx)(g c gx cx:Nat)(P Q:Nat ->Nat):Prop where
 bs:Bx2 wx w.heap.size (.slice (some ⟨g,0,none⟩) S.l.length c) (.slice (some ⟨gx,0,none⟩) S.n cx)
 br:Bx2 wx (w.heap.size+1) (.slice none 0 0) (.slice none 0 0)
 lc:LC wx (w.heap.size+2) (.slice (some ⟨g,0,none⟩) S.l.length c) S.l P Q
 ow:Ow wx (w.heap.size+2) S.l P Q
 sep:Sep P S.l.length
 ru:QbU wx (w.heap.size+2) (.slice (some ⟨gx,0,none⟩) S.n cx) (fS S)
 gn:g≠gx
 pn:∀i,i<S.l.length ->P i≠gx
 up:0<S.n ->g<gx/\∀i,i<S.l.length ->P i<gx
 rd:RdJ wx B rb f n x
 gr:w.grownBy wx (some rb)
 z:B<=w.heap.size
section
variable {w w1 w2 : World} {B rb n x : Nat} {f : Nat -> Int} {S : Sx} {g c gx cx : Nat} {P Q : Nat -> Nat}
theorem Cpd.spA {va vx:Value}(h:Cpd w1 w2 S g c gx cx P Q)(hA:Bx2 w1 w.heap.size va vx)(hR:Bx2 w1 (w.heap.size+1) (.slice none 0 0) (.slice none 0 0))(hr:RdJ w1 B rb f n x)(hg:w.grownBy w1 (some rb))(hB:B<=w.heap.size):
  Bx2 w2 w.heap.size va vx/\ SpA w ((w2.setCell ⟨w.heap.size,0,none⟩ (.slice (some ⟨g,0,none⟩) S.l.length c)).setCell ⟨w.heap.size,1,none⟩ (.slice (some ⟨gx,0,none⟩) S.n cx)) B rb f n x S g c gx cx P Q:=by
 have u:=hR.lt;have k:=hA.below h.low hA.lt;have j:∀b,b≠w.heap.size ->((w2.setCell ⟨w.heap.size,0,none⟩ (.slice (some ⟨g,0,none⟩) S.l.length c)).setCell ⟨w.heap.size,1,none⟩ (.slice (some ⟨gx,0,none⟩) S.n cx)).heap[b]? =w2.heap[b]? :=fun b hb=>by
  rw [zH _ _ _ _ (by simpa using hb),zH _ _ _ _ (by simpa using hb)]
 have r:((w2.setCell ⟨w.heap.size,0,none⟩ (.slice (some ⟨g,0,none⟩) S.l.length c)).setCell ⟨w.heap.size,1,none⟩ (.slice (some ⟨gx,0,none⟩) S.n cx)).heap.size=w2.heap.size:=by simp [World.setCell]
 have m:Below w.heap.size w1 ((w2.setCell ⟨w.heap.size,0,none⟩ (.slice (some ⟨g,0,none⟩) S.l.length c)).setCell ⟨w.heap.size,1,none⟩ (.slice (some ⟨gx,0,none⟩) S.n cx)):=((h.low.mono (show w.heap.size<=w1.heap.size by omega)).setCell (p:=⟨w.heap.size,0,none⟩) zL _).setCell (p:=⟨w.heap.size,1,none⟩) zL _;refine⟨k,k.set _ _,((hR.below h.low hR.lt).setAt _ _ (by simp)).setAt _ _ (by simp),(h.lc.move (Nat.le_of_eq r.symm) (fun q h1 h2=>j q (by omega))).low (by omega),fun i hi=>QaV (Qaq (h.ow i hi) (fun b hb=> ?_)) (by omega),h.sep,?_,h.gn,h.pn,h.up,hr.below (m.mono hB),Qar hg m zL,hB⟩
 ·exact j b (by have:=((h.ow i hi).lt b hb).1;omega)
 ·have o:QbU w2 w1.heap.size (.slice (some ⟨gx,0,none⟩) S.n cx) (fS S):=QhV h.fr (by simp);exact QaL.weak (QaL.moveB o (Nat.le_of_eq r.symm) (fun q _ h1 h2=>j q (by omega))) (by omega)
theorem SpA.ctx {wx w4:World}{C gy oy cy x':Nat}{u:List Rn}(h:SpA w wx B rb f n x S g c gx cx P Q)(hC:w.heap.size+2<=C/\ g<C/\∀i,i<S.l.length ->P i<C)(hf:FrB wx w4 C rb)(ho:QbU w4 C (.slice (some ⟨gy,oy,none⟩) u.length cy) u)(hr:RdJ w4 B rb f n x')(hrb:rb<w.heap.size):
  (Bx2 w4 w.heap.size (.slice (some ⟨g,0,none⟩) S.l.length c) (.slice (some ⟨gx,0,none⟩) S.n cx)/\ Bx2 w4 (w.heap.size+1) (.slice none 0 0) (.slice none 0 0))/\∀m,w4.setCell ⟨w.heap.size,1,none⟩ (.slice (some ⟨gy,oy,none⟩) u.length cy)=m ->(Bx2 m w.heap.size (.slice (some ⟨g,0,none⟩) S.l.length c) (.slice (some ⟨gy,oy,none⟩) u.length cy)/\ Bx2 m (w.heap.size+1) (.slice none 0 0) (.slice none 0 0))/\∀j,(m.setCell ⟨w.heap.size+1,0,none⟩ (.slice (some ⟨g,0,none⟩) S.l.length c)).setCell ⟨w.heap.size+1,1,none⟩ (.slice (some ⟨gy,oy,none⟩) u.length cy)=j ->
   Bx2 j (w.heap.size+1) (.slice (some ⟨g,0,none⟩) S.l.length c) (.slice (some ⟨gy,oy,none⟩) u.length cy)/\ SNc j w.heap.size (some ⟨g,0,none⟩) c (some ⟨gy,oy,none⟩) (mkS S.l u)/\ RdJ j B rb f n x'/\ w.grownBy j (some rb):=by
 obtain⟨o,Z,E⟩:=hC;have G:=h.br.lt;have t:∀{b:Nat} {u0 u1:Value},Bx2 wx b u0 u1 ->b<C ->b≠rb ->Bx2 w4 b u0 u1:=fun{b u0 u1} hb h1 h2=>by
  have e:=hf.block b h1 h2;exact⟨(World.cell?_of_block (a:=⟨b,0,none⟩) e).trans hb.c0,(World.cell?_of_block (a:=⟨b,1,none⟩) e).trans hb.c1,fun i=>(World.frozen?_of_block (a:=⟨b,i,none⟩) e).trans (hb.f i),Nat.lt_of_lt_of_le hb.lt hf.size⟩
 have r:=t h.bs (by omega) (by omega);have v:=t h.br (by omega) (by omega);have Y:LC w4 (w.heap.size+2) (.slice (some ⟨g,0,none⟩) S.l.length c) S.l P Q:=⟨Qaq h.lc.row (fun b hb=>by
  have e:g=b:=by simpa [Value.ownBlock] using hb
  have:=(h.lc.lt g rfl).1;exact hf.block b (by omega) (by omega)),fun i hi=>by
  obtain⟨M,O,U,s⟩:=h.lc.pt i hi;exact⟨M,Nat.lt_of_lt_of_le O hf.size,U,s.1.same (hf.block _ (E i hi) (by omega)),s.2⟩⟩
 have V:w.grownBy w4 (some rb):=by
  refine⟨hf.os.trans h.gr.os,hf.tape.trans h.gr.tape,hf.output.trans h.gr.output,Nat.le_trans h.gr.size hf.size,fun k hk hne=> ?_⟩;exact(hf.block k (by omega) (fun e=>hne (by rw [e]))).trans (h.gr.block k hk hne)
 refine⟨⟨r,v⟩,?_⟩;rintro m rfl;have A:=r.set1 (.slice (some ⟨gy,oy,none⟩) u.length cy);have y:=v.setAt ⟨w.heap.size,1,none⟩ (.slice (some ⟨gy,oy,none⟩) u.length cy) (by simp);refine⟨⟨A,y⟩,?_⟩;rintro j rfl;have b7:Below w.heap.size w4 (((w4.setCell ⟨w.heap.size,1,none⟩ (.slice (some ⟨gy,oy,none⟩) u.length cy)).setCell ⟨w.heap.size+1,0,none⟩ (.slice (some ⟨g,0,none⟩) S.l.length c)).setCell ⟨w.heap.size+1,1,none⟩ (.slice (some ⟨gy,oy,none⟩) u.length cy)):=((zI.setCell (p:=⟨w.heap.size,1,none⟩) zL _).setCell (p:=⟨w.heap.size+1,0,none⟩) (Nat.le_succ _) _).setCell (p:=⟨w.heap.size+1,1,none⟩) (Nat.le_succ _) _;refine⟨y.set _ _,?_,hr.below (b7.mono h.z),Qar V b7 zL⟩;refine(Qlw Y (QaL.weak ho o)).move (Nat.le_add_right _ _) (by simp [World.setCell]) (fun q h1 h2=> ?_);rw [zH _ _ _ _ (by simp;omega),zH _ _ _ _ (by simp;omega),zH _ _ _ _ (by simp;omega)]
theorem SpA.leaf {wx:World}(h:SpA w wx B rb f n x S g c gx cx P Q){i:Nat}(hi:i<S.l.length)(y:Lf)(hy:gL S.l i=y)(vs:Array Value){W4:World}(h4:wx.alloc (.cells vs 69)=W4):
  SpM w W4 B rb f n x wx.heap.size i S.l y (fS S) g c (P i) (Q i) gx cx P Q/\ LC W4 (w.heap.size+2) (.slice (some ⟨g,0,none⟩) S.l.length c) S.l P Q/\ W4.ownsRow (w.heap.size+2) 9 1 (.slice (some ⟨P i,0,none⟩) y.p.length (Q i)) y.p.length (Qcf y.p):=by
 have b4:Below wx.heap.size wx W4:=by rw [<- h4];exact zO _ _
 have E:=h.lc.lt g rfl;have U:=h.br.lt;obtain⟨A,m,M,O⟩:=QaL.lt h.ru;have m:gx=A:=by simpa [Value.ownBlock] using m
 have r:=h.lc.below b4;have q:∀j,j<S.l.length ->PtA w W4 g wx.heap.size (gL S.l j) (P j) (Q j):=fun j hj=>by
  obtain⟨u,k,v,t,o,s⟩:=h.lc.pt j hj;exact⟨u,Nat.lt_of_lt_of_le k b4.size,fun e=>v (by simp [Value.ownBlock,e]),by omega,t.same (b4.block _ k),o,s⟩
 subst hy;refine⟨⟨?_,h.br.below b4 h.br.lt,r.row,fun j h1 _=>q j h1,q i hi,?_,⟨h.gn.symm,by omega,by omega⟩,by omega,h.rd.below (b4.mono (by have:=h.z;omega)),Qar h.gr b4 (by have:=h.gr.size;omega),h.z⟩,r,Qaq (h.ow i hi) (fun b hb=>b4.block b ((h.ow i hi).lt b hb).2)⟩
 ·rw [Qca];exact h.bs.below b4 h.bs.lt
 ·rw [Qca];exact QaL.below h.ru b4 zL
theorem SpM.more {wx wy w3:World}{b7 i:Nat}{l:List Lf}{y:Lf}{u:List Rn}{p pc q' cap':Nat}{P' Q':Nat ->Nat}(h:SpM w wx B rb f n x b7 i l y u g c p pc gx cx P Q)(hb:Below wx.heap.size wx wy)(lc:LC w3 (w.heap.size+2) (.slice (some ⟨q',0,none⟩) (l.length+1) cap') (l++[y]) P' Q')(gr:Gr wy w3 (.slice (some ⟨g,0,none⟩) l.length c) (.slice (some ⟨q',0,none⟩) (l.length+1) cap'))(hP:∀j,j<l.length ->P' j≠b7)(hP2:P' l.length≠b7)(hbw:b7<wx.heap.size):
  (Bx2 w3 w.heap.size (.slice (some ⟨g,0,none⟩) l.length c) (.slice (some ⟨gx,0,none⟩) u.length cx))/\ SpM w (w3.setCell ⟨w.heap.size,0,none⟩ (.slice (some ⟨q',0,none⟩) (l.length+1) cap')) B rb f n x b7 i (l++[y]) y u q' cap' p pc gx cx P' Q':=by
 have r:=h.below hb;have m:wy.grownBy w3 (some g):=gr.g;have H:=h.glt;have K:=h.br.lt;have N:=hb.size;have L:=m.size;have o:q'=g \/wy.heap.size<=q':=by
  rcases gr.l with e|⟨q,e,o⟩
  ·exact .inl (by simpa [Value.ownBlock] using e)
  ·have e:q'=q:=by simpa [Value.ownBlock] using e
   exact .inr (by omega)
 have t:(l++[y]).length=l.length+1:=by simp
 have s:=r.bs.grw m (by omega);have v:∀b,b≠w.heap.size ->(w3.setCell ⟨w.heap.size,0,none⟩ (.slice (some ⟨q',0,none⟩) (l.length+1) cap')).heap[b]? =w3.heap[b]? :=fun b hb=>zH _ _ _ _ (by simpa using hb);have b3:Below w.heap.size wy w3:=zI.grown m (by omega) (fun k e=>by injection e with e;omega);have E:Below w.heap.size wy (w3.setCell ⟨w.heap.size,0,none⟩ (.slice (some ⟨q',0,none⟩) (l.length+1) cap')):=b3.setCell (p:=⟨w.heap.size,0,none⟩) zL _;obtain⟨G,A,I,J⟩:=QaL.lt h.ru;have A:gx=G:=by simpa [Value.ownBlock] using A
 refine⟨s,?_,((r.br.grw m (by omega)).setAt _ _ (by simp)),?_,fun j hj hne=> ?_,?_,?_,⟨?_,h.gn.2.1,?_⟩,h.hb,r.rd.below (E.mono h.z),Qar r.gr E zL,h.z⟩
 ·rw [t];exact s.set0 _
 ·rw [t];have:=lc.row;rw [t] at this;exact Qaq this (fun b hb=>v b (by have:=(lc.lt b hb).1;omega))
 ·obtain⟨M,O,U,V,Y,Z⟩:=lc.pt j hj;refine⟨M,by simpa [World.setCell] using O,fun e=>U (by simp [Value.ownBlock,e]),?_,V.same (v _ (by omega)),Y,Z⟩;by_cases e:j<l.length
  ·exact hP j e
  ·rw [show j=l.length by rw [t] at hj;omega];exact hP2
 ·have:=r.pt;refine⟨this.lo,by simp [World.setCell];have:=this.lt;omega,?_,this.nb,(this.wr.same (m.block _ this.lt (fun e=>this.ng (by injection e)))).same (v _ (by have:=this.lo;omega)),this.c1,this.c2⟩;rcases o with e|e
  ·rw [e];exact this.ng
  ·have:=h.pt.lt;omega
 ·refine QaL.moveB (QaL.gr r.ru m (fun e=>h.gn.1 (by simpa [Value.ownBlock] using e))) (by simp [World.setCell]) (fun q _ a b=>v q (by omega))
 ·rcases o with e|e
  ·rw [e];exact h.gn.1
  ·omega
 ·rcases o with e|e
  ·rw [e];exact h.gn.2.2
  ·omega
end
theorem QiP {w:World}{g:Nat}{cur:Array Value}{t:TypeId}(h:w.heap[g]? =some (.cells cur t (0,0))){u:Value}:(w.setCell ⟨g,0,none⟩ u).heap[g]? =some (.cells (cur.setIfInBounds 0 u) t (0,0)):=by
 have j:g<w.heap.size:=(Array.getElem?_eq_some_iff.1 h).1;have e:w.heap[g]=.cells cur t (0,0):=(Array.getElem?_eq_some_iff.1 h).2;simp [World.setCell,Array.getElem?_modify,h]
theorem QhB (B rb lo:Nat)(f:Nat ->Int)(n x:Nat)(a xx:Option Addr)(c d:Nat)(S:Sx)(w:World)(h:RdJ w B rb f n x)(hB:B<=w.heap.size)(hS:Dr S)(hs:SNc w lo a c xx S)(hlo:rb<lo):
  Calls Tryz.prog 21 #[.pointer (some ⟨rb,0,none⟩),.agg #[.slice a S.l.length c,.slice xx S.n d]] w fun e w'=>∃a' c' x' d',e=.returned (.agg #[.slice a' (spS f n x S).l.length c',.slice x' (spS f n x S).n d'])/\ SNc w' w.heap.size a' c' x' (spS f n x S)/\ RdJ w' B rb f n (spX f n x S)/\ w.grownBy w' (some rb):=by
 obtain⟨W,hW⟩:∃W,(w.alloc (.cells #[.slice a S.l.length c,.slice xx S.n d] 28)).alloc (.cells #[.slice none 0 0,.slice none 0 0] 28)=W:=⟨_,rfl⟩;have b0:Below w.heap.size w W:=by rw [<- hW];exact Qak _ _ _
 have A0:Bx2 W w.heap.size (.slice a S.l.length c) (.slice xx S.n d):=by rw [<- hW];exact(Bx2.made w _ _ _).allocs _
 have R0:Bx2 W (w.heap.size+1) (.slice none 0 0) (.slice none 0 0):=by rw [<- hW];simpa using Bx2.made (w.alloc (.cells #[.slice a S.l.length c,.slice xx S.n d] 28)) (.slice none 0 0) (.slice none 0 0) 28
 have Kv:=h.lt;have HR:=hid (h.below (b0.mono hB));have HN:=hid (QaN B rb f n x W HR.out);have hk:=Qk9 HR.out;obtain⟨k,H3⟩:∃k,rk f n x=k:=⟨_,rfl⟩;rw [H3] at hk HN;have Kq:=hid H3;have Ho:=hid b0;have Gm:=hid A0;have Gc:=hid R0;have Go:=hid (hs.below b0);have Kb:=hid hS.gd;have Hq:=hid hS;have Hh:Hid (spS f n x S=(if k%8=0 \/S.l.length=0 then mkS S.l (spF (rk f n (rx n x)) (fS S)) else mkS (spL k S.l) (fS S))/\ spX f n x S=(if k%8=0 \/S.l.length=0 then rx n (rx n x) else rx n x)):=hid (by unfold spS spX;rw [H3];exact⟨rfl,rfl⟩);obtain⟨Z,hZ⟩:∃Z,spS f n x S=Z:=⟨_,rfl⟩;obtain⟨ZX,Gz⟩:∃ZX,spX f n x S=ZX:=⟨_,rfl⟩;rw [hZ,Gz] at Hh ⊢;clear b0 A0 R0 h hs hS H3 hZ Gz;go_enter Tryz.func21,Tryz.ntmps21;go_wp2_with fail;try rw [hW]
 clear hW;refine HN.mono ?_;rintro e w1 ⟨rfl,r1,g1⟩;have Kw:w.heap.size+2<=W.heap.size:=Gc.lt;have A1:=Gm.grw g1 (by omega);have R1:=Gc.grw g1 (by omega);have H8:Hid (w.grownBy w1 (some rb)):=hid ⟨g1.os.trans Ho.os,g1.tape.trans Ho.tape,g1.output.trans Ho.output,Nat.le_trans Ho.size g1.size,fun q hq hne=>(g1.block q (by omega) hne).trans (Ho.block q hq)⟩;have Gl:=Go.gr g1 hlo;have HC:=hid (Qmt a xx c d S w1 Kb.sm (fun i hi=>(Qe9 Hq.vd hi).1) ⟨Gl.at.1,Gl.at.2⟩);have G8:=hid A1;have Kd:=hid R1;have Gd:=hid r1;have a0:=A1.c0;have a1:=A1.c1;clear A1 R1 g1 r1 Gl HN HR Gm Gc Go;go_wp2_with fail;refine HC.mono ?_;rintro e w2 ⟨g,N,J,cx,P,Q,rfl,G2⟩;obtain⟨A2,Hy⟩:=G2.spA G8.out Kd.out Gd.out H8.out hB;have s0:=A2.c0;have s1:=A2.c1;have sf:=A2.f;obtain⟨W3,Hn⟩:∃W3,(w2.setCell ⟨w.heap.size,0,none⟩ (.slice (some ⟨g,0,none⟩) S.l.length N)).setCell ⟨w.heap.size,1,none⟩ (.slice (some ⟨J,0,none⟩) S.n cx)=W3:=⟨_,rfl⟩;rw [Hn] at Hy;have R:=hid Hy;have t0:=Hy.bs.c0;have t1:=Hy.bs.c1;have Ku:S.l.length<=1000:=Hq.vd.2.1;clear a0 a1 A2 G2 Hy HC;have G6:Hid (∃C,B<=C/\ C<=W3.heap.size/\ (w.heap.size+2<=C/\ g<C/\∀i,i<S.l.length ->P i<C)/\ ((fS S).length=0 \/J=C)):=hid (by
  have hz:=R.br.lt;have G3:=R.lc.lt g rfl;obtain⟨Gf,e1,Kk,Kl⟩:=QaL.lt R.ru;have e1:J=Gf:=by simpa [Value.ownBlock] using e1
  by_cases h0:0<S.n
  ·obtain⟨u1,u2⟩:=R.up h0;exact⟨J,by omega,by omega,⟨by omega,u1,u2⟩,.inr rfl⟩
  ·exact⟨W3.heap.size,by omega,Nat.le_refl _,⟨by omega,G3.2,fun i hi=>(R.lc.pt i hi).2.1⟩,.inl (by rw [Qca];omega)⟩)
 obtain⟨C,Gv,Gw,Gx,Gy⟩:=G6.out;have G9:Hid (B<=J):=hid (by
  obtain⟨Gf,e1,Kk,Kl⟩:=QaL.lt R.ru;have e1:J=Gf:=by simpa [Value.ownBlock] using e1
  omega)
 have Hm:=hid (QnW B rb C f n (rx n x) (.slice (some ⟨J,0,none⟩) S.n cx) (fS S) W3 R.rd Gv Gw J (QaL.self R.ru) Gy G9.out (by rw [Qca];have:=(Qam.1 Hq.vd.1).2;omega) (QhH Hq.vd).br);have Hp:=hid Gx;clear Gv Gw Gx Gy G6;obtain⟨u,hu⟩:∃u,spF (rk f n (rx n x)) (fS S)=u:=⟨_,rfl⟩;rw [hu] at Hm Hh;clear hu;by_cases e0:k%8=0
 ·have d0:((k:Int)%8==0)=true:=by rw [beq_iff_eq];omega
  have HE:Hid (k%8=0 \/S.l.length=0):=hid (.inl e0);clear e0;go_wp2_with fail;try rw [Hn]
  clear Hn;refine Hm.mono ?_;rintro e w4 ⟨v4,rfl,o4,r4,f4⟩;obtain⟨gy,oy,cy,rfl,_⟩:=o4.fs;obtain⟨⟨A4,R4⟩,h5⟩:=R.ctx Hp.out f4 o4 r4 (by omega);obtain⟨W5,Hk⟩:∃W5,w4.setCell ⟨w.heap.size,1,none⟩ (.slice (some ⟨gy,oy,none⟩) u.length cy)=W5:=⟨_,rfl⟩;obtain⟨⟨A5,R5⟩,h7⟩:=h5 W5 Hk;have q0:=A4.c0;have q1:=A4.c1;have qf:=A4.f;have v0:=A5.c0;have v1:=A5.c1;have o0:=R5.c0;have o1:=R5.c1;have of:=R5.f;have HF:=hid (h7 _ rfl);clear o4 r4 f4 A4 R4 A5 R5 h5 h7 s0 s1 sf t0 t1 Hm R Hp;go_wp2_with fail;obtain⟨X7,Hl,r7,g7⟩:=HF.out;have y0:=X7.c0;have y1:=X7.c1;have E:Z=mkS S.l u/\ ZX=rx n (rx n x):=⟨by rw [Hh.1,if_pos HE.out],by rw [Hh.2,if_pos HE.out]⟩;obtain⟨rfl,rfl⟩:=E;refine zF (v:=.agg #[.slice (some ⟨g,0,none⟩) S.l.length N,.slice (some ⟨gy,oy,none⟩) u.length cy]) (by simp [results,Tryz.results21,go_sem,y0,y1]) ?_;exact⟨_,N,_,cy,rfl,Hl,r7,g7⟩
 ·have d0:((k:Int)%8==0)=false:=by rw [beq_eq_false_iff_ne];omega
  by_cases Gh:S.l.length=0
  ·have d1:((S.l.length:Int)==0)=true:=by rw [Gh];rfl
   have HE:Hid (k%8=0 \/S.l.length=0):=hid (.inr Gh);clear e0 Gh;go_wp2_with fail;try rw [Hn]
   clear Hn;refine Hm.mono ?_;rintro e w4 ⟨v4,rfl,o4,r4,f4⟩;obtain⟨gy,oy,cy,rfl,_⟩:=o4.fs;obtain⟨⟨A4,R4⟩,h5⟩:=R.ctx Hp.out f4 o4 r4 (by omega);obtain⟨W5,Hk⟩:∃W5,w4.setCell ⟨w.heap.size,1,none⟩ (.slice (some ⟨gy,oy,none⟩) u.length cy)=W5:=⟨_,rfl⟩;obtain⟨⟨A5,R5⟩,h7⟩:=h5 W5 Hk;have q0:=A4.c0;have q1:=A4.c1;have qf:=A4.f;have v0:=A5.c0;have v1:=A5.c1;have o0:=R5.c0;have o1:=R5.c1;have of:=R5.f;have HF:=hid (h7 _ rfl);clear o4 r4 f4 A4 R4 A5 R5 h5 h7 s0 s1 sf t0 t1 Hm R Hp;go_wp2_with fail;obtain⟨X7,Hl,r7,g7⟩:=HF.out;have y0:=X7.c0;have y1:=X7.c1;have E:Z=mkS S.l u/\ ZX=rx n (rx n x):=⟨by rw [Hh.1,if_pos HE.out],by rw [Hh.2,if_pos HE.out]⟩;obtain⟨rfl,rfl⟩:=E;refine zF (v:=.agg #[.slice (some ⟨g,0,none⟩) S.l.length N,.slice (some ⟨gy,oy,none⟩) u.length cy]) (by simp [results,Tryz.results21,go_sem,y0,y1]) ?_;exact⟨_,N,_,cy,rfl,Hl,r7,g7⟩
  ·have d1:((S.l.length:Int)==0)=false:=by rw [beq_eq_false_iff_ne];omega
   clear Hm Hp;obtain⟨mm,Hw⟩:∃mm:Int,(k:Int)/8%(S.l.length:Int)=mm:=⟨_,rfl⟩;have Ki:0<=mm:=by rw [<- Hw];exact Int.emod_nonneg _ (by omega)
   have Kj:mm<(S.l.length:Int):=by rw [<- Hw];exact Int.emod_lt_of_pos _ (by omega)
   obtain⟨ii,rfl⟩:∃ii:Nat,mm=(ii:Int):=⟨mm.toNat,by omega⟩;have He:ii<S.l.length:=by omega
   have HI:Hid (k/8%S.l.length=ii):=hid (by exact_mod_cast Hw);obtain⟨G,I,c2,c3,c4⟩:=R.lc.cell rfl He;obtain⟨y,hy⟩:∃y,gL S.l ii=y:=⟨_,rfl⟩;have Hu:=Qe9 Hq.vd He;rw [hy] at G I c2 c3 c4 Hu;obtain⟨p,hp⟩:∃p,P ii=p:=⟨_,rfl⟩;obtain⟨pc,Gj⟩:∃pc,Q ii=pc:=⟨_,rfl⟩;rw [hp,Gj] at G;obtain⟨U,Hv⟩:∃U,W3.alloc (.cells #[.slice (some ⟨p,0,none⟩) y.p.length pc,.bool y.fl,.int .i64 y.r,.int .i64 y.q,.string y.v] 69)=U:=⟨_,rfl⟩;have hM:=R.leaf He y hy _ Hv;have X4:Bx5 U W3.heap.size (.slice (some ⟨p,0,none⟩) y.p.length pc) (.bool y.fl) (.int .i64 y.r) (.int .i64 y.q) (.string y.v):=by rw [<- Hv];exact Bx5.new _ _ _ _ _ _ _
   rw [hp,Gj] at hM;have Hs:Hid (∀j,j<S.l.length ->j≠ii ->P j≠p):=hid (fun j h1 h2 e=>R.sep j ii h1 He h2 (by rw [e,hp]));have Kc:Hid (P ii=p):=hid hp;have Gn:Hid (p≠J):=hid (by rw [<- hp];exact R.pn ii He);have Ka:Hid (Z=mkS (spL k S.l) (fS S)/\ ZX=rx n x):=hid (by
    have hn:¬(k%8=0 \/S.l.length=0):=by omega
    exact⟨by rw [Hh.1,if_neg hn],by rw [Hh.2,if_neg hn]⟩)
   have Hg:Hid (∀(l':List Lf) (y':Lf),l'=(if k%8=5 then S.l++[y] else S.l) ->y'=spY k y ->l'.set ii y'=spL k S.l):=hid (fun l' y' e1 e2=>by unfold spL;rw [HI.out,hy,<- e1,<- e2]);have Kr:=hid hy;have X:=hid hM.1;have H9:=hid hM.2.1;have Gb:=hid hM.2.2;have V:=hid X4;have i1:(0:Int)<=(ii:Int):=Int.natCast_nonneg _;have i2:(ii:Int)<(S.l.length:Int):=by omega
   have Ko:¬(S.l.length:Int)=0:=by omega
   have Kp:Int.tmod ((k:Int)/8) (S.l.length:Int)=(ii:Int):=by rw [Int.tmod_eq_emod_of_nonneg (by omega)];exact Hw
   have Kx:IntKind.i64.wrap (ii:Int)=(ii:Int):=by rw [IntKind.wrap_i64];omega
   obtain⟨m,s,O,z,A⟩:=y;dsimp only at G I c2 c3 c4 V Hu Hv X4;clear hM X4 hy hp Gj Hh R Ki Kj;go_upto_if 40 with fail;try rw [Hv]
   clear Hv G I c2 c3 c4 s0 s1 sf t0 t1 Hn;obtain⟨b7,G1⟩:∃b7,W3.heap.size=b7:=⟨_,rfl⟩;rw [G1] at X V ⊢;clear G1;go_cut [] from 8 to 87 (fun wx=>∃(l':List Lf) (y':Lf) (g' c' p' H5:Nat) (P' Q':Nat ->Nat),Hid (SpM w wx B rb f n (rx n x) b7 ii l' y' (fS S) g' c' p' H5 J cx P' Q'/\ Bx5 wx b7 (.slice (some ⟨p',0,none⟩) y'.p.length H5) (.bool y'.fl) (.int .i64 y'.r) (.int .i64 y'.q) (.string y'.v)/\ ii<l'.length/\ l'.length<=1001/\ l'.set ii y'=spL k S.l));case first=>
    obtain⟨k8,Kt⟩:∃k8:Nat,(k:Int)%8=(k8:Int):=⟨k%8,by omega⟩;have Gg:k8<8:=by omega
    have M:Hid (k%8=k8):=hid (by omega);have x0:=V.c0;have x1:=V.c1;have x2:=V.c2;have x3:=V.c3;have x4:=V.c4;have xf:=V.f;match k8,Gg with
    | 0,_=>exact absurd M.out e0
    | 1,_=>
     obtain⟨W5,Hk⟩:∃W5,U.alloc (.cells #[.string ⟨#[]⟩] 9)=W5:=⟨_,rfl⟩;have H:Below U.heap.size U W5:=by rw [<- Hk];exact zO _ _
     have z5:W5.cell? ⟨U.heap.size,0,none⟩=some (.string ⟨#[]⟩):=by rw [<- Hk];simp
     have G7:=Qaq Gb.out (fun b hb=>H.block b (Gb.lt b hb).2);have Km:=X.br.lt;obtain⟨q,cap,w6,Ha,Hz,g6,q1,q2⟩:=Qjo G7 (by have:=H.size;omega) (by have:=Hu.2.1;omega) ⟨#[]⟩ U.heap.size z5;have H1:U.grownBy w6 (some p):=⟨g6.os.trans H.os,g6.tape.trans H.tape,g6.output.trans H.output,Nat.le_trans H.size g6.size,fun b hb hne=>(g6.block b (Nat.lt_of_lt_of_le hb H.size) hne).trans (H.block b hb)⟩;have Hc:=X.pt;have X6:Bx5 w6 b7 (.slice (some ⟨p,0,none⟩) m.length pc) (.bool s) (.int .i64 O) (.int .i64 z) (.string A):=by
      have e:w6.heap[b7]? =U.heap[b7]? :=H1.block b7 V.lt (fun e=>Hc.nb (by injection e with e;exact e.symm));have q:=fun o=>World.cell?_of_block (w:=U) (w':=w6) (a:=⟨b7,o,none⟩) e;exact⟨(q 0).trans V.c0,(q 1).trans V.c1,(q 2).trans V.c2,(q 3).trans V.c3,(q 4).trans V.c4,fun i=>(World.frozen?_of_block (a:=⟨b7,i,none⟩) e).trans (V.f i),Nat.lt_of_lt_of_le V.lt H1.size⟩
     have hq:q=p \/q=W5.heap.size:=by
      rcases q2 with e|e
      ·exact .inl (by simpa [Value.ownBlock] using e.symm)
      ·exact .inr e
     have G5:=(Hz.lt q rfl).2;have T:Hid (SpM w (w6.setCell ⟨b7,0,none⟩ (.slice (some ⟨q,0,none⟩) (m.length+1) cap)) B rb f n (rx n x) b7 ii S.l ⟨m++[⟨#[]⟩],s,O,z,A⟩ (fS S) g N q cap J cx P Q/\ Bx5 (w6.setCell ⟨b7,0,none⟩ (.slice (some ⟨q,0,none⟩) (m.length+1) cap)) b7 (.slice (some ⟨q,0,none⟩) (m++[(⟨#[]⟩:ByteArray)]).length cap) (.bool s) (.int .i64 O) (.int .i64 z) (.string A)):=hid (by
      have G3:=X.glt;have H2:=V.lt;have Ks:=H.size;have M6:SpM w w6 B rb f n (rx n x) b7 ii S.l ⟨m++[⟨#[]⟩],s,O,z,A⟩ (fS S) g N q cap J cx P Q:=by
       refine X.chg (r:=p) H1 ⟨Hc.lo,Hc.ng,Gn.out,Hs.out⟩ ⟨?_,G5,?_,?_,?_,?_,?_⟩
       ·rcases hq with e|e
        ·rw [e];exact Hc.lo
        ·omega
       ·rcases hq with e|e
        ·rw [e];exact Hc.ng
        ·omega
       ·rcases hq with e|e
        ·rw [e];exact Hc.nb
        ·omega
       ·have:=(Qcx Hz (by simp)).2;simpa using this
       ·rcases Hz.2 with ⟨e,_⟩|⟨g',D,Hj,hv,_,_,e1,e2,_⟩
        ·cases e
        ·injection hv with _ _ e3;simp;omega
       ·rcases Hz.2 with ⟨e,_⟩|⟨g',D,Hj,hv,_,_,e1,e2,_⟩
        ·cases e
        ·injection hv with _ _ e3;unfold maxLen at e2;omega
      exact⟨M6.setB _ _ rfl,by simpa using X6.set0 (.slice (some ⟨q,0,none⟩) (m.length+1) cap)⟩)
     have u0:=X6.c0;have uf:=X6.f;clear H z5 G7 Hz g6 H1 Hc X6 hq G5 q1 q2;go_wp2_with (at_builtin;refine Qaa rfl _ _ _ _ rfl Ha (by rfl) (by rfl) rfl ?_;clear Ha);go_meet;exact⟨S.l,⟨m++[⟨#[]⟩],s,O,z,A⟩,g,N,q,cap,P,Q,hid ⟨T.1,T.2,He,by omega,Hg.out _ _ (by rw [if_neg (by rw [M.out];decide)]) (by unfold spY;rw [if_pos M.out])⟩⟩
    | 2,_=>
     have T:Hid (SpM w (U.setCell ⟨b7,1,none⟩ (.bool !s)) B rb f n (rx n x) b7 ii S.l ⟨m, !s,O,z,A⟩ (fS S) g N p pc J cx P Q/\ Bx5 (U.setCell ⟨b7,1,none⟩ (.bool !s)) b7 (.slice (some ⟨p,0,none⟩) (⟨m, !s,O,z,A⟩:Lf).p.length pc) (.bool (⟨m, !s,O,z,A⟩:Lf).fl) (.int .i64 (⟨m, !s,O,z,A⟩:Lf).r) (.int .i64 (⟨m, !s,O,z,A⟩:Lf).q) (.string (⟨m, !s,O,z,A⟩:Lf).v)):=hid ⟨X.setB _ _ rfl,V.set1 _⟩;go_wp2_with fail;go_meet;exact⟨S.l,⟨m, !s,O,z,A⟩,g,N,p,pc,P,Q,hid ⟨T.1,T.2,He,by omega,Hg.out _ _ (by rw [if_neg (by rw [M.out];decide)]) (by unfold spY;rw [if_neg (by rw [M.out];decide)];rw [if_pos M.out])⟩⟩
    | 3,_=>
     have wq:IntKind.i64.wrap (z+1)=z+1:=Qau _ (by omega) (by omega);have T:Hid (SpM w (U.setCell ⟨b7,3,none⟩ (.int .i64 (z+1))) B rb f n (rx n x) b7 ii S.l ⟨m,s,O,z+1,A⟩ (fS S) g N p pc J cx P Q/\ Bx5 (U.setCell ⟨b7,3,none⟩ (.int .i64 (z+1))) b7 (.slice (some ⟨p,0,none⟩) (⟨m,s,O,z+1,A⟩:Lf).p.length pc) (.bool (⟨m,s,O,z+1,A⟩:Lf).fl) (.int .i64 (⟨m,s,O,z+1,A⟩:Lf).r) (.int .i64 (⟨m,s,O,z+1,A⟩:Lf).q) (.string (⟨m,s,O,z+1,A⟩:Lf).v)):=hid ⟨X.setB _ _ rfl,V.set3 _⟩;go_wp2_with fail;go_meet;exact⟨S.l,⟨m,s,O,z+1,A⟩,g,N,p,pc,P,Q,hid ⟨T.1,T.2,He,by omega,Hg.out _ _ (by rw [if_neg (by rw [M.out];decide)]) (by unfold spY;rw [if_neg (by rw [M.out];decide)];rw [if_neg (by rw [M.out];decide)];rw [if_pos M.out])⟩⟩
    | 4,_=>
     obtain⟨n4,G4⟩:∃n4:Nat,200+k/128=n4:=⟨_,rfl⟩;have wn:IntKind.i64.wrap (200+(k:Int)/128)=(n4:Int):=by rw [show 200+(k:Int)/128=(n4:Int) by omega];exact Qau _ (by omega) (by omega)
     have Ge:=hid (QcE ⟨#[118]⟩ n4 U (by decide) (by omega));have Ga:=hid G4;clear G4;obtain⟨tx,Gk⟩:∃tx,txJ (rpt ⟨#[118]⟩ n4)=tx:=⟨_,rfl⟩;rw [Gk] at Ge;have Ke:=hid Gk;clear Gk;go_wp2_with fail;refine Ge.mono ?_;rintro e F ⟨rfl,H⟩;have X5:=V.below H V.lt;have T:Hid (SpM w (F.setCell ⟨b7,4,none⟩ (.string tx)) B rb f n (rx n x) b7 ii S.l ⟨m,s,O,z,tx⟩ (fS S) g N p pc J cx P Q/\ Bx5 (F.setCell ⟨b7,4,none⟩ (.string tx)) b7 (.slice (some ⟨p,0,none⟩) m.length pc) (.bool s) (.int .i64 O) (.int .i64 z) (.string tx)):=hid ⟨(X.below H).setB _ _ rfl,X5.set4 _⟩;have u4:=X5.c4;have uf:=X5.f;clear X5 H x0 x1 x2 x3 x4 xf Ge;go_wp2_with fail;go_meet;exact⟨S.l,⟨m,s,O,z,tx⟩,g,N,p,pc,P,Q,hid ⟨T.1,T.2,He,by omega,Hg.out _ _ (by rw [if_neg (by rw [M.out];decide)]) (by unfold spY;rw [if_neg (by rw [M.out];decide)];rw [if_neg (by rw [M.out];decide)];rw [if_neg (by rw [M.out];decide)];rw [if_pos M.out,Ga.out,Ke.out])⟩⟩
    | 5,_=>
     have Hc:=X.pt;have Km:=X.br.lt;have Hr:Hid (∀w1,Below U.heap.size U w1 ->Calls Tryz.prog 52 #[.agg #[.slice (some ⟨p,0,none⟩) m.length pc,.bool s,.int .i64 O,.int .i64 z,.string A]] w1 fun e w'=>∃q cap,e=.returned (.agg #[.slice (some ⟨q,0,none⟩) m.length cap,.bool s,.int .i64 O,.int .i64 z,.string A])/\ Below w1.heap.size w1 w'/\ w1.heap.size<=q/\ q<w'.heap.size/\ Wr w' q 9 m.length (fun t=> .string (gS m t))/\ m.length<=cap/\ cap<=9223372036854775807/\ w'.ownsRow w1.heap.size 9 1 (.slice (some ⟨q,0,none⟩) m.length cap) m.length (Qcf m)):=hid (fun w1 hb=>by
      exact Qg4 p 0 m.length pc ⟨m,s,O,z,A⟩ w1 rfl (by have:=Hu.2.1;omega) (Nat.lt_of_lt_of_le Hc.lt hb.size) (fun t ht=>by rw [Nat.zero_add];exact(hb.cell (p:=⟨p,t,none⟩) Hc.lt).trans (Hc.wr.cell ht)))
     have Hd:Hid (∀w',Below U.heap.size U w' ->(w'.cell? ⟨b7,0,none⟩=some (.slice (some ⟨p,0,none⟩) m.length pc)/\ w'.cell? ⟨b7,1,none⟩=some (.bool s)/\ w'.cell? ⟨b7,2,none⟩=some (.int .i64 O)/\ w'.cell? ⟨b7,3,none⟩=some (.int .i64 z)/\ w'.cell? ⟨b7,4,none⟩=some (.string A))):=hid (fun w' hb=>⟨(hb.cell (p:=⟨b7,0,none⟩) V.lt).trans V.c0,(hb.cell (p:=⟨b7,1,none⟩) V.lt).trans V.c1,(hb.cell (p:=⟨b7,2,none⟩) V.lt).trans V.c2,(hb.cell (p:=⟨b7,3,none⟩) V.lt).trans V.c3,(hb.cell (p:=⟨b7,4,none⟩) V.lt).trans V.c4⟩);have Ht:Hid (∀F q qc,Below U.heap.size U F ->U.heap.size<=q ->q<F.heap.size ->Wr F q 9 m.length (fun t=> .string (gS m t)) ->(m.length<=qc/\ qc<=9223372036854775807) ->∃q' D L,(Builtin.append_ #[23,23] 23 #[.slice (some ⟨g,0,none⟩) S.l.length N,.slice (some ⟨F.heap.size,0,none⟩) 1 1]).run Tryz.prog (F.alloc (.cells #[.slice (some ⟨q,0,none⟩) m.length qc,.bool s,.int .i64 O,.int .i64 z,.string A] 69))=.ok (.slice (some ⟨q',0,none⟩) (S.l.length+1) D) L/\
       Bx2 L w.heap.size (.slice (some ⟨g,0,none⟩) S.l.length N) (.slice (some ⟨J,0,none⟩) (fS S).length cx)/\ (∃P' Q',SpM w (L.setCell ⟨w.heap.size,0,none⟩ (.slice (some ⟨q',0,none⟩) (S.l.length+1) D)) B rb f n (rx n x) b7 ii (S.l++[⟨m,s,O,z,A⟩]) ⟨m,s,O,z,A⟩ (fS S) q' D p pc J cx P' Q'/\ Bx5 (L.setCell ⟨w.heap.size,0,none⟩ (.slice (some ⟨q',0,none⟩) (S.l.length+1) D)) b7 (.slice (some ⟨p,0,none⟩) m.length pc) (.bool s) (.int .i64 O) (.int .i64 z) (.string A))/\ (L.cell? ⟨b7,0,none⟩=some (.slice (some ⟨p,0,none⟩) m.length pc)/\ L.cell? ⟨b7,1,none⟩=some (.bool s)/\ L.cell? ⟨b7,2,none⟩=some (.int .i64 O)/\ L.cell? ⟨b7,3,none⟩=some (.int .i64 z)/\ L.cell? ⟨b7,4,none⟩=some (.string A))/\ ((L.setCell ⟨w.heap.size,0,none⟩ (.slice (some ⟨q',0,none⟩) (S.l.length+1) D)).cell? ⟨b7,0,none⟩=some (.slice (some ⟨p,0,none⟩) m.length pc)/\ (L.setCell ⟨w.heap.size,0,none⟩ (.slice (some ⟨q',0,none⟩) (S.l.length+1) D)).cell? ⟨b7,1,none⟩=some (.bool s)/\ (L.setCell ⟨w.heap.size,0,none⟩ (.slice (some ⟨q',0,none⟩) (S.l.length+1) D)).cell? ⟨b7,2,none⟩=some (.int .i64 O)/\ (L.setCell ⟨w.heap.size,0,none⟩ (.slice (some ⟨q',0,none⟩) (S.l.length+1) D)).cell? ⟨b7,3,none⟩=some (.int .i64 z)/\ (L.setCell ⟨w.heap.size,0,none⟩ (.slice (some ⟨q',0,none⟩) (S.l.length+1) D)).cell? ⟨b7,4,none⟩=some (.string A))):=hid (fun F q qc hb h1 h2 h3 h4=>by
      obtain⟨q',D,L,hr,Kn,Gu⟩:=H9.app hb (by omega) (by omega) ⟨m,s,O,z,A⟩ q qc (by omega) h2 (fun e=>by have:=(H9.lt q e.symm).2;omega) h3 h4;have H2:=V.lt;have Kf:=X.gn.2.2;obtain⟨A7,M7⟩:=X.more hb Kn Gu (fun j hj=>by
       (try dsimp only)
       rw [if_neg (by omega)];by_cases e:j=ii
       ·rw [e,Kc.out];exact Hc.nb
       ·exact(X.pts j hj e).nb) (by(try dsimp only);rw [if_pos rfl];omega) H2
      have gg:F.grownBy L (some g):=Gu.g;have e7:L.heap[b7]? =U.heap[b7]? :=(gg.block b7 (Nat.lt_of_lt_of_le H2 hb.size) (fun e=>Kf (by injection e with e;exact e.symm))).trans (hb.block b7 H2);have e8:(L.setCell ⟨w.heap.size,0,none⟩ (.slice (some ⟨q',0,none⟩) (S.l.length+1) D)).heap[b7]? =U.heap[b7]? :=(zH _ _ _ _ (by have:=X.hb;simp;omega)).trans e7;have cc:∀{w8:World},w8.heap[b7]? =U.heap[b7]? ->U.heap.size<=w8.heap.size ->Bx5 w8 b7 (.slice (some ⟨p,0,none⟩) m.length pc) (.bool s) (.int .i64 O) (.int .i64 z) (.string A):=fun{w8} e hs=>by
       have q:=fun o=>World.cell?_of_block (w:=U) (w':=w8) (a:=⟨b7,o,none⟩) e;exact⟨(q 0).trans V.c0,(q 1).trans V.c1,(q 2).trans V.c2,(q 3).trans V.c3,(q 4).trans V.c4,fun i=>(World.frozen?_of_block (a:=⟨b7,i,none⟩) e).trans (V.f i),Nat.lt_of_lt_of_le V.lt hs⟩
      have s7:U.heap.size<=L.heap.size:=Nat.le_trans hb.size gg.size;have X7:=cc e7 s7;have X8:=cc e8 (by simpa [World.setCell] using s7);exact⟨q',D,L,hr,A7,⟨_,_,M7,X8⟩,⟨X7.c0,X7.c1,X7.c2,X7.c3,X7.c4⟩,⟨X8.c0,X8.c1,X8.c2,X8.c3,X8.c4⟩⟩)
     have H6:=hid X.bs;have H7:Hid (∀w',Below U.heap.size U w' ->w'.cell? ⟨w.heap.size,0,none⟩=some (.slice (some ⟨g,0,none⟩) S.l.length N)):=hid (fun w' hb=>(hb.cell (p:=⟨w.heap.size,0,none⟩) H6.lt).trans H6.c0);clear Hc;have t0:=H6.c0;go_wp2_with fail;clear t0;refine zR (S:=fun w'=>w'.cell? ⟨b7,0,none⟩=some (.slice (some ⟨p,0,none⟩) m.length pc)/\ w'.cell? ⟨b7,1,none⟩=some (.bool s)/\ w'.cell? ⟨b7,2,none⟩=some (.int .i64 O)/\ w'.cell? ⟨b7,3,none⟩=some (.int .i64 z)/\ w'.cell? ⟨b7,4,none⟩=some (.string A)) (Hd _ zI.drew) (fun qh=> ?_);clear x0 x1 x2 x3 x4 xf;refine tZ 0 73 ?_;refine tZ 2 75 ?_;refine QaO (i:=1) (j:=3) (d:=some 74) (d':=some 76) (by kernel_rfl) (by kernel_rfl) (by kernel_rfl) ?_ ?_
     ·
      have t0:=H7 _ zI.drew;intro o ho Gi K Y;simp only [gZa,gZb,gZc,gZd] at ho;subst ho;go_simp;refine Y.out _ _ (Hd _ zI.drew) (fun qh=> ?_);clear Y K;try simp only [zP]
      clear t0;refine cZ 3 ?_;intro K Y;go_simp;refine(Hr _ zI.drew).mono ?_;rintro e F ⟨q,qc,rfl,H,p1,p2,Hf,q1,q2,H4⟩;have Hb:Below U.heap.size U F:=⟨H.os,H.tape,H.output,H.size,H.block⟩;have Hi:Below U.heap.size U (F.alloc (.cells #[.slice (some ⟨q,0,none⟩) m.length qc,.bool s,.int .i64 O,.int .i64 z,.string A] 69)):=Hb.alloc Hb.size _;obtain⟨q',D,L,Ha,A7,M7,c7,l7⟩:=Ht F q qc Hb p1 p2 Hf ⟨q1,q2⟩;have H0:=hid M7;refine Y.out _ _ (Hd _ Hb) (fun qh=> ?_);clear Y K;try simp only [zP]
      refine cZ 4 ?_;intro K Y;go_simp;refine Y.out _ _ (Hd _ Hi) (fun qh=> ?_);clear Y K;try simp only [zP]
      refine cZ 5 ?_;intro K Y;refine QaX _ _ _ _ rfl Ha (by rfl) (by rfl) rfl ?_;refine Y.out _ _ c7 (fun qh=> ?_);clear Y K;try simp only [zP]
      refine tZ 6 79 ?_;have t0:=A7.c0;have tf:=A7.f;refine cZ 7 ?_;intro K Y;go_simp;refine Y.out _ _ l7 (fun qh=> ?_);clear Y K;try simp only [zP]
      refine zD ?_;clear qh H Hb Hi Ha A7 M7 c7 l7 t0 tf Hf p1 p2 Ht Hr Hd q1 q2 H4;go_wp2_with fail;go_meet;obtain⟨P',Q',M8,X8⟩:=H0.out;exact⟨S.l++[⟨m,s,O,z,A⟩],⟨m,s,O,z,A⟩,q',D,p,pc,P',Q',hid ⟨M8,X8,by simp;omega,by simp;omega,Hg.out _ _ (by rw [if_pos M.out]) (by unfold spY;rw [if_neg (by rw [M.out];decide)];rw [if_neg (by rw [M.out];decide)];rw [if_neg (by rw [M.out];decide)];rw [if_neg (by rw [M.out];decide)];rw [if_pos M.out])⟩⟩
     ·
      intro o ho Gi K Y;simp only [gZa,gZb,gZc,gZd] at ho;subst ho;go_simp;refine(Hr _ zI.drew).mono ?_;rintro e F ⟨q,qc,rfl,H,p1,p2,Hf,q1,q2,H4⟩;have Hb:Below U.heap.size U F:=⟨H.os,H.tape,H.output,H.size,H.block⟩;have Hi:Below U.heap.size U (F.alloc (.cells #[.slice (some ⟨q,0,none⟩) m.length qc,.bool s,.int .i64 O,.int .i64 z,.string A] 69)):=Hb.alloc Hb.size _;obtain⟨q',D,L,Ha,A7,M7,c7,l7⟩:=Ht F q qc Hb p1 p2 Hf ⟨q1,q2⟩;have H0:=hid M7;refine Y.out _ _ (Hd _ Hb) (fun qh=> ?_);clear Y K;try simp only [zP]
      refine QaO (i:=1) (j:=4) (d:=some 74) (d':=some 77) (by kernel_rfl) (by kernel_rfl) (by kernel_rfl) ?_ ?_
      ·
       have t0:=H7 _ Hb;intro o ho Gi K Y;simp only [gZa,gZb,gZc,gZd] at ho;subst ho;go_simp;refine Y.out _ _ (Hd _ Hb) (fun qh=> ?_);clear Y K;try simp only [zP]
       clear t0;refine cZ 4 ?_;intro K Y;go_simp;refine Y.out _ _ (Hd _ Hi) (fun qh=> ?_);clear Y K;try simp only [zP]
       refine cZ 5 ?_;intro K Y;refine QaX _ _ _ _ rfl Ha (by rfl) (by rfl) rfl ?_;refine Y.out _ _ c7 (fun qh=> ?_);clear Y K;try simp only [zP]
       refine tZ 6 79 ?_;have t0:=A7.c0;have tf:=A7.f;refine cZ 7 ?_;intro K Y;go_simp;refine Y.out _ _ l7 (fun qh=> ?_);clear Y K;try simp only [zP]
       refine zD ?_;clear qh H Hb Hi Ha A7 M7 c7 l7 t0 tf Hf p1 p2 Ht Hr Hd q1 q2 H4;go_wp2_with fail;go_meet;obtain⟨P',Q',M8,X8⟩:=H0.out;exact⟨S.l++[⟨m,s,O,z,A⟩],⟨m,s,O,z,A⟩,q',D,p,pc,P',Q',hid ⟨M8,X8,by simp;omega,by simp;omega,Hg.out _ _ (by rw [if_pos M.out]) (by unfold spY;rw [if_neg (by rw [M.out];decide)];rw [if_neg (by rw [M.out];decide)];rw [if_neg (by rw [M.out];decide)];rw [if_neg (by rw [M.out];decide)];rw [if_pos M.out])⟩⟩
      ·
       intro o ho Gi K Y;simp only [gZa,gZb,gZc,gZd] at ho;subst ho;go_simp;refine Y.out _ _ (Hd _ Hi) (fun qh=> ?_);clear Y K;try simp only [zP]
       have t0:=H7 _ Hi;refine cZ 1 ?_;intro K Y;go_simp;refine Y.out _ _ (Hd _ Hi) (fun qh=> ?_);clear Y K;try simp only [zP]
       clear t0;refine cZ 5 ?_;intro K Y;refine QaX _ _ _ _ rfl Ha (by rfl) (by rfl) rfl ?_;refine Y.out _ _ c7 (fun qh=> ?_);clear Y K;try simp only [zP]
       refine tZ 6 79 ?_;have t0:=A7.c0;have tf:=A7.f;refine cZ 7 ?_;intro K Y;go_simp;refine Y.out _ _ l7 (fun qh=> ?_);clear Y K;try simp only [zP]
       refine zD ?_;clear qh H Hb Hi Ha A7 M7 c7 l7 t0 tf Hf p1 p2 Ht Hr Hd q1 q2 H4;go_wp2_with fail;go_meet;obtain⟨P',Q',M8,X8⟩:=H0.out;exact⟨S.l++[⟨m,s,O,z,A⟩],⟨m,s,O,z,A⟩,q',D,p,pc,P',Q',hid ⟨M8,X8,by simp;omega,by simp;omega,Hg.out _ _ (by rw [if_pos M.out]) (by unfold spY;rw [if_neg (by rw [M.out];decide)];rw [if_neg (by rw [M.out];decide)];rw [if_neg (by rw [M.out];decide)];rw [if_neg (by rw [M.out];decide)];rw [if_pos M.out])⟩⟩
    | 6,_=>
     have T:Hid (SpM w (U.setCell ⟨b7,2,none⟩ (.int .i64 7)) B rb f n (rx n x) b7 ii S.l ⟨m,s,7,z,A⟩ (fS S) g N p pc J cx P Q/\ Bx5 (U.setCell ⟨b7,2,none⟩ (.int .i64 7)) b7 (.slice (some ⟨p,0,none⟩) (⟨m,s,7,z,A⟩:Lf).p.length pc) (.bool (⟨m,s,7,z,A⟩:Lf).fl) (.int .i64 (⟨m,s,7,z,A⟩:Lf).r) (.int .i64 (⟨m,s,7,z,A⟩:Lf).q) (.string (⟨m,s,7,z,A⟩:Lf).v)):=hid ⟨X.setB _ _ rfl,V.set2 _⟩;go_wp2_with fail;go_meet;exact⟨S.l,⟨m,s,7,z,A⟩,g,N,p,pc,P,Q,hid ⟨T.1,T.2,He,by omega,Hg.out _ _ (by rw [if_neg (by rw [M.out];decide)]) (by unfold spY;rw [if_neg (by rw [M.out];decide)];rw [if_neg (by rw [M.out];decide)];rw [if_neg (by rw [M.out];decide)];rw [if_neg (by rw [M.out];decide)];rw [if_neg (by rw [M.out];decide)];rw [if_pos M.out])⟩⟩
    | 7,_=>
     have Hf:=X.pt.wr;have Hx:0<m.length:=by have:=Hu.1;omega
     have i5:(0:Int)<(m.length:Int):=by omega
     have j0:=Hf.cell (i:=0) Hx;have jf:=Hf.frozen 0;have T:Hid (SpM w (U.setCell ⟨p,0,none⟩ (.string ⟨#[99]⟩)) B rb f n (rx n x) b7 ii S.l ⟨m.set 0 ⟨#[99]⟩,s,O,z,A⟩ (fS S) g N p pc J cx P Q/\ Bx5 (U.setCell ⟨p,0,none⟩ (.string ⟨#[99]⟩)) b7 (.slice (some ⟨p,0,none⟩) m.length pc) (.bool s) (.int .i64 O) (.int .i64 z) (.string A)):=hid (by
      have hp:=X.pt;refine⟨X.chg (r:=p) ⟨rfl,rfl,rfl,by simp [World.setCell],fun q hq hne=>zH _ _ _ _ (fun e=>hne (by rw [e]))⟩ ⟨hp.lo,hp.ng,Gn.out,Hs.out⟩ ⟨hp.lo,by simpa [World.setCell] using hp.lt,hp.ng,hp.nb,?_,by simpa using hp.c1,hp.c2⟩,V.setAt _ _ hp.nb⟩;obtain⟨Hj,q1,q2,q3⟩:=hp.wr;have q2:m.length<=Hj.size:=q2;have q3:∀i,i<m.length ->Hj[i]? =some (.string (gS m i)):=q3;have qz:0<Hj.size:=by omega
      refine⟨Hj.setIfInBounds 0 (.string ⟨#[99]⟩),?_,by simpa using q2,fun t ht=> ?_⟩
      ·exact QiP q1
      ·simp only [List.length_set] at ht;by_cases e:t=0
       ·subst e;simp [gS,List.getD,Hx,Array.getElem?_setIfInBounds,qz]
       ·rw [show (Hj.setIfInBounds 0 (.string ⟨#[99]⟩))[t]? =Hj[t]? by simp [Array.getElem?_setIfInBounds,Ne.symm e],q3 t ht];simp [gS,List.getD,List.getElem?_set_ne (Ne.symm e)])
     clear Hf;go_wp2_with fail;go_meet;have Kg:(m.set 0 (⟨#[99]⟩:ByteArray)).length=m.length:=List.length_set;exact⟨S.l,⟨m.set 0 ⟨#[99]⟩,s,O,z,A⟩,g,N,p,pc,P,Q,hid ⟨T.1,by(try dsimp only);rw [Kg];exact T.2,He,by omega,Hg.out _ _ (by rw [if_neg (by rw [M.out];decide)]) (by unfold spY;rw [if_neg (by rw [M.out];decide)];rw [if_neg (by rw [M.out];decide)];rw [if_neg (by rw [M.out];decide)];rw [if_neg (by rw [M.out];decide)];rw [if_neg (by rw [M.out];decide)];rw [if_neg (by rw [M.out];decide)])⟩⟩
   case rest=>
    obtain⟨l',y',g',c',p',H5,P',Q',HH⟩:=hcut;obtain⟨m1,m2,m3,m4,m5⟩:=HH.out;obtain⟨W5,Hk⟩:∃W5,((((wc.setCell ⟨g',ii*5,none⟩ (.slice (some ⟨p',0,none⟩) y'.p.length H5)).setCell ⟨g',ii*5+1,none⟩ (.bool y'.fl)).setCell ⟨g',ii*5+2,none⟩ (.int .i64 y'.r)).setCell ⟨g',ii*5+3,none⟩ (.int .i64 y'.q)).setCell ⟨g',ii*5+4,none⟩ (.string y'.v)=W5:=⟨_,rfl⟩;obtain⟨A5,R5,h7⟩:=m1.fin m3 Hk;have HF:=hid (h7 _ rfl);have q0:=m1.bs.c0;have q1:=m1.bs.c1;have x0:=m2.c0;have x1:=m2.c1;have x2:=m2.c2;have x3:=m2.c3;have x4:=m2.c4;have hw:=QcV m1.row;obtain⟨Gp,Gq,Gr,Gs,Gt⟩:=Qok l' P' Q' ii;have z0:=(hw.cell (i:=ii*5) (by omega)).trans (congrArg some Gp);have z1:=(hw.cell (i:=ii*5+1) (by omega)).trans (congrArg some Gq);have z2:=(hw.cell (i:=ii*5+2) (by omega)).trans (congrArg some Gr);have z3:=(hw.cell (i:=ii*5+3) (by omega)).trans (congrArg some Gs);have z4:=(hw.cell (i:=ii*5+4) (by omega)).trans (congrArg some Gt);have zf:=fun t=>hw.frozen t;have v0:=A5.c0;have v1:=A5.c1;have o0:=R5.c0;have o1:=R5.c1;have of:=R5.f;have i4:(ii:Int)<(l'.length:Int):=by omega
    have HE:=hid m5;clear A5 R5 h7 m1 m2 m5 hw Gp Gq Gr Gs Gt HH X H9 Gb V Hw Kp i2 Ko d0 d1;go_wp2_with fail;obtain⟨X7,Hl,r7,g7⟩:=HF.out;have y0:=X7.c0;have y1:=X7.c1;rw [HE.out] at Hl;have Kh:(spL k S.l).length=l'.length:=by rw [<- HE.out];simp
    obtain⟨rfl,rfl⟩:=Ka.out;refine zF (v:=.agg #[.slice (some ⟨g',0,none⟩) l'.length c',.slice (some ⟨J,0,none⟩) (fS S).length cx]) (by simp [results,Tryz.results21,go_sem,y0,y1]) ?_;have G0:Ending.returned (.agg #[.slice (some ⟨g',0,none⟩) l'.length c',.slice (some ⟨J,0,none⟩) (fS S).length cx])=.returned (.agg #[.slice (some ⟨g',0,none⟩) (mkS (spL k S.l) (fS S)).l.length c',.slice (some ⟨J,0,none⟩) (mkS (spL k S.l) (fS S)).n cx]):=by
     rw [show (mkS (spL k S.l) (fS S)).l.length=l'.length from Kh];rfl
    first
     | exact⟨_,c',_,cx,G0,Hl,r7,g7⟩
     | exact⟨_,c',_,⟨cx,G0⟩,Hl,r7,g7⟩
theorem SNc.drew {w:World}{lo c:Nat}{a x:Option Addr}{S:Sx}(h:SNc w lo a c x S):SNc w.drew lo a c x S:=h.move zL zL (fun _ _ _=>rfl)
structure AcS (w w4:World)(B rb:Nat)(f:Nat ->Int)(n x lo r b:Nat)(va vx vb vy:Value):Prop where
 s0:Bx2 w4 r va vx
 r1:Bx2 w4 (r+1) (.slice none 0 0) (.slice none 0 0)
 r2:Bx2 w4 (r+1+1) (.slice none 0 0) (.slice none 0 0)
 t1:Bx2 w4 b va vx
 t2:Bx2 w4 (b+1) (.slice none 0 0) (.slice none 0 0)
 rd:RdJ w4 B rb f n x
 gr:w.grownBy w4 (some rb)
 z1:w.heap.size=r
 z2:r+1+1<b
 z3:b+1<lo
 z4:lo<=w4.heap.size
 z5:B<=w.heap.size
theorem AcS.below {w w4 w5:World}{B rb n x lo r b:Nat}{f:Nat ->Int}{va vx vb vy:Value}(h:AcS w w4 B rb f n x lo r b va vx vb vy)(hb:Below lo w4 w5):AcS w w5 B rb f n x lo r b va vx vb vy:=by
 have j:=h.z1;have k:=h.z2;have m:=h.z3;have q:=h.z5;exact⟨h.s0.below hb (by omega),h.r1.below hb (by omega),h.r2.below hb (by omega),h.t1.below hb (by omega),h.t2.below hb (by omega),h.rd.below (hb.mono (by omega)),Qar h.gr hb (by omega),h.z1,h.z2,h.z3,Nat.le_trans h.z4 hb.size,h.z5⟩
theorem AcS.gro {w w4 w5:World}{B rb n x x' lo r b:Nat}{f:Nat ->Int}{va vx vb vy:Value}(h:AcS w w4 B rb f n x lo r b va vx vb vy)(hg:w4.grownBy w5 (some rb))(hr:RdJ w5 B rb f n x'):AcS w w5 B rb f n x' lo r b va vx vb vy:=by
 have m:=h.z1;have q:=h.z2;have u:=h.z5;have v:=h.rd.lt.2;have j:∀b,r<=b ->∀k,some rb=some k ->k≠b:=fun b v k e=>by injection e with e;omega
 exact⟨h.s0.gr hg (j _ zL),h.r1.gr hg (j _ (by omega)),h.r2.gr hg (j _ (by omega)),h.t1.gr hg (j _ (by omega)),h.t2.gr hg (j _ (by omega)),hr,QaP h.gr hg,h.z1,h.z2,h.z3,Nat.le_trans h.z4 hg.size,h.z5⟩
theorem PtN.gr {w w1:World}{lo rb:Nat}{pa:Option Addr}{pc:Nat}{p:List ByteArray}(h:PtN w lo pa pc p)(hg:w.grownBy w1 (some rb))(hr:rb<lo):PtN w1 lo pa pc p:=h.move zL hg.size (fun q h1 h2=>hg.block q h2 (fun e=>by injection e with e;omega))
theorem AcS.fill {w w4:World}{B rb n x lo r b:Nat}{f:Nat ->Int}{va vx vb vy:Value}(h:AcS w w4 B rb f n x lo r b va vx vb vy)(v0 v1 v2 v3:Value):
  (Bx2 ((w4.setCell ⟨b,0,none⟩ v0).setCell ⟨b,1,none⟩ v1) (b+1) (.slice none 0 0) (.slice none 0 0))/\∃w5,((((w4.setCell ⟨b,0,none⟩ v0).setCell ⟨b,1,none⟩ v1).setCell ⟨b+1,0,none⟩ v2).setCell ⟨b+1,1,none⟩ v3)=w5/\ Bx2 w5 r va vx/\ Bx2 w5 (r+1) (.slice none 0 0) (.slice none 0 0)/\ Bx2 w5 (r+1+1) (.slice none 0 0) (.slice none 0 0)/\ Bx2 w5 b v0 v1/\ Bx2 w5 (b+1) v2 v3/\ RdJ w5 B rb f n x/\ w.grownBy w5 (some rb):=by
 have m:=h.z1;have q:=h.z2;have u:=h.z5;have k:=QlD h.t1 h.t2 (show b≠b+1 by omega) v0 v1 v2 v3;have j:Below b w4 ((((w4.setCell ⟨b,0,none⟩ v0).setCell ⟨b,1,none⟩ v1).setCell ⟨b+1,0,none⟩ v2).setCell ⟨b+1,1,none⟩ v3):=Qel zI zL (by omega) _ _ _ _;exact⟨k.1,_,rfl,h.s0.below j (by omega),h.r1.below j (by omega),h.r2.below j (by omega),k.2.1,k.2.2,h.rd.below (j.mono (by omega)),Qar h.gr j (by omega)⟩
theorem Qis {w w5:World}{B rb n x r:Nat}{f:Nat ->Int}(rd:RdJ w5 B rb f n x)(gr:w.grownBy w5 (some rb))(z1:w.heap.size=r)(z5:B<=w.heap.size)(v0 v1 v2 v3:Value):RdJ ((((w5.setCell ⟨r+1,0,none⟩ v0).setCell ⟨r+1,1,none⟩ v1).setCell ⟨r+1+1,0,none⟩ v2).setCell ⟨r+1+1,1,none⟩ v3) B rb f n x/\ w.grownBy ((((w5.setCell ⟨r+1,0,none⟩ v0).setCell ⟨r+1,1,none⟩ v1).setCell ⟨r+1+1,0,none⟩ v2).setCell ⟨r+1+1,1,none⟩ v3) (some rb):=by
 have j:Below w.heap.size w5 ((((w5.setCell ⟨r+1,0,none⟩ v0).setCell ⟨r+1,1,none⟩ v1).setCell ⟨r+1+1,0,none⟩ v2).setCell ⟨r+1+1,1,none⟩ v3):=Qel zI (by omega) (by omega) _ _ _ _;exact⟨rd.below (j.mono z5),Qar gr j zL⟩
def AcE (w wx:World)(B rb:Nat)(f:Nat ->Int)(n x b:Nat)(va vx:Value)(X Y:Sx):Prop:=∃a5 c5 x5 d5 a6 c6 x6 d6,Bx2 wx w.heap.size va vx/\ Bx2 wx (w.heap.size+1) (.slice none 0 0) (.slice none 0 0)/\ Bx2 wx (w.heap.size+1+1) (.slice none 0 0) (.slice none 0 0)/\ Bx2 wx b (.slice a5 X.l.length c5) (.slice x5 X.n d5)/\ Bx2 wx (b+1) (.slice a6 Y.l.length c6) (.slice x6 Y.n d6)/\ RdJ wx B rb f n x/\ w.grownBy wx (some rb)/\ SNc wx (b+2) a5 c5 x5 X/\ SNc wx (b+2) a6 c6 x6 Y
theorem AcS.meet {w w4:World}{B rb n x b:Nat}{f:Nat ->Int}{va vx vb vy:Value}{a5 x5 a6 x6:Option Addr}{c5 c6:Nat}{X Y:Sx}(h:AcS w w4 B rb f n x (b+2) w.heap.size b va vx vb vy)(ox:SNc w4 (b+2) a5 c5 x5 X)(oy:SNc w4 (b+2) a6 c6 x6 Y)(d5 d6:Nat):
  AcE w ((((w4.setCell ⟨b,0,none⟩ (.slice a5 X.l.length c5)).setCell ⟨b,1,none⟩ (.slice x5 X.n d5)).setCell ⟨b+1,0,none⟩ (.slice a6 Y.l.length c6)).setCell ⟨b+1,1,none⟩ (.slice x6 Y.n d6)) B rb f n x b va vx X Y:=by
 obtain⟨_,z,j,k,m,q,r,u,v,y⟩:=h.fill (.slice a5 X.l.length c5) (.slice x5 X.n d5) (.slice a6 Y.l.length c6) (.slice x6 Y.n d6);rw [j];exact⟨a5,c5,x5,d5,a6,c6,x6,d6,k,m,q,r,u,v,y,by rw [<- j];exact QgH (r1:=b) (r2:=b+1) ox zL (by omega) (by omega) _ _ _ _,by rw [<- j];exact QgH (r1:=b) (r2:=b+1) oy zL (by omega) (by omega) _ _ _ _⟩
def ChF (fn:FuncId)(S:Sx)(p:List ByteArray)(X Y:Sx)(C:Int)(ar:Value ->Value ->Array Value):Prop:=∀(w:World) (a xa pa:Option Addr) (c d pc:Nat),(Qef w a S.l/\ Qb3 w xa S.n S.R S.F S.T) ->(p.length<=pc/\ pc<=9223372036854775807) ->QaR w pa p ->Calls Tryz.prog fn (ar (.agg #[.slice a S.l.length c,.slice xa S.n d]) (.slice pa p.length pc)) w (ChP w X Y C)
theorem QlM {n x:Nat}{S:Sx}{rep:Nat}{p:List ByteArray}{v:ByteArray}(k:Nat)(hS:Dr S)(hpl:p.length<=9)(hvs:v.size<=201):∃X Y C x',(C=0 ->Dr X/\ Dr Y)/\
  ((k%8<4/\ x'=rx n (rx n (rx n x))/\ ChF 81 S p X Y C (fun s q=>#[s,.int .i64 (rep:Int),q,.string v])) \/
   ((k%8=4 \/k%8=5)/\ x'=rx n (rx n x)/\ ChF 83 S p X Y C (fun s q=>#[s,.int .i64 (rep:Int),q,.bool true])) \/
   (k%8=6/\ x'=rx n (rx n x)/\ ChF 83 S p X Y C (fun s q=>#[s,.int .i64 (rep:Int),q,.bool false])) \/
   (k%8=7/\ x'=rx n (rx n x)/\ ChF 84 S p X Y C (fun s q=>#[s,q]))):=by
 have fl:∀on,ChF 83 S p (seX S rep p true on ⟨#[]⟩) (seY S rep p true on ⟨#[]⟩) (seC S rep p true on ⟨#[]⟩) (fun s q=>#[s,.int .i64 (rep:Int),q,.bool on]):=fun on w a xa pa c d pc h hpc hseg=>
  QgI a c xa d pa pc S rep p on w (QgP hS.vd) hS.t h.1 h.2 (by omega) hpc hseg
 by_cases j:k%8<4
 ·exact⟨_,_,_,_,Qmf hS.vd (fun h=>by cases h),.inl ⟨j,rfl,fun w a xa pa c d pc h hpc hseg=>QfV a c xa d pa pc S rep p v w (QgP hS.vd) hS.t h.1 h.2 (by omega) hpc hseg (by omega)⟩⟩
 ·by_cases m:k%8=4 \/k%8=5
  ·exact⟨_,_,_,_,Qmf hS.vd (fun _=>by simp [emB]),.inr (.inl ⟨m,rfl,fl true⟩)⟩
  ·by_cases r:k%8=6
   ·exact⟨_,_,_,_,Qmf hS.vd (fun _=>by simp [emB]),.inr (.inr (.inl ⟨r,rfl,fl false⟩))⟩
   ·exact⟨_,_,_,_,Qoz hS.vd,.inr (.inr (.inr ⟨by omega,rfl,fun w a xa pa c d pc h hpc hseg=>Qic a c xa d pa pc S p w (QgP hS.vd) h.1 h.2 (by omega) hpc hseg⟩))⟩
theorem Qpc (f:Nat ->Int)(n x:Nat)(S:Sx)(rep:Nat)(hS:Dr S)(hrep:rep<8):∃S1 S2 x',AcP f n x S rep S1 S2 x':=by
 obtain⟨k,hk⟩:∃k,rk f n x=k:=⟨_,rfl⟩;obtain⟨p,Gn,hp⟩:=QoK f n (rx n x);obtain⟨v,Go,hv⟩:=Qof f n (rx n (rx n x));obtain⟨X,Y,C,x',Gf,Hs⟩:=QlM (n:=n) (x:=x) (rep:=rep) k hS Gn Go;have H4:=hid Gf;have Gc:=hid Hs;clear Gf Hs;obtain⟨S1,H2⟩:∃S1,(if C=0 then X else S)=S1:=⟨_,rfl⟩;obtain⟨S2,H3⟩:∃S2,(if C=0 then Y else Sx.mt)=S2:=⟨_,rfl⟩;have Hu:Hid (C=0 ->S1=X/\ S2=Y):=hid (fun e=>⟨by rw [<- H2,if_pos e],by rw [<- H3,if_pos e]⟩);have Hm:Hid (C≠0 ->S1=S/\ S2=Sx.mt):=hid (fun e=>⟨by rw [<- H2,if_neg e],by rw [<- H3,if_neg e]⟩);refine⟨S1,S2,x',?_,fun B lo rb a xa c d w hBl hlo h hs=> ?_⟩
 ·by_cases e:C=0
  ·rw [(Hu e).1,(Hu e).2];exact H4 e
  ·rw [(Hm e).1,(Hm e).2];exact⟨hS,Dr.mt⟩
 have hB:B<=w.heap.size:=Nat.le_trans hBl hlo;have Hj:Hid (lo<=w.heap.size/\ rb<lo):=hid ⟨hlo,Nat.lt_of_lt_of_le h.lt.2 hBl⟩;clear hBl hlo;have H7:=hid hp;have Hk:=hid hv;clear H2 H3 H4 hp hv;obtain⟨W,hW⟩:∃W,((w.alloc (.cells #[.slice a S.l.length c,.slice xa S.n d] 28)).alloc (.cells #[.slice none 0 0,.slice none 0 0] 28)).alloc (.cells #[.slice none 0 0,.slice none 0 0] 28)=W:=⟨_,rfl⟩;have b0:Below w.heap.size w W:=by rw [<- hW];exact(Qak _ _ _).alloc (by simp;omega) _
 have A0:Bx2 W w.heap.size (.slice a S.l.length c) (.slice xa S.n d):=by rw [<- hW];exact((Bx2.made w _ _ _).allocs _).allocs _
 have R0:Bx2 W (w.heap.size+1) (.slice none 0 0) (.slice none 0 0):=by
  rw [<- hW];have:=Bx2.made (w.alloc (.cells #[.slice a S.l.length c,.slice xa S.n d] 28)) (.slice none 0 0) (.slice none 0 0) 28;exact(by simpa using this:Bx2 _ (w.heap.size+1) _ _).allocs _
 have Q0:Bx2 W (w.heap.size+1+1) (.slice none 0 0) (.slice none 0 0):=by
  rw [<- hW];simpa using Bx2.made ((w.alloc (.cells #[.slice a S.l.length c,.slice xa S.n d] 28)).alloc (.cells #[.slice none 0 0,.slice none 0 0] 28)) (.slice none 0 0) (.slice none 0 0) 28
 have zW:W.heap.size=w.heap.size+3:=by rw [<- hW];simp
 have Gg:=h.lt;have HN:=hid (QaN B rb f n x W (h.below (b0.mono hB)));rw [hk] at HN;have Gh:=hid A0;have Gk:=hid R0;have Gj:=hid Q0;have T:=hid b0;have Gl:=hid zW;have H1:=hid hs;have H0:=hid Gg;have Hc:=hid hB;clear hk h hs Gg b0 A0 R0 Q0 zW hrep;go_enter Tryz.func48,Tryz.ntmps48;go_wp2_with fail;try rw [hW]
 clear hW;refine HN.mono ?_;rintro e w1 ⟨rfl,r1,g1⟩;have H8:=hid (H7 B rb w1 (by have:=Hc.out;have:=T.size;have:=g1.size;omega) r1);have Hx:=hid g1;clear r1 g1 HN H7;go_wp2_with fail;refine H8.mono ?_;rintro e q ⟨pa,pc,rfl,p2,r2,g2⟩;have Hb:Hid (W.grownBy q (some rb)):=hid (QaP Hx.out g2);have Hy:Hid (∀b,w.heap.size<=b ->∀k,some rb=some k ->k≠b):=hid (fun b hb k e=>by injection e with e;have:=H0.out;have:=Hc.out;omega);have Ht:=hid (Gh.gr Hb.out (Hy _ zL));have Ga:=hid (Gk.gr Hb.out (Hy _ (Nat.le_succ _)));have H9:=hid (Gj.gr Hb.out (Hy _ (by omega)));have Gr:=hid p2;have Gi:=hid r2;have Gb:Hid (w.grownBy q (some rb)):=hid ⟨Hb.os.trans T.os,Hb.tape.trans T.tape,Hb.output.trans T.output,Nat.le_trans T.size Hb.size,fun k hk hne=>(Hb.block k (Nat.lt_of_lt_of_le hk T.size) hne).trans (T.block k hk)⟩;have F:Hid (w.heap.size+3<=q.heap.size/\ w1.heap.size<=q.heap.size):=hid (by have:=Hb.size;have:=Gl.out;have:=g2.size;omega);have k0:=Ht.c0;have k1:=Ht.c1;have b3:Below q.heap.size q ((q.alloc (.cells #[.slice a S.l.length c,.slice xa S.n d] 28)).alloc (.cells #[.slice none 0 0,.slice none 0 0] 28)):=Qak _ _ _;have H:Hid (AcS w ((q.alloc (.cells #[.slice a S.l.length c,.slice xa S.n d] 28)).alloc (.cells #[.slice none 0 0,.slice none 0 0] 28)) B rb f n (rx n (rx n x)) (q.heap.size+2) w.heap.size q.heap.size (.slice a S.l.length c) (.slice xa S.n d) (.slice none 0 0) (.slice none 0 0)):=hid (by
  have z2:=F.out;refine⟨Ht.below b3 Ht.lt,Ga.below b3 Ga.lt,H9.below b3 H9.lt,(Bx2.made q _ _ _).allocs _,?_,Gi.below (b3.mono (by have:=Hc.out;omega)),Qar Gb.out b3 (by omega),rfl,by omega,by omega,by simp,Hc.out⟩;simpa using Bx2.made (q.alloc (.cells #[.slice a S.l.length c,.slice xa S.n d] 28)) (.slice none 0 0) (.slice none 0 0) 28)
 have G:=hid (p2.below b3);have L:Hid (SNc ((q.alloc (.cells #[.slice a S.l.length c,.slice xa S.n d] 28)).alloc (.cells #[.slice none 0 0,.slice none 0 0] 28)) lo a c xa S):=hid (H1.gr (Qar Gb.out b3 (by have:=F.out;omega)) Hj.2);have Gp:=H.s0.c0;have Gq:=H.s0.c1;clear p2 r2 g2 H8 b3;go_upto_if 21 with fail;obtain⟨P,Hw⟩:∃P,((q.alloc (.cells #[.slice a S.l.length c,.slice xa S.n d] 28)).alloc (.cells #[.slice none 0 0,.slice none 0 0] 28))=P:=⟨_,rfl⟩;have Hr:Hid (P.heap.size=q.heap.size+2):=hid (by rw [<- Hw];simp);rw [Hw] at H G L;clear Gp Gq;try rw [Hw]
 clear Hw;go_cut [12] from 13 to 65 (fun v wx=>v=.int .i64 C/\ Hid (AcE w wx B rb f n x' q.heap.size (.slice a S.l.length c) (.slice xa S.n d) X Y));case first=>
  have V:=H.s0.c0;have s1:=H.s0.c1;rcases Gc.out with ⟨h8,rfl,s⟩|⟨h8,rfl,s⟩|⟨h8,rfl,s⟩|⟨h8,rfl,s⟩
  ·have d0:(k:Int)%8<4:=by omega
   have s:=hid s;clear h8;go_wp2_with fail;have N:Hid (∀w',Bx2 w' w.heap.size (.slice a S.l.length c) (.slice xa S.n d) ->(w'.cell? ⟨w.heap.size,0,none⟩=some (.slice a S.l.length c)/\ w'.cell? ⟨w.heap.size,1,none⟩=some (.slice xa S.n d))):=hid (fun w' b=>⟨b.c0,b.c1⟩);have Hg:=hid (H.below ((Below.refl (q.heap.size+2) P).drew));have Hv:=hid (Hk B rb P.drew (by have h1:=Hc.out;have h2:=F.out;have h3:=Hr.out;show B<=P.heap.size;omega) Hg.rd);clear Hk V s1;refine zR (S:=fun w'=>w'.cell? ⟨w.heap.size,0,none⟩=some (.slice a S.l.length c)/\ w'.cell? ⟨w.heap.size,1,none⟩=some (.slice xa S.n d)) (N _ Hg.s0) (fun qh=> ?_);refine tZ 1 24 ?_;refine tZ 2 25 ?_;refine tZ 3 26 ?_;refine QaO (i:=0) (j:=4) (d:=some 23) (d':=some 27) (by kernel_rfl) (by kernel_rfl) (by kernel_rfl) ?_ ?_
   ·
    intro o ho Gm K r;simp only [gZa,gZb,gZc,gZd] at ho;subst ho;go_simp;refine r.out _ _ (N _ Hg.s0) (fun qh=> ?_);clear r K;try simp only [zP]
    refine cZ 4 ?_;intro K r;go_simp;refine Hv.mono ?_;rintro e w7 ⟨rfl,r7,g7⟩;have D:=hid (Hg.gro g7 r7);have Ho:Hid (SNc w7 lo a c xa S):=hid (SNc.gr (L.drew) g7 Hj.2);have Hd:Hid (PtN w7 w1.heap.size pa pc p):=hid (PtN.gr (G.below (zI.drew)) g7 (by have h1:=H0.out;have h2:=T.size;have h3:=Hx.size;omega));clear r7 g7 Hv H G L Hg;refine r.out _ _ (N _ D.s0) (fun qh=> ?_);clear r K;try simp only [zP]
    have Hl:=hid (s w7 a xa pa c d pc Ho.at Hd.cap Hd.at);refine cZ 5 ?_;intro K r;go_simp;refine Hl.mono ?_;rintro e w4 ⟨A,M,Q,y,E,O,U,z,rfl,g,t,b4⟩;have z7:=D.z4;have Hp:Hid (SNc w4 (q.heap.size+2) A M Q X):=hid (g.move z7 zL (fun _ _ _=>rfl));have Hq:Hid (SNc w4 (q.heap.size+2) E O U Y):=hid (t.move z7 zL (fun _ _ _=>rfl));have m:=hid (D.below (b4.mono z7));clear g t b4 Ho Hd Hl s D;refine r.out _ _ (N _ m.s0) (fun qh=> ?_);clear r K;try simp only [zP]
    refine tZ 6 22 ?_;refine tZ 7 29 ?_;refine tZ 8 30 ?_;refine tZ 9 31 ?_;have t0:=m.t1.c0;have u:=m.t1.c1;have tf:=m.t1.f;have Ha:=hid (m.fill (.slice A X.l.length M) (.slice Q X.n y) (.slice E Y.l.length O) (.slice U Y.n z));have Hh:q.heap.size≠w.heap.size:=by have:=F.out;omega
    have Hi:q.heap.size+1≠w.heap.size:=by have:=F.out;omega
    have He:=hid ((m.s0.setAt ⟨q.heap.size,0,none⟩ (.slice A X.l.length M) Hh).setAt ⟨q.heap.size,1,none⟩ (.slice Q X.n y) Hh);have Hn:=hid ((He.setAt ⟨q.heap.size+1,0,none⟩ (.slice E Y.l.length O) Hi).setAt ⟨q.heap.size+1,1,none⟩ (.slice U Y.n z) Hi);clear Hh Hi;refine cZ 10 ?_;intro K r;go_simp;refine r.out _ _ (N _ He.out) (fun qh=> ?_);clear r K;try simp only [zP]
    clear t0 u tf;have u0:=Ha.1.c0;have u1:=Ha.1.c1;have uf:=Ha.1.f;refine cZ 11 ?_;intro K r;go_simp;refine r.out _ _ (N _ Hn.out) (fun qh=> ?_);clear r K;try simp only [zP]
    clear u0 u1 uf;refine tZ 12 12 ?_;refine zD ?_;clear qh He Hn Ha N;have J:=hid (m.meet Hp.out Hq.out y z);clear m Hp Hq;go_wp2_with fail;go_meet;exact⟨rfl,J⟩
   ·
    intro o ho Gm K r;simp only [gZa,gZb,gZc,gZd] at ho;subst ho;go_simp;refine Hv.mono ?_;rintro e w7 ⟨rfl,r7,g7⟩;have D:=hid (Hg.gro g7 r7);have Ho:Hid (SNc w7 lo a c xa S):=hid (SNc.gr (L.drew) g7 Hj.2);have Hd:Hid (PtN w7 w1.heap.size pa pc p):=hid (PtN.gr (G.below (zI.drew)) g7 (by have h1:=H0.out;have h2:=T.size;have h3:=Hx.size;omega));clear r7 g7 Hv H G L Hg;refine r.out _ _ (N _ D.s0) (fun qh=> ?_);clear r K;try simp only [zP]
    have t0:=D.s0.c0;have u:=D.s0.c1;refine cZ 0 ?_;intro K r;go_simp;refine r.out _ _ (N _ D.s0) (fun qh=> ?_);clear r K;try simp only [zP]
    clear t0 u;have Hl:=hid (s w7 a xa pa c d pc Ho.at Hd.cap Hd.at);refine cZ 5 ?_;intro K r;go_simp;refine Hl.mono ?_;rintro e w4 ⟨A,M,Q,y,E,O,U,z,rfl,g,t,b4⟩;have z7:=D.z4;have Hp:Hid (SNc w4 (q.heap.size+2) A M Q X):=hid (g.move z7 zL (fun _ _ _=>rfl));have Hq:Hid (SNc w4 (q.heap.size+2) E O U Y):=hid (t.move z7 zL (fun _ _ _=>rfl));have m:=hid (D.below (b4.mono z7));clear g t b4 Ho Hd Hl s D;refine r.out _ _ (N _ m.s0) (fun qh=> ?_);clear r K;try simp only [zP]
    refine tZ 6 22 ?_;refine tZ 7 29 ?_;refine tZ 8 30 ?_;refine tZ 9 31 ?_;have t0:=m.t1.c0;have u:=m.t1.c1;have tf:=m.t1.f;have Ha:=hid (m.fill (.slice A X.l.length M) (.slice Q X.n y) (.slice E Y.l.length O) (.slice U Y.n z));have Hh:q.heap.size≠w.heap.size:=by have:=F.out;omega
    have Hi:q.heap.size+1≠w.heap.size:=by have:=F.out;omega
    have He:=hid ((m.s0.setAt ⟨q.heap.size,0,none⟩ (.slice A X.l.length M) Hh).setAt ⟨q.heap.size,1,none⟩ (.slice Q X.n y) Hh);have Hn:=hid ((He.setAt ⟨q.heap.size+1,0,none⟩ (.slice E Y.l.length O) Hi).setAt ⟨q.heap.size+1,1,none⟩ (.slice U Y.n z) Hi);clear Hh Hi;refine cZ 10 ?_;intro K r;go_simp;refine r.out _ _ (N _ He.out) (fun qh=> ?_);clear r K;try simp only [zP]
    clear t0 u tf;have u0:=Ha.1.c0;have u1:=Ha.1.c1;have uf:=Ha.1.f;refine cZ 11 ?_;intro K r;go_simp;refine r.out _ _ (N _ Hn.out) (fun qh=> ?_);clear r K;try simp only [zP]
    clear u0 u1 uf;refine tZ 12 12 ?_;refine zD ?_;clear qh He Hn Ha N;have J:=hid (m.meet Hp.out Hq.out y z);clear m Hp Hq;go_wp2_with fail;go_meet;exact⟨rfl,J⟩
  ·have d0:¬(k:Int)%8<4:=by omega
   have s:=hid s;obtain⟨B4,d1⟩:∃B4,((k:Int)%8==4)=B4:=⟨_,rfl⟩;have d2:B4=false ->((k:Int)%8==5)=true:=fun e=>by rw [<- d1] at e;simp at e ⊢;omega
   clear h8 Hk;cases B4 with
   | true=>
    clear d2;go_wp2_with fail;refine(s P a xa pa c d pc L.at G.cap G.at).mono ?_;rintro e w4 ⟨A,M,Q,y,E,O,U,z,rfl,g,t,b4⟩;rw [Hr.out] at g t b4;have m:=hid (H.below b4);have J:=hid (m.meet g t y z);have Z:=(m.fill (.slice A X.l.length M) (.slice Q X.n y) (.slice E Y.l.length O) (.slice U Y.n z)).1;have t0:=m.t1.c0;have u:=m.t1.c1;have tf:=m.t1.f;have u0:=Z.c0;have u1:=Z.c1;have uf:=Z.f;clear Z g t b4 H G L s V s1;go_wp2_with fail;go_meet;exact⟨rfl,J⟩
   | false=>
    have d2:=d2 rfl;go_wp2_with fail;refine(s P a xa pa c d pc L.at G.cap G.at).mono ?_;rintro e w4 ⟨A,M,Q,y,E,O,U,z,rfl,g,t,b4⟩;rw [Hr.out] at g t b4;have m:=hid (H.below b4);have J:=hid (m.meet g t y z);have Z:=(m.fill (.slice A X.l.length M) (.slice Q X.n y) (.slice E Y.l.length O) (.slice U Y.n z)).1;have t0:=m.t1.c0;have u:=m.t1.c1;have tf:=m.t1.f;have u0:=Z.c0;have u1:=Z.c1;have uf:=Z.f;clear Z g t b4 H G L s V s1;go_wp2_with fail;go_meet;exact⟨rfl,J⟩
  ·have d0:¬(k:Int)%8<4:=by omega
   have s:=hid s;have d1:((k:Int)%8==4)=false:=by simp;omega
   have d2:((k:Int)%8==5)=false:=by simp;omega
   have d3:((k:Int)%8==6)=true:=by simp;omega
   clear h8 Hk;go_wp2_with fail;refine(s P a xa pa c d pc L.at G.cap G.at).mono ?_;rintro e w4 ⟨A,M,Q,y,E,O,U,z,rfl,g,t,b4⟩;rw [Hr.out] at g t b4;have m:=hid (H.below b4);have J:=hid (m.meet g t y z);have Z:=(m.fill (.slice A X.l.length M) (.slice Q X.n y) (.slice E Y.l.length O) (.slice U Y.n z)).1;have t0:=m.t1.c0;have u:=m.t1.c1;have tf:=m.t1.f;have u0:=Z.c0;have u1:=Z.c1;have uf:=Z.f;clear Z g t b4 H G L s V s1;go_wp2_with fail;go_meet;exact⟨rfl,J⟩
  ·have d0:¬(k:Int)%8<4:=by omega
   have s:=hid s;have d1:((k:Int)%8==4)=false:=by simp;omega
   have d2:((k:Int)%8==5)=false:=by simp;omega
   have d3:((k:Int)%8==6)=false:=by simp;omega
   clear h8 Hk;go_wp2_with fail;refine(s P a xa pa c d pc L.at G.cap G.at).mono ?_;rintro e w4 ⟨A,M,Q,y,E,O,U,z,rfl,g,t,b4⟩;rw [Hr.out] at g t b4;have m:=hid (H.below b4);have J:=hid (m.meet g t y z);have Z:=(m.fill (.slice A X.l.length M) (.slice Q X.n y) (.slice E Y.l.length O) (.slice U Y.n z)).1;have t0:=m.t1.c0;have u:=m.t1.c1;have tf:=m.t1.f;have u0:=Z.c0;have u1:=Z.c1;have uf:=Z.f;clear Z g t b4 H G L s V s1;go_wp2_with fail;go_meet;exact⟨rfl,J⟩
 case rest=>
  obtain⟨rfl,J⟩:=hcut;obtain⟨A,M,Q,y,E,O,U,z,f0,R,f2,f3,f4,f5,f6,g,t⟩:=J.out;have Gd:=hid g;have Ge:=hid t;have H5:=hid f5;have H6:=hid f6;clear J g t H G L Hk Gc;by_cases hC:C=0
  ·subst hC;have HE:=hid (Hu rfl);clear Hu Hm;have Hf:=hid (QlD R f2 (show w.heap.size+1≠w.heap.size+1+1 by omega) (.slice A X.l.length M) (.slice Q X.n y) (.slice E Y.l.length O) (.slice U Y.n z));have o0:=R.c0;have o1:=R.c1;have of:=R.f;have i0:=f3.c0;have i1:=f3.c1;have i2:=f4.c0;have i3:=f4.c1;have Hz:=hid Hf.1;have Gs:¬w.heap.size=q.heap.size:=by have:=F.out;omega
   have Gt:¬w.heap.size+1=q.heap.size:=by have:=F.out;omega
   have Gu:¬w.heap.size+1+1=q.heap.size:=by have:=F.out;omega
   clear f0 R f2 f3 f4 f5 f6;go_wp2_with fail;have q0:=Hz.c0;have q1:=Hz.c1;have qf:=Hz.f;go_region;try go_wp2_with fail
   all_goals
    obtain⟨X1,X2⟩:=Hf.2
    refine zF (v:=.tuple #[.agg #[.slice A X.l.length M,.slice Q X.n y],.agg #[.slice E Y.l.length O,.slice U Y.n z]]) (by simp [results,Tryz.results48,go_sem,X1.c0,X1.c1,X2.c0,X2.c1]) ?_
    rw [HE.1,HE.2]
    have z2:=F.out
    have z5:=Hc.out
    have z6:=Hj.1
    obtain⟨E1,I⟩:=Qis H5.out H6.out rfl z5 (.slice A X.l.length M) (.slice Q X.n y) (.slice E Y.l.length O) (.slice U Y.n z)
    first
     | exact⟨A,M,Q,y,E,O,U,z,rfl,(QgH (r1:=w.heap.size+1) (r2:=w.heap.size+1+1) Gd.out (by omega) (by omega) (by omega) _ _ _ _).drew,(QgH (r1:=w.heap.size+1) (r2:=w.heap.size+1+1) Ge.out (by omega) (by omega) (by omega) _ _ _ _).drew,E1.below zI.drew,⟨I.os,I.tape,I.output,I.size,I.block⟩⟩
     | exact⟨A,M,Q,y,E,O,U,⟨z,rfl⟩,(QgH (r1:=w.heap.size+1) (r2:=w.heap.size+1+1) Gd.out (by omega) (by omega) (by omega) _ _ _ _).drew,(QgH (r1:=w.heap.size+1) (r2:=w.heap.size+1+1) Ge.out (by omega) (by omega) (by omega) _ _ _ _).drew,E1.below zI.drew,⟨I.os,I.tape,I.output,I.size,I.block⟩⟩
  ·have Hf:=hid (QlD R f2 (show w.heap.size+1≠w.heap.size+1+1 by omega) (.slice a S.l.length c) (.slice xa S.n d) (.slice none 0 0) (.slice none 0 0));have o0:=R.c0;have o1:=R.c1;have of:=R.f;have i0:=f0.c0;have i1:=f0.c1;have q0:=Hf.1.c0;have q1:=Hf.1.c1;have qf:=Hf.1.f;clear f0 R f2 f3 f4 f5 f6;go_wp2_with fail;obtain⟨X1,X2⟩:=Hf.2;refine zF (v:=.tuple #[.agg #[.slice a S.l.length c,.slice xa S.n d],.agg #[.slice none 0 0,.slice none 0 0]]) (by simp [results,Tryz.results48,go_sem,X1.c0,X1.c1,X2.c0,X2.c1]) ?_;rw [(Hm hC).1,(Hm hC).2];have z5:=Hc.out;obtain⟨E1,I⟩:=Qis H5.out H6.out rfl z5 (.slice a S.l.length c) (.slice xa S.n d) (.slice none 0 0) (.slice none 0 0);first
    | exact⟨a,c,xa,d,none,0,none,0,rfl,H1.gr I Hj.2,SNc.mt _ _ _ _,E1,I⟩
    | exact⟨a,c,xa,d,none,0,none,⟨0,rfl⟩,H1.gr I Hj.2,SNc.mt _ _ _ _,E1,I⟩
noncomputable def acR (f:Nat ->Int)(n x:Nat)(S:Sx)(rep:Nat):Sx×Sx×Nat:=by
 classical exact if h:∃q:Sx×Sx×Nat,AcP f n x S rep q.1 q.2.1 q.2.2 then Classical.choose h else(Sx.mt,Sx.mt,0)
theorem QkY (f:Nat ->Int)(n x:Nat){S:Sx}{rep:Nat}(hS:Dr S)(hrep:rep<8):AcP f n x S rep (acR f n x S rep).1 (acR f n x S rep).2.1 (acR f n x S rep).2.2:=by
 have h:∃q:Sx×Sx×Nat,AcP f n x S rep q.1 q.2.1 q.2.2:=by
  obtain⟨j,k,x',h⟩:=Qpc f n x S rep hS hrep;exact⟨(j,k,x'),h⟩
 unfold acR;rw [dif_pos h];exact Classical.choose_spec h
def upA (A:Nat ->Sx)(j:Nat)(S:Sx):Nat ->Sx:=fun i=>if i=j then S else A i
theorem QlF (A:Nat ->Sx)(j:Nat)(S:Sx):upA A j S j=S:=by unfold upA;rw [if_pos rfl]
theorem QlG {A:Nat ->Sx}{i j:Nat}{S:Sx}(h:i≠j):upA A j S i=A i:=by unfold upA;rw [if_neg h]
noncomputable def jnT (A:Nat ->Sx)(t:Nat)(T D:Sx):Nat ->Sx:=if jnB T D=true then upA A t (jnS T D) else A
structure DSt where
 A:Nat ->Sx
 L:Sx
 x:Nat
structure DSt.Ok (s:DSt):Prop where
 a:∀j,Dr (s.A j)
 l:Dr s.L
noncomputable def Qf9 (f:Nat ->Int)(n:Nat)(s:DSt):DSt:=
 if rk f n s.x%8=7 then⟨jnT s.A (rk f n s.x%3) (s.A (rk f n s.x%3)) (s.A (rk f n s.x/8%3)),s.L,rx n s.x⟩
 else if rk f n s.x%8=6 then⟨jnT (upA s.A (rk f n s.x%3) (acR f n (rx n s.x) (s.A (rk f n s.x%3)) (rk f n s.x%3)).1) (rk f n s.x/8%3) (upA s.A (rk f n s.x%3) (acR f n (rx n s.x) (s.A (rk f n s.x%3)) (rk f n s.x%3)).1 (rk f n s.x/8%3)) (acR f n (rx n s.x) (s.A (rk f n s.x%3)) (rk f n s.x%3)).2.1,(acR f n (rx n s.x) (s.A (rk f n s.x%3)) (rk f n s.x%3)).2.1,(acR f n (rx n s.x) (s.A (rk f n s.x%3)) (rk f n s.x%3)).2.2⟩
 else⟨upA s.A (rk f n s.x%3) (acR f n (rx n s.x) (s.A (rk f n s.x%3)) (rk f n s.x%3)).1,(acR f n (rx n s.x) (s.A (rk f n s.x%3)) (rk f n s.x%3)).2.1,(acR f n (rx n s.x) (s.A (rk f n s.x%3)) (rk f n s.x%3)).2.2⟩
theorem Qga {A:Nat ->Sx}{j:Nat}{S:Sx}(h:∀i,Dr (A i))(hS:Dr S):∀i,Dr (upA A j S i):=fun i=>by
 by_cases e:i=j
 ·rw [e,QlF];exact hS
 ·rw [QlG e];exact h i
theorem Qlo {A:Nat ->Sx}{t:Nat}{T D:Sx}(h:∀i,Dr (A i))(hT:Dr T)(hD:Dr D):∀i,Dr (jnT A t T D i):=fun i=>by
 unfold jnT;cases hb:jnB T D with
 | false=>rw [if_neg (by simp)];exact h i
 | true=>rw [if_pos rfl];exact Qga h (hT.jn hD (Qmo.1 hb).2.2) i
theorem QjY {f:Nat ->Int}{n:Nat}{s:DSt}(h:s.Ok):(Qf9 f n s).Ok:=by
 have k:rk f n s.x%3<8:=by omega
 have j:=(QkY f n (rx n s.x) (h.a (rk f n s.x%3)) k).1;unfold Qf9;split
 ·exact⟨Qlo h.a (h.a _) (h.a _),h.l⟩
 ·split
  ·exact⟨Qlo (Qga h.a j.1) (Qga h.a j.1 _) j.2,j.2⟩
  ·exact⟨Qga h.a j.1,j.2⟩
noncomputable def Qo1 (f:Nat ->Int)(n:Nat)(s:DSt):Nat ->DSt
 | 0=>s
 | i+1=>Qf9 f n (Qo1 f n s i)
theorem Qi9 {f:Nat ->Int}{n:Nat}{s:DSt}(h:s.Ok):∀i,(Qo1 f n s i).Ok
 | 0=>h
 | i+1=>QjY (Qi9 h i)
theorem Qpi (x:Nat):(⟨fun _=>Sx.mt,Sx.mt,x⟩:DSt).Ok:=⟨fun _=>Dr.mt,Dr.mt⟩
theorem Qkc (P:Nat ->Prop)(N:Nat):¬P N ->∃m,m<=N/\ (∀j,j<m ->P j)/\¬P m:=by
 induction N using Nat.strongRecOn with
 | _ N ih=>
  intro h;by_cases k:∃j,j<N/\¬P j
  ·obtain⟨j,q,r⟩:=k;obtain⟨m,y,u,v⟩:=ih j q r;exact⟨m,by omega,u,v⟩
  ·exact⟨N,Nat.le_refl _,fun j hj=>Classical.byContradiction fun hn=>k ⟨j,hj,hn⟩,h⟩
def QlL (w:World)(ga lo m:Nat)(A:Nat ->Sx):Prop:=∀j,j<m ->∃a c x d,w.cell? ⟨ga,j*2,none⟩=some (.slice a (A j).l.length c)/\ w.cell? ⟨ga,j*2+1,none⟩=some (.slice x (A j).n d)/\ SNc w lo a c x (A j)
theorem QlL.move {w w1:World}{ga lo m:Nat}{A:Nat ->Sx}(h:QlL w ga lo m A)(he:w1.heap[ga]? =w.heap[ga]?)(hs:w.heap.size<=w1.heap.size)(hq:∀q,lo<=q ->q<w.heap.size ->w1.heap[q]? =w.heap[q]?):QlL w1 ga lo m A:=fun j hj=>by
 obtain⟨a,c,x,d,k,r,s⟩:=h j hj;exact⟨a,c,x,d,(World.cell?_of_block (a:=⟨ga,_,none⟩) he).trans k,(World.cell?_of_block (a:=⟨ga,_,none⟩) he).trans r,s.move zL hs hq⟩
theorem QlL.set {w:World}{ga lo m r:Nat}{A:Nat ->Sx}{a x:Option Addr}{c d:Nat}{S:Sx}(h:QlL w ga lo m A)(hg:ga<lo)(hr:r<m)(s:SNc w lo a c x S):QlL ((w.setCell ⟨ga,r*2,none⟩ (.slice a S.l.length c)).setCell ⟨ga,r*2+1,none⟩ (.slice x S.n d)) ga lo m (upA A r S):=fun j hj=>by
 have v:∀{k x':Option Addr} {u:Nat} {T:Sx},SNc w lo k u x' T ->SNc ((w.setCell ⟨ga,r*2,none⟩ (.slice a S.l.length c)).setCell ⟨ga,r*2+1,none⟩ (.slice x S.n d)) lo k u x' T:=fun h=>h.move zL (by simp [World.setCell]) (fun q h1 h2=>by rw [zH _ _ _ _ (by simp;omega),zH _ _ _ _ (by simp;omega)]);obtain⟨i,b,E,p,g,t,_⟩:=h r hr;by_cases e:j=r
 ·subst e;rw [QlF];exact⟨a,c,x,d,(World.cell?_setCell_other _ _ _ _ (by simp)).trans (World.cell?_setCell_same _ _ _ g),World.cell?_setCell_same _ _ _ ((World.cell?_setCell_other _ _ _ _ (by simp)).trans t),v s⟩
 ·rw [QlG e];obtain⟨k,u,x',d',y,z,o⟩:=h j hj;exact⟨k,u,x',d',(World.cell?_setCell_other _ _ _ _ (by simp<;>omega)).trans ((World.cell?_setCell_other _ _ _ _ (by simp<;>omega)).trans y),(World.cell?_setCell_other _ _ _ _ (by simp<;>omega)).trans ((World.cell?_setCell_other _ _ _ _ (by simp<;>omega)).trans z),v o⟩
structure DrS (w wr:World)(B rb:Nat)(f:Nat ->Int)(n x ga:Nat)(A:Nat ->Sx)(L:Sx):Prop where
 row:QlL wr ga (ga+2) 3 A
 fz:∀i,wr.frozen? ⟨ga,i,none⟩=false
 ls:∃a c x d,Bx2 wr (ga+1) (.slice a L.l.length c) (.slice x L.n d)/\ SNc wr (ga+2) a c x L
 r1:Bx2 wr w.heap.size (.slice none 0 0) (.slice none 0 0)
 r2:Bx2 wr (w.heap.size+1) (.slice none 0 0) (.slice none 0 0)
 rd:RdJ wr B rb f n x
 gr:w.grownBy wr (some rb)
 z1:w.heap.size+1<ga
 z3:ga+2<=wr.heap.size
 z4:rb<w.heap.size
 z5:B<=w.heap.size
section
variable {w wr w1 : World} {B rb n x ga : Nat} {f : Nat -> Int} {A : Nat -> Sx} {L : Sx}
theorem DrS.gro (h:DrS w wr B rb f n x ga A L){x':Nat}(hg:wr.grownBy w1 (some rb))(hr:RdJ w1 B rb f n x'):DrS w w1 B rb f n x' ga A L:=by
 have u:=h.z1;have v:=h.z3;have y:=h.z4;have r:∀b,w.heap.size<=b ->some b≠some rb:=fun b hb e=>by injection e with e;omega
 have j:∀b,w.heap.size<=b ->b<wr.heap.size ->w1.heap[b]? =wr.heap[b]? :=fun b h1 h2=>hg.block b h2 (r b h1);have m:∀b,w.heap.size<=b ->∀k,some rb=some k ->k≠b:=fun b hb k e e2=>r b hb (by rw [e,e2]);obtain⟨a,c,t,d,z,g⟩:=h.ls;exact⟨h.row.move (j ga (by omega) (by omega)) hg.size (fun q q1 q2=>j q (by omega) q2),fun i=>(World.frozen?_of_block (a:=⟨ga,i,none⟩) (j ga (by omega) (by omega))).trans (h.fz i),⟨a,c,t,d,z.gr hg (m _ (by omega)),g.gr hg (by omega)⟩,h.r1.gr hg (m _ zL),h.r2.gr hg (m _ (by omega)),hr,QaP h.gr hg,h.z1,Nat.le_trans v hg.size,h.z4,h.z5⟩
theorem DrS.below (h:DrS w wr B rb f n x ga A L)(hb:Below wr.heap.size wr w1):DrS w w1 B rb f n x ga A L:=
 h.gro ⟨hb.os,hb.tape,hb.output,hb.size,fun k hk _=>hb.block k hk⟩ (h.rd.below (hb.mono (by have:=h.z3;have:=h.z1;have:=h.z5;omega)))
theorem DrS.at (h:DrS w wr B rb f n x ga A L){r:Nat}(hr:r<3):∃a c x d,wr.cell? ⟨ga,r*2,none⟩=some (.slice a (A r).l.length c)/\ wr.cell? ⟨ga,r*2+1,none⟩=some (.slice x (A r).n d)/\ SNc wr (ga+2) a c x (A r):=h.row r hr
theorem DrS.setA (h:DrS w wr B rb f n x ga A L){r:Nat}(hr:r<3){a xx:Option Addr}{S:Sx}{c:Nat}(s:SNc wr (ga+2) a c xx S)(_c d:Nat):DrS w ((wr.setCell ⟨ga,r*2,none⟩ (.slice a S.l.length c)).setCell ⟨ga,r*2+1,none⟩ (.slice xx S.n d)) B rb f n x ga (upA A r S) L:=by
 have m:=h.z1;have u:=h.z3;have v:=h.z4;obtain⟨z,g,o,t,y,b⟩:=h.ls;have e:∀q,ga≠q ->(((wr.setCell ⟨ga,r*2,none⟩ (.slice a S.l.length c)).setCell ⟨ga,r*2+1,none⟩ (.slice xx S.n d))).heap[q]? =wr.heap[q]? :=fun q hq=>by rw [zH _ _ _ _ (by simpa using Ne.symm hq),zH _ _ _ _ (by simpa using Ne.symm hq)]
 have k:wr.heap.size=(((wr.setCell ⟨ga,r*2,none⟩ (.slice a S.l.length c)).setCell ⟨ga,r*2+1,none⟩ (.slice xx S.n d))).heap.size:=by simp [World.setCell]
 have j:Below ga wr ((wr.setCell ⟨ga,r*2,none⟩ (.slice a S.l.length c)).setCell ⟨ga,r*2+1,none⟩ (.slice xx S.n d)):=(zI.setCell (p:=⟨ga,r*2,none⟩) zL _).setCell (p:=⟨ga,r*2+1,none⟩) zL _;exact⟨h.row.set (by omega) hr s,fun i=>by rw [World.frozen?_setCell,World.frozen?_setCell];exact h.fz i,⟨z,g,o,t,(y.setAt _ _ (by simp)).setAt _ _ (by simp),b.move zL (Nat.le_of_eq k) (fun q q1 q2=>e q (by omega))⟩,(h.r1.setAt _ _ (by simp;omega)).setAt _ _ (by simp;omega),(h.r2.setAt _ _ (by simp;omega)).setAt _ _ (by simp;omega),h.rd.below (j.mono (by have:=h.z5;omega)),Qar h.gr j (by omega),h.z1,by rw [<- k];exact u,h.z4,h.z5⟩
theorem DrS.setL (h:DrS w wr B rb f n x ga A L){a xx:Option Addr}{S:Sx}{c:Nat}(s:SNc wr (ga+2) a c xx S)(_c d:Nat):DrS w ((wr.setCell ⟨ga+1,0,none⟩ (.slice a S.l.length c)).setCell ⟨ga+1,1,none⟩ (.slice xx S.n d)) B rb f n x ga A S:=by
 have m:=h.z1;have r:=h.z3;have u:=h.z4;obtain⟨y,z,t,g,v,o⟩:=h.ls;have e:∀q,ga+1≠q ->(((wr.setCell ⟨ga+1,0,none⟩ (.slice a S.l.length c)).setCell ⟨ga+1,1,none⟩ (.slice xx S.n d))).heap[q]? =wr.heap[q]? :=fun q hq=>by rw [zH _ _ _ _ (by simpa using Ne.symm hq),zH _ _ _ _ (by simpa using Ne.symm hq)]
 have j:wr.heap.size=(((wr.setCell ⟨ga+1,0,none⟩ (.slice a S.l.length c)).setCell ⟨ga+1,1,none⟩ (.slice xx S.n d))).heap.size:=by simp [World.setCell]
 have k:Below ga wr ((wr.setCell ⟨ga+1,0,none⟩ (.slice a S.l.length c)).setCell ⟨ga+1,1,none⟩ (.slice xx S.n d)):=(zI.setCell (p:=⟨ga+1,0,none⟩) (by simp) _).setCell (p:=⟨ga+1,1,none⟩) (by simp) _;exact⟨h.row.move (e ga (by omega)) (Nat.le_of_eq j) (fun q q1 q2=>e q (by omega)),fun i=>by rw [World.frozen?_setCell,World.frozen?_setCell];exact h.fz i,⟨a,c,xx,d,v.set _ _,s.move zL (Nat.le_of_eq j) (fun q q1 q2=>e q (by omega))⟩,(h.r1.setAt _ _ (by simp;omega)).setAt _ _ (by simp;omega),(h.r2.setAt _ _ (by simp;omega)).setAt _ _ (by simp;omega),h.rd.below (k.mono (by have:=h.z5;omega)),Qar h.gr k (by omega),h.z1,by rw [<- j];exact r,h.z4,h.z5⟩
theorem DrS.box {U cur w5:World}{lo b jc:Nat}{ja jx:Option Addr}{J:Sx}(h:DrS w U B rb f n x ga A L)(hb:Below U.heap.size U cur)(hx:Bx2 cur b (.slice none 0 0) (.slice none 0 0))(hU:U.heap.size<=b)(sj:SNc w5 lo ja jc jx J)(hl:U.heap.size<=lo)(hs:w5.heap.size<=cur.heap.size)(hq:∀q,lo<=q ->q<w5.heap.size ->q≠b/\ cur.heap[q]? =w5.heap[q]?)(_jc jd:Nat):
  Below U.heap.size U ((cur.setCell ⟨b,0,none⟩ (.slice ja J.l.length jc)).setCell ⟨b,1,none⟩ (.slice jx J.n jd))/\ DrS w ((cur.setCell ⟨b,0,none⟩ (.slice ja J.l.length jc)).setCell ⟨b,1,none⟩ (.slice jx J.n jd)) B rb f n x ga A L/\ Bx2 ((cur.setCell ⟨b,0,none⟩ (.slice ja J.l.length jc)).setCell ⟨b,1,none⟩ (.slice jx J.n jd)) b (.slice ja J.l.length jc) (.slice jx J.n jd)/\ SNc ((cur.setCell ⟨b,0,none⟩ (.slice ja J.l.length jc)).setCell ⟨b,1,none⟩ (.slice jx J.n jd)) (ga+2) ja jc jx J:=by
 have r:=h.z3;have j:Below U.heap.size U ((cur.setCell ⟨b,0,none⟩ (.slice ja J.l.length jc)).setCell ⟨b,1,none⟩ (.slice jx J.n jd)):=(hb.setCell (p:=⟨b,0,none⟩) hU _).setCell (p:=⟨b,1,none⟩) hU _;exact⟨j,h.below j,hx.set _ _,sj.move (by omega) (by simpa [World.setCell] using hs) (fun q h1 h2=>by
  obtain⟨k,m⟩:=hq q h1 h2;rw [zH _ _ _ _ (by simpa using k),zH _ _ _ _ (by simpa using k)];exact m)⟩
end
theorem Qhb {w w2:World}{B rb n x ga:Nat}{f:Nat ->Int}{A:Nat ->Sx}{L:Sx}(h:DrS w w2 B rb f n x ga A L)(v0 v1 v2 v3:Value):RdJ ((((w2.setCell ⟨w.heap.size,0,none⟩ v0).setCell ⟨w.heap.size,1,none⟩ v1).setCell ⟨w.heap.size+1,0,none⟩ v2).setCell ⟨w.heap.size+1,1,none⟩ v3) B rb f n x/\ w.grownBy ((((w2.setCell ⟨w.heap.size,0,none⟩ v0).setCell ⟨w.heap.size,1,none⟩ v1).setCell ⟨w.heap.size+1,0,none⟩ v2).setCell ⟨w.heap.size+1,1,none⟩ v3) (some rb):=by
 have j:Below w.heap.size w2 ((((w2.setCell ⟨w.heap.size,0,none⟩ v0).setCell ⟨w.heap.size,1,none⟩ v1).setCell ⟨w.heap.size+1,0,none⟩ v2).setCell ⟨w.heap.size+1,1,none⟩ v3):=Qel zI zL (Nat.le_succ _) _ _ _ _;exact⟨h.rd.below (j.mono h.z5),Qar h.gr j zL⟩
def DwP (f:Nat ->Int)(n x:Nat)(S1 S2:Sx)(x':Nat):Prop:=(Dr S1/\ Dr S2)/\∀(B rb:Nat) (w:World),B<=w.heap.size ->RdJ w B rb f n x ->
  Calls Tryz.prog 20 #[.pointer (some ⟨rb,0,none⟩)] w fun e w'=>∃a1 c1 x1 d1 a2 c2 x2 d2,e=.returned (.tuple #[.agg #[.slice a1 S1.l.length c1,.slice x1 S1.n d1],.agg #[.slice a2 S2.l.length c2,.slice x2 S2.n d2]])/\ SNc w' w.heap.size a1 c1 x1 S1/\ SNc w' w.heap.size a2 c2 x2 S2/\ RdJ w' B rb f n x'/\ w.grownBy w' (some rb)
theorem Qo0 (f:Nat ->Int)(n x:Nat):∃M z x',DwP f n x M z x':=by
 obtain⟨k0,Kc⟩:∃k0,rk f n x=k0:=⟨_,rfl⟩;obtain⟨q0,K3⟩:∃q0,k0%12=q0:=⟨_,rfl⟩;obtain⟨N,hN⟩:∃N,3+q0=N:=⟨_,rfl⟩;obtain⟨D,hD⟩:∃D,Qo1 f n ⟨fun _=>Sx.mt,Sx.mt,rx n x⟩=D:=⟨_,rfl⟩;have Kl:Hid (D 0=⟨fun _=>Sx.mt,Sx.mt,rx n x⟩):=hid (by rw [<- hD];rfl);have Km:Hid (∀i,D (i+1)=Qf9 f n (D i)):=hid (fun i=>by rw [<- hD];rfl);have H9:Hid (∀i,(D i).Ok):=hid (fun i=>by rw [<- hD];exact Qi9 (Qpi _) i);obtain⟨m,Kg,Ke,Kf⟩:=Qkc (fun i=>i<N/\ (i<3 \/0<n - (D i).x)) N (fun h=>absurd h.1 (Nat.lt_irrefl _));have Ko:=hid Ke;have Kp:=hid Kf;obtain⟨k',Kb⟩:∃k,rk f n (D m).x=k:=⟨_,rfl⟩;obtain⟨t1,Ki⟩:∃t,k'/5%3=t:=⟨_,rfl⟩;obtain⟨t2,Kj⟩:∃t,k'/16%3=t:=⟨_,rfl⟩;obtain⟨z,Hj⟩:∃z,(if k'%5=4 then(D m).L else(D m).A t2)=z:=⟨_,rfl⟩;have G4:Hid (k'%5=4 ->z=(D m).L):=hid (fun e=>by rw [<- Hj,if_pos e]);have G5:Hid (¬k'%5=4 ->z=(D m).A t2):=hid (fun e=>by rw [<- Hj,if_neg e]);refine⟨(D m).A t1,z,rx n (D m).x,⟨(H9 m).a t1,?_⟩,fun B rb w hB h=> ?_⟩
 ·by_cases e:k'%5=4
  ·rw [G4 e];exact(H9 m).l
  ·rw [G5 e];exact(H9 m).a t2
 obtain⟨W,hW⟩:∃W,(w.alloc (.cells #[.slice none 0 0,.slice none 0 0] 28)).alloc (.cells #[.slice none 0 0,.slice none 0 0] 28)=W:=⟨_,rfl⟩;have b0:Below w.heap.size w W:=by rw [<- hW];exact Qak _ _ _
 have A0:Bx2 W w.heap.size (.slice none 0 0) (.slice none 0 0):=by rw [<- hW];exact(Bx2.made w _ _ _).allocs _
 have R0:Bx2 W (w.heap.size+1) (.slice none 0 0) (.slice none 0 0):=by rw [<- hW];simpa using Bx2.made (w.alloc (.cells #[.slice none 0 0,.slice none 0 0] 28)) (.slice none 0 0) (.slice none 0 0) 28
 have zW:W.heap.size=w.heap.size+2:=by rw [<- hW];simp
 have Kh:=h.lt;have HN:=hid (QaN B rb f n x W (h.below (b0.mono hB)));rw [Kc] at HN;have d0:(k0:Int)%12=(q0:Int):=by omega
 have G:IntKind.i64.wrap (3+(q0:Int))=(N:Int):=by rw [show (3:Int)+(q0:Int)=(N:Int) by omega];exact Qau _ (by omega) (by omega)
 have Kr:Hid (N<=14):=hid (by omega);have Kk:=hid A0;have Ks:=hid R0;have H0:=hid b0;have Kv:=hid zW;have Kt:=hid (And.intro Kh hB);have Kn:=hid Kb;have HT:=hid (And.intro Ki Kj);have Kq:=hid Kg;clear Kc K3 hN hD Ke Kf Kb Ki Kj Hj h b0 A0 R0 zW Kh Kg;go_enter Tryz.func20,Tryz.ntmps20;go_wp2_with fail;try rw [hW]
 clear hW;refine HN.mono ?_;rintro e w1 ⟨rfl,r1,g1⟩;have b3:Below w1.heap.size w1 ((w1.alloc (.cells #[.slice none 0 0,.slice none 0 0,.slice none 0 0,.slice none 0 0,.slice none 0 0,.slice none 0 0] 28)).alloc (.cells #[.slice none 0 0,.slice none 0 0] 28)):=Qak _ _ _;have HI:Hid (DrS w ((w1.alloc (.cells #[.slice none 0 0,.slice none 0 0,.slice none 0 0,.slice none 0 0,.slice none 0 0,.slice none 0 0] 28)).alloc (.cells #[.slice none 0 0,.slice none 0 0] 28)) B rb f n (D 0).x w1.heap.size (D 0).A (D 0).L):=hid (by
  have z1:=Kv.out;have z2:=g1.size;have z3:=Kt.out;have z4:=H0.size;have ng:∀b,w.heap.size<=b ->∀k,some rb=some k ->k≠b:=fun b hb k e=>by injection e with e;omega
  rw [Kl.out];refine⟨fun j hj=>⟨none,0,none,0,?_,?_,SNc.mt _ _ _ _⟩,fun i=> ?_,⟨none,0,none,0,?_,SNc.mt _ _ _ _⟩,(Kk.gr g1 (ng _ zL)).below b3 (by omega),(Ks.gr g1 (ng _ (by omega))).below b3 (by omega),r1.below (b3.mono (by omega)),?_,by omega,by simp,by omega,z3.2⟩
  ·show World.cell? _ ⟨w1.heap.size,j*2,none⟩=some (.slice none 0 0);match j,hj with
   | 0,_=>simp
   | 1,_=>simp
   | 2,_=>simp
  ·show World.cell? _ ⟨w1.heap.size,j*2+1,none⟩=some (.slice none 0 0);match j,hj with
   | 0,_=>simp
   | 1,_=>simp
   | 2,_=>simp
  ·simp
  ·simpa [Sx.mt] using Bx2.made (w1.alloc (.cells #[.slice none 0 0,.slice none 0 0,.slice none 0 0,.slice none 0 0,.slice none 0 0,.slice none 0 0] 28)) (.slice none 0 0) (.slice none 0 0) 28
  ·exact Qar ⟨g1.os.trans H0.os,g1.tape.trans H0.tape,g1.output.trans H0.output,by omega,fun k hk Hh=>(g1.block k (by omega) Hh).trans (H0.block k hk)⟩ b3 (by omega))
 clear r1 g1 HN b3;go_wp2_with fail;obtain⟨W3,Gt⟩:∃W3,((w1.alloc (.cells #[.slice none 0 0,.slice none 0 0,.slice none 0 0,.slice none 0 0,.slice none 0 0,.slice none 0 0] 28)).alloc (.cells #[.slice none 0 0,.slice none 0 0] 28))=W3:=⟨_,rfl⟩;rw [Gt] at HI;try rw [Gt]
 clear Gt;obtain⟨u,Ka⟩:∃u,w1.heap.size=u:=⟨_,rfl⟩;rw [Ka] at HI ⊢;clear Ka d0 G;go_loopw [7] (fun i wr=>∃j:Nat,j<=m/\ i=.int .i64 (j:Int)/\ Hid (DrS w wr B rb f n (D j).x u (D j).A (D j).L)) (fun i _=>m - (intOf i).toNat);case atStart=>exact⟨0,Nat.zero_le _,rfl,HI⟩
 case round=>
  clear HI;obtain⟨j,hj,rfl,HS⟩:=hrel;obtain⟨s,hs⟩:∃s,D j=s:=⟨_,rfl⟩;rw [hs] at HS;have Ga:Hid s.Ok:=hid (by rw [<- hs];exact H9 j);have Gn:Hid (D (j+1)=Qf9 f n s):=hid (by rw [Km.out,hs]);have H2:Hid (j<m ->j<N/\ (j<3 \/0<n - s.x)):=hid (fun h=>by have:=Ko j h;rw [hs] at this;exact this);have H3:Hid (¬j<m ->¬(j<N/\ (j<3 \/0<n - s.x))):=hid (fun h=>by have e:j=m:=(by omega);have:=Kp.out;rw [<- e,hs] at this;exact this);have G3:=hid hs;obtain⟨A,L,y⟩:=s;dsimp only at HS H2 H3;clear hs;obtain⟨CB,G9⟩:∃b,decide (j<m)=b:=⟨_,rfl⟩;have Hi:=hid G9;clear G9;go_upto_region 5 with fail;go_cut [37] from 26 to 101 (fun v U=>v=.bool CB/\ Hid (DrS w U B rb f n y u A L));case first=>
   by_cases h1:j<N
   ·have i1:(j:Int)<(N:Int):=by omega
    by_cases h2:j<3
    ·have i2:(j:Int)<3:=by omega
     have HE:Hid (CB=true):=hid (by rw [<- Hi.out];exact decide_eq_true (Classical.byContradiction fun hn=>H3.out hn ⟨h1,.inl h2⟩));go_wp2_with fail;go_meet;exact⟨by rw [HE.out],HS⟩
    ·have i2:¬(j:Int)<3:=by omega
     have HL:=hid (QmC B rb f n y _ HS.rd);obtain⟨lf,Kd⟩:∃lf,n - y=lf:=⟨_,rfl⟩;rw [Kd] at HL H2 H3;clear Kd;go_wp2_with fail;refine HL.mono ?_;rintro e O ⟨rfl,r5,g5⟩;have Hy:=hid (HS.gro g5 r5);clear r5 g5 HL;by_cases h3:0<lf
     ·have i3:(0:Int)<(lf:Int):=by omega
      have HE:Hid (CB=true):=hid (by rw [<- Hi.out];exact decide_eq_true (Classical.byContradiction fun hn=>H3.out hn ⟨h1,.inr h3⟩));go_wp2_with fail;go_meet;exact⟨by rw [HE.out],Hy⟩
     ·have i3:¬(0:Int)<(lf:Int):=by omega
      have HE:Hid (CB=false):=hid (by rw [<- Hi.out];exact decide_eq_false (fun hn=>by rcases (H2 hn).2 with e|e<;>omega));go_wp2_with fail;go_meet;exact⟨by rw [HE.out],Hy⟩
   ·have i1:¬(j:Int)<(N:Int):=by omega
    have HE:Hid (CB=false):=hid (by rw [<- Hi.out];exact decide_eq_false (fun hn=>h1 (H2 hn).1));go_wp2_with fail;go_meet;exact⟨by rw [HE.out],HS⟩
  case rest=>
   obtain⟨rfl,Ha⟩:=hcut;clear HS H2 H3;obtain⟨k,hk⟩:∃k,rk f n y=k:=⟨_,rfl⟩;have HN:=hid (QaN B rb f n y _ Ha.rd);rw [hk] at HN;have Hx:=hid hk;clear hk;cases CB with
   | false=>
    have Hk:j=m:=by have:=of_decide_eq_false Hi.out;omega
    have ek:k'=k:=by rw [<- Hx.out,<- Kn.out,<- Hk,G3.out]
    subst Hk;subst ek;have Ku:=HT.out;have Gf:k'<256:=by have:=Qk9 Ha.rd;rw [Hx.out] at this;exact this
    obtain⟨k5,K0⟩:∃k5,k'/5=k5:=⟨_,rfl⟩;obtain⟨H6,Gx⟩:∃H6,k'/16=H6:=⟨_,rfl⟩;have K5:IntKind.i64.wrap ((k':Int)/5)=(k5:Int):=by rw [show (k':Int)/5=(k5:Int) by omega];exact Qau _ (by omega) (by omega)
    have K4:Int.tmod (k5:Int) 3=(t1:Int):=by rw [Int.tmod_eq_emod_of_nonneg (by omega)];omega
    have Kx:IntKind.i64.wrap ((k':Int)/16)=(H6:Int):=by rw [show (k':Int)/16=(H6:Int) by omega];exact Qau _ (by omega) (by omega)
    have Kw:Int.tmod (H6:Int) 3=(t2:Int):=by rw [Int.tmod_eq_emod_of_nonneg (by omega)];omega
    have G8:t1<3:=by omega
    have Ky:t2<3:=by omega
    have i1:(0:Int)<=(t1:Int):=Int.natCast_nonneg _;have i2:(t1:Int)<3:=by omega
    have i3:(0:Int)<=(t2:Int):=Int.natCast_nonneg _;have i4:(t2:Int)<3:=by omega
    clear K0 Gx Gf Ku HT Hi;have G1:Hid (D j=⟨A,L,y⟩):=G3;by_cases h4:k'%5=4
    ·have e4:((k':Int)%5==4)=true:=by simp;omega
     have Gr:=hid (G4 h4);go_wp2_with fail;refine HN.mono ?_;rintro e P ⟨rfl,r2,g2⟩;have g:=hid (Ha.gro g2 r2);clear r2 g2 HN Ha;obtain⟨I,E,Z,G,p0,p1,s1⟩:=g.at G8;obtain⟨la,lc,lx,ld,lb,ls⟩:=g.ls;have l0:=lb.c0;have l1:=lb.c1;have Hg:=hid (QlD g.r1 g.r2 (show w.heap.size≠w.heap.size+1 by omega) (.slice I (A t1).l.length E) (.slice Z (A t1).n G) (.slice la L.l.length lc) (.slice lx L.n ld));have o0:=g.r1.c0;have o1:=g.r1.c1;have of:=g.r1.f;have q0:=Hg.1.c0;have q1:=Hg.1.c1;have qf:=Hg.1.f;have Hr:=hid s1;have Gk:=hid ls;have K1:¬w.heap.size=u:=by have:=g.z1;omega
     have K2:¬w.heap.size+1=u:=by have:=g.z1;omega
     have K6:¬w.heap.size=u+1:=by have:=g.z1;omega
     clear lb s1 ls;go_wp2_with fail;go_region;try go_wp2_with fail
     all_goals
      obtain⟨X1,X2⟩:=Hg.2
      refine zF (v:=.tuple #[.agg #[.slice I (A t1).l.length E,.slice Z (A t1).n G],.agg #[.slice la L.l.length lc,.slice lx L.n ld]]) (by simp [results,Tryz.results20,go_sem,X1.c0,X1.c1,X2.c0,X2.c1]) ?_
      rw [Gr.out,G1.out]
      have z1:=g.z1
      obtain⟨E1,E2⟩:=Qhb g.out (.slice I (A t1).l.length E) (.slice Z (A t1).n G) (.slice la L.l.length lc) (.slice lx L.n ld)
      exact⟨I,E,Z,G,la,lc,lx,ld,rfl,(QgH (r1:=w.heap.size) (r2:=w.heap.size+1) Hr.out (by omega) (by omega) (by omega) _ _ _ _).drew,(QgH (r1:=w.heap.size) (r2:=w.heap.size+1) Gk.out (by omega) (by omega) (by omega) _ _ _ _).drew,E1.below zI.drew,⟨E2.os,E2.tape,E2.output,E2.size,E2.block⟩⟩
    ·have e4:((k':Int)%5==4)=false:=by simp;omega
     have Gr:=hid (G5 h4);go_wp2_with fail;refine HN.mono ?_;rintro e P ⟨rfl,r2,g2⟩;have g:=hid (Ha.gro g2 r2);clear r2 g2 HN Ha;obtain⟨I,E,Z,G,p0,p1,s1⟩:=g.at G8;obtain⟨a2,c2,x2,d2,l0,l1,s2⟩:=g.at Ky;have Hg:=hid (QlD g.r1 g.r2 (show w.heap.size≠w.heap.size+1 by omega) (.slice I (A t1).l.length E) (.slice Z (A t1).n G) (.slice a2 (A t2).l.length c2) (.slice x2 (A t2).n d2));have o0:=g.r1.c0;have o1:=g.r1.c1;have of:=g.r1.f;have q0:=Hg.1.c0;have q1:=Hg.1.c1;have qf:=Hg.1.f;have Hr:=hid s1;have Gk:=hid s2;have K1:¬w.heap.size=u:=by have:=g.z1;omega
     have K2:¬w.heap.size+1=u:=by have:=g.z1;omega
     clear s1 s2;go_wp2_with fail;go_region;try go_wp2_with fail
     all_goals
      obtain⟨X1,X2⟩:=Hg.2
      refine zF (v:=.tuple #[.agg #[.slice I (A t1).l.length E,.slice Z (A t1).n G],.agg #[.slice a2 (A t2).l.length c2,.slice x2 (A t2).n d2]]) (by simp [results,Tryz.results20,go_sem,X1.c0,X1.c1,X2.c0,X2.c1]) ?_
      rw [Gr.out,G1.out]
      have z1:=g.z1
      obtain⟨E1,E2⟩:=Qhb g.out (.slice I (A t1).l.length E) (.slice Z (A t1).n G) (.slice a2 (A t2).l.length c2) (.slice x2 (A t2).n d2)
      exact⟨I,E,Z,G,a2,c2,x2,d2,rfl,(QgH (r1:=w.heap.size) (r2:=w.heap.size+1) Hr.out (by omega) (by omega) (by omega) _ _ _ _).drew,(QgH (r1:=w.heap.size) (r2:=w.heap.size+1) Gk.out (by omega) (by omega) (by omega) _ _ _ _).drew,E1.below zI.drew,⟨E2.os,E2.tape,E2.output,E2.size,E2.block⟩⟩
   | true=>
    have Hk:j<m:=of_decide_eq_true Hi.out;have Kz:j<15:=by have:=Kq.out;have:=Kr.out;omega
    obtain⟨r,hr⟩:∃r,k%3=r:=⟨_,rfl⟩;obtain⟨t,ht⟩:∃t,k/8%3=t:=⟨_,rfl⟩;have Hz:r<3:=by omega
    have Gg:t<3:=by omega
    have e0:(k:Int)%3=(r:Int):=by omega
    have e1:(k:Int)/8%3=(t:Int):=by omega
    have r0:(0:Int)<=(r:Int):=Int.natCast_nonneg _;have r1:(r:Int)<3:=by omega
    have t0:(0:Int)<=(t:Int):=Int.natCast_nonneg _;have t1:(t:Int)<3:=by omega
    have Hq:=hid (And.intro hr ht);have Gf:(k:Int)<256:=by have:=Qk9 Ha.rd;rw [Hx.out] at this;omega
    clear hr ht Hi;by_cases h7:k%8=7
    ·have e7:((k:Int)%8==7)=true:=by simp;omega
     have Ho:Hid (D (j+1)=⟨jnT A r (A r) (A t),L,rx n y⟩):=hid (by
      rw [Gn.out];unfold Qf9;dsimp only;rw [Hx.out,if_pos h7,Hq.1,Hq.2])
     go_wp2_with fail;refine HN.mono ?_;rintro e P ⟨rfl,r2,g2⟩;have g:=hid (Ha.gro g2 r2);clear r2 g2 HN Ha;obtain⟨I,E,Z,G,p0,p1,s1⟩:=g.at Hz;obtain⟨a2,c2,x2,d2,q0,q1,s2⟩:=g.at Gg;have Ht:u<P.heap.size:=by have:=g.z3;omega
     have Go:=hid ((Ga.a r).vd);have Gp:=hid ((Ga.a t).vd);obtain⟨V,hV⟩:∃V,jnB (A r) (A t)=V:=⟨_,rfl⟩;obtain⟨J,hJ⟩:∃J,jnZ (A r) (A t)=J:=⟨_,rfl⟩;have Hn:Hid (V=true ->D (j+1)=⟨upA A r J,L,(rx n y)⟩):=hid (fun e=>by rw [Ho.out,<- hJ];unfold jnT;rw [hV,if_pos e,Qmr (hV.trans e)]);have Hm:Hid (V=false ->D (j+1)=⟨A,L,(rx n y)⟩):=hid (fun e=>by rw [Ho.out];unfold jnT;rw [hV,if_neg (by rw [e];simp)]);have Hl:Hid (∀w':World,Below P.heap.size P w' ->Calls Tryz.prog 47 #[.agg #[.slice I (A r).l.length E,.slice Z (A r).n G],.agg #[.slice a2 (A t).l.length c2,.slice x2 (A t).n d2]] w' fun e w''=>∃C Y F H,e=.returned (.tuple #[.agg #[.slice C J.l.length Y,.slice F J.n H],.bool V])/\ SNc w'' w'.heap.size C Y F J/\ Below w'.heap.size w' w''):=hid (fun w' b=>by
      rw [<- hV,<- hJ];exact QfS I Z a2 x2 E G c2 d2 (A r) (A t) w' (QgP Go.out) (QgP Gp.out) ⟨(s1.below b).at.1,(s1.below b).at.2⟩ ⟨(s2.below b).at.1,(s2.below b).at.2⟩)
     clear hV hJ Ho;go_upto_region 10 with fail;go_cut [9,10,11] from 26 to 101 (fun p v o U=>∃b C Y F H,p=.int .i64 (r:Int)/\ v=.pointer (some ⟨b,0,none⟩)/\ o=.bool V/\ Hid (DrS w U B rb f n (rx n y) u A L/\ Bx2 U b (.slice C J.l.length Y) (.slice F J.n H)/\ SNc U (u+2) C Y F J));case first=>
      obtain⟨k8,Gy⟩:∃k8,k/8=k8:=⟨_,rfl⟩;have ew:IntKind.i64.wrap ((k:Int)/8)=(k8:Int):=by rw [show (k:Int)/8=(k8:Int) by omega];exact Qau _ (by omega) (by omega)
      have et:Int.tmod (k8:Int) 3=(t:Int):=by rw [Int.tmod_eq_emod_of_nonneg (by omega)];have:=Hq.out;omega
      clear Gy e1 Gf;have He:Hid (∀w':World,Below P.heap.size P w' ->(w'.cell? ⟨u,r*2,none⟩=some (.slice I (A r).l.length E)/\ w'.cell? ⟨u,r*2+1,none⟩=some (.slice Z (A r).n G)/\ w'.cell? ⟨u,t*2,none⟩=some (.slice a2 (A t).l.length c2)/\ w'.cell? ⟨u,t*2+1,none⟩=some (.slice x2 (A t).n d2))):=hid (fun w' b=>⟨(b.cell (p:=⟨u,r*2,none⟩) Ht).trans p0,(b.cell (p:=⟨u,r*2+1,none⟩) Ht).trans p1,(b.cell (p:=⟨u,t*2,none⟩) Ht).trans q0,(b.cell (p:=⟨u,t*2+1,none⟩) Ht).trans q1⟩);refine zR (S:=fun w'=>w'.cell? ⟨u,r*2,none⟩=some (.slice I (A r).l.length E)/\ w'.cell? ⟨u,r*2+1,none⟩=some (.slice Z (A r).n G)/\ w'.cell? ⟨u,t*2,none⟩=some (.slice a2 (A t).l.length c2)/\ w'.cell? ⟨u,t*2+1,none⟩=some (.slice x2 (A t).n d2)) (He _ zI.drew) (fun qh=> ?_);refine tZ 0 48 ?_;refine tZ 1 49 ?_;refine tZ 2 50 ?_;refine tZ 3 51 ?_;refine tZ 4 52 ?_;refine tZ 5 53 ?_;refine tZ 6 54 ?_;refine tZ 7 55 ?_;refine tZ 8 56 ?_;refine tZ 9 57 ?_;refine QaO (i:=10) (j:=14) (d:=some 58) (d':=some 10) (by kernel_rfl) (by kernel_rfl) (by kernel_rfl) ?_ ?_
      ·
       intro o ho Gz K Q;simp only [gZa,gZb,gZc,gZd] at ho;subst ho;go_simp;refine(Hl _ zI.drew).mono ?_;rintro e O ⟨C,Y,F,H,rfl,sj,b5⟩;have Hd:Below P.heap.size P O:=Qab zI.drew b5;refine Q.out _ _ (He _ Hd) (fun qh=> ?_);clear Q K;try simp only [zP]
       refine tZ 11 47 ?_;refine tZ 12 59 ?_;refine tZ 13 60 ?_;refine cZ 14 ?_;intro K Q;go_simp;obtain⟨U,X⟩:∃U,O.alloc (.cells #[.slice none 0 0,.slice none 0 0] 28)=U:=⟨_,rfl⟩;have Hb:Below O.heap.size O U:=by rw [<- X];exact zO _ _
       have Hc:Bx2 U O.heap.size (.slice none 0 0) (.slice none 0 0):=by rw [<- X];exact Bx2.made _ _ _ _
       have Hs:Below P.heap.size P U:=Qab Hd Hb;have HF:=hid (g.box Hs Hc Hd.size sj zL Hb.size (fun q q1 q2=>⟨by omega,Hb.block q q2⟩) Y H);rw [X];clear X;refine Q.out _ _ (He _ Hs) (fun qh=> ?_);clear Q K;try simp only [zP]
       have Hu:=Hc.c0;have Hv:=Hc.c1;have Hw:=Hc.f;clear Hb Hs Hc sj b5 Hd;refine cZ 15 ?_;intro K Q;go_simp;refine Q.out _ _ (He _ HF.1) (fun qh=> ?_);clear Q K;try simp only [zP]
       clear Hu Hv Hw;refine tZ 16 11 ?_;refine zD ?_;go_wp2_with fail;go_meet;exact⟨_,C,Y,F,H,rfl,rfl,rfl,hid HF.2⟩
      ·
       intro o ho Gz K Q;simp only [gZa,gZb,gZc,gZd] at ho;subst ho;go_simp;obtain⟨U,X⟩:∃U,(P.alloc (.cells #[.slice none 0 0,.slice none 0 0] 28)).drew=U:=⟨_,rfl⟩;have Hb:Below P.heap.size P U:=by rw [<- X];exact(zO _ _).drew
       have Hc:Bx2 U P.heap.size (.slice none 0 0) (.slice none 0 0):=by
        have h0:=Bx2.made P (.slice none 0 0) (.slice none 0 0) 28;rw [<- X];exact h0.below zI.drew h0.lt
       have G0:U.heap.size=P.heap.size+1:=by rw [<- X];simp
       rw [X];clear X;refine Q.out _ _ (He _ Hb) (fun qh=> ?_);clear Q K;try simp only [zP]
       refine cZ 10 ?_;intro K Q;go_simp;refine(Hl _ Hb).mono ?_;rintro e O ⟨C,Y,F,H,rfl,sj,b5⟩;have Hd:Below P.heap.size P O:=Qab Hb b5;have Hf:=Hc.below b5 Hc.lt;have HF:=hid (g.box Hd Hf zL sj (by omega) zL (fun q q1 q2=>⟨by omega,rfl⟩) Y H);refine Q.out _ _ (He _ Hd) (fun qh=> ?_);clear Q K;try simp only [zP]
       refine tZ 11 47 ?_;refine tZ 12 59 ?_;refine tZ 13 60 ?_;have Hu:=Hf.c0;have Hv:=Hf.c1;have Hw:=Hf.f;clear Hb Hc Hf sj b5 Hd G0;refine cZ 15 ?_;intro K Q;go_simp;refine Q.out _ _ (He _ HF.1) (fun qh=> ?_);clear Q K;try simp only [zP]
       clear Hu Hv Hw;refine tZ 16 11 ?_;refine zD ?_;go_wp2_with fail;go_meet;exact⟨_,C,Y,F,H,rfl,rfl,rfl,hid HF.2⟩
     case rest=>
      obtain⟨b,C,Y,F,H,rfl,rfl,rfl,T⟩:=hcut;clear Hl g;cases V with
      | false=>
       have HE:=hid (Hm rfl);clear Hn Hm;have Hp:=hid T.1;clear T;go_wp2_with fail;go_roundw;case rel=>
        exact⟨j+1,Hk,by go_num,by rw [HE.out];exact Hp⟩
       case measure=>simp [intOf];omega
      | true=>
       have HE:=hid (Hn rfl);clear Hn Hm;obtain⟨pa,pc,px,pd,p0,p1,_⟩:=T.1.at (r:=r) Hz;have pf:=T.1.fz;have x0:=T.2.1.c0;have Z:=T.2.1.c1;have Hp:=hid (T.1.setA (r:=r) Hz T.2.2 Y H);clear T;go_wp2_with fail;go_roundw;case rel=>
        exact⟨j+1,Hk,by go_num,by rw [HE.out];exact Hp⟩
       case measure=>simp [intOf];omega
    ·have e7:((k:Int)%8==7)=false:=by simp;omega
     obtain⟨M,Ge⟩:∃M,(acR f n (rx n y) (A r) r).1=M:=⟨_,rfl⟩;obtain⟨z,Hj⟩:∃z,(acR f n (rx n y) (A r) r).2.1=z:=⟨_,rfl⟩;obtain⟨y2,Gh⟩:∃y2,(acR f n (rx n y) (A r) r).2.2=y2:=⟨_,rfl⟩;have Gi:Hid (AcP f n (rx n y) (A r) r M z y2):=hid (by rw [<- Ge,<- Hj,<- Gh];exact QkY f n (rx n y) (Ga.a r) (by omega));have Gl:Hid (k%8=6 ->D (j+1)=⟨jnT (upA A r M) t (upA A r M t) z,z,y2⟩):=hid (fun h6=>by
      rw [Gn.out];unfold Qf9;dsimp only;rw [Hx.out,if_neg h7,if_pos h6,Hq.1,Hq.2,Ge,Hj,Gh])
     have Gm:Hid (¬k%8=6 ->D (j+1)=⟨upA A r M,z,y2⟩):=hid (fun h6=>by
      rw [Gn.out];unfold Qf9;dsimp only;rw [Hx.out,if_neg h7,if_neg h6,Hq.1,Ge,Hj,Gh])
     clear Ge Hj Gh;go_wp2_with fail;refine HN.mono ?_;rintro e P ⟨rfl,r2,g2⟩;have g:=hid (Ha.gro g2 r2);clear r2 g2 HN Ha;obtain⟨I,E,Z,G,p0,p1,s1⟩:=g.at Hz;have G2:=hid (Gi.2 B (u+2) rb I Z E G P (by have:=g.z1;have:=g.z5;omega) g.z3 g.rd s1);go_wp2_with fail;refine G2.mono ?_;rintro e O ⟨a5,c5,x5,d5,a6,c6,x6,d6,rfl,s5,s6,r5,g5⟩;have Gs:=hid (g.gro g5 r5);have G7:Hid (u+2<=O.heap.size):=hid Gs.z3;have b6:Below O.heap.size O ((O.alloc (.cells #[.slice a5 M.l.length c5,.slice x5 M.n d5] 28)).alloc (.cells #[.slice a6 z.l.length c6,.slice x6 z.n d6] 28)):=Qak _ _ _;have H4:=hid (Gs.below b6);have Hy:=hid (s5.below b6);have Gq:=hid (s6.below b6);have H7:Hid (Bx2 ((O.alloc (.cells #[.slice a5 M.l.length c5,.slice x5 M.n d5] 28)).alloc (.cells #[.slice a6 z.l.length c6,.slice x6 z.n d6] 28)) O.heap.size (.slice a5 M.l.length c5) (.slice x5 M.n d5)):=hid ((Bx2.made O _ _ _).allocs _);have Gj:Hid (Bx2 ((O.alloc (.cells #[.slice a5 M.l.length c5,.slice x5 M.n d5] 28)).alloc (.cells #[.slice a6 z.l.length c6,.slice x6 z.n d6] 28)) (O.heap.size+1) (.slice a6 z.l.length c6) (.slice x6 z.n d6)):=hid (by simpa using Bx2.made (O.alloc (.cells #[.slice a5 M.l.length c5,.slice x5 M.n d5] 28)) (.slice a6 z.l.length c6) (.slice x6 z.n d6) 28);clear s5 s6 r5 g5 b6 G2 g Gs p0 p1 s1;go_upto_region 14 with fail;obtain⟨W6,Gu⟩:∃W6,((O.alloc (.cells #[.slice a5 M.l.length c5,.slice x5 M.n d5] 28)).alloc (.cells #[.slice a6 z.l.length c6,.slice x6 z.n d6] 28))=W6:=⟨_,rfl⟩;rw [Gu] at H4 Hy Gq H7 Gj;rw [Gu];clear Gu;obtain⟨pa,pc,px,pd,p0,p1,_⟩:=H4.at Hz;have pf:=H4.fz;have x0:=H7.c0;have Z:=H7.c1;have Hh:u≠O.heap.size+1:=by have:=G7.out;omega
     have Gc:=hid (H4.setA Hz Hy.out c5 d5);have H1:=hid ((Gj.setAt ⟨u,r*2,none⟩ (.slice a5 M.l.length c5) Hh).setAt ⟨u,r*2+1,none⟩ (.slice x5 M.n d5) Hh);have Gb:Hid (SNc ((W6.setCell ⟨u,r*2,none⟩ (.slice a5 M.l.length c5)).setCell ⟨u,r*2+1,none⟩ (.slice x5 M.n d5)) (u+2) a6 c6 x6 z):=hid (Gq.move zL (by simp [World.setCell]) (fun q q1 q2=>by rw [zH _ _ _ _ (by simp;omega),zH _ _ _ _ (by simp;omega)]));clear Hh;go_upto_region 15 with fail;obtain⟨W7,Gv⟩:∃W7,((W6.setCell ⟨u,r*2,none⟩ (.slice a5 M.l.length c5)).setCell ⟨u,r*2+1,none⟩ (.slice x5 M.n d5))=W7:=⟨_,rfl⟩;rw [Gv] at Gc H1 Gb;rw [Gv];clear Gv p0 p1 pf x0 Z H4 Hy Gq H7 Gj;obtain⟨la,lc,lx,ld,lb,_⟩:=Gc.ls;have l0:=lb.c0;have l1:=lb.c1;have lf:=lb.f;have x0:=H1.c0;have Z:=H1.c1;have Hh:u+1≠O.heap.size+1:=by have:=G7.out;omega
     have Gd:=hid (Gc.setL Gb.out c6 d6);have H8:=hid ((H1.setAt ⟨u+1,0,none⟩ (.slice a6 z.l.length c6) Hh).setAt ⟨u+1,1,none⟩ (.slice x6 z.n d6) Hh);have G6:Hid (SNc ((W7.setCell ⟨u+1,0,none⟩ (.slice a6 z.l.length c6)).setCell ⟨u+1,1,none⟩ (.slice x6 z.n d6)) (u+2) a6 c6 x6 z):=hid (Gb.move zL (by simp [World.setCell]) (fun q q1 q2=>by rw [zH _ _ _ _ (by simp;omega),zH _ _ _ _ (by simp;omega)]));clear Hh lb;go_upto_region 16 with fail;obtain⟨R,Gw⟩:∃R,((W7.setCell ⟨u+1,0,none⟩ (.slice a6 z.l.length c6)).setCell ⟨u+1,1,none⟩ (.slice x6 z.n d6))=R:=⟨_,rfl⟩;rw [Gw] at Gd H8 G6;rw [Gw];clear Gw l0 l1 lf x0 Z Gc H1 Gb;by_cases h6:k%8=6
     ·have e6:((k:Int)%8==6)=true:=by simp;omega
      have Ho:=hid (Gl h6);clear Gl Gm;have g:=Gd;obtain⟨I,E,Z,G,p0,p1,s1⟩:=g.at Gg;have q0:=H8.c0;have q1:=H8.c1;have s2:=G6.out;have Go:=hid ((Qga (j:=r) Ga.a Gi.1.1 t).vd);have Gp:=hid (Gi.1.2.vd);have Ht:u<R.heap.size:=by have:=g.z3;omega
      have H5:O.heap.size+1<R.heap.size:=H8.lt;clear Gd;obtain⟨V,hV⟩:∃V,jnB (upA A r M t) z=V:=⟨_,rfl⟩;obtain⟨J,hJ⟩:∃J,jnZ (upA A r M t) z=J:=⟨_,rfl⟩;have Hn:Hid (V=true ->D (j+1)=⟨upA (upA A r M) t J,z,y2⟩):=hid (fun e=>by rw [Ho.out,<- hJ];unfold jnT;rw [hV,if_pos e,Qmr (hV.trans e)]);have Hm:Hid (V=false ->D (j+1)=⟨(upA A r M),z,y2⟩):=hid (fun e=>by rw [Ho.out];unfold jnT;rw [hV,if_neg (by rw [e];simp)]);have Hl:Hid (∀w':World,Below R.heap.size R w' ->Calls Tryz.prog 47 #[.agg #[.slice I (upA A r M t).l.length E,.slice Z (upA A r M t).n G],.agg #[.slice a6 (z).l.length c6,.slice x6 (z).n d6]] w' fun e w''=>∃C Y F H,e=.returned (.tuple #[.agg #[.slice C J.l.length Y,.slice F J.n H],.bool V])/\ SNc w'' w'.heap.size C Y F J/\ Below w'.heap.size w' w''):=hid (fun w' b=>by
       rw [<- hV,<- hJ];exact QfS I Z a6 x6 E G c6 d6 (upA A r M t) (z) w' (QgP Go.out) (QgP Gp.out) ⟨(s1.below b).at.1,(s1.below b).at.2⟩ ⟨(s2.below b).at.1,(s2.below b).at.2⟩)
      clear hV hJ Ho;go_upto_region 17 with fail;go_cut [9,14,15] from 26 to 101 (fun p v o U=>∃b C Y F H,p=.int .i64 (r:Int)/\ v=.pointer (some ⟨b,0,none⟩)/\ o=.bool V/\ Hid (DrS w U B rb f n y2 u (upA A r M) z/\ Bx2 U b (.slice C J.l.length Y) (.slice F J.n H)/\ SNc U (u+2) C Y F J));case first=>
       obtain⟨k8,Gy⟩:∃k8,k/8=k8:=⟨_,rfl⟩;have ew:IntKind.i64.wrap ((k:Int)/8)=(k8:Int):=by rw [show (k:Int)/8=(k8:Int) by omega];exact Qau _ (by omega) (by omega)
       have et:Int.tmod (k8:Int) 3=(t:Int):=by rw [Int.tmod_eq_emod_of_nonneg (by omega)];have:=Hq.out;omega
       clear Gy e1 Gf;have He:Hid (∀w':World,Below R.heap.size R w' ->(w'.cell? ⟨u,t*2,none⟩=some (.slice I (upA A r M t).l.length E)/\ w'.cell? ⟨u,t*2+1,none⟩=some (.slice Z (upA A r M t).n G)/\ w'.cell? ⟨O.heap.size+1,0,none⟩=some (.slice a6 z.l.length c6)/\ w'.cell? ⟨O.heap.size+1,1,none⟩=some (.slice x6 z.n d6))):=hid (fun w' b=>⟨(b.cell (p:=⟨u,t*2,none⟩) Ht).trans p0,(b.cell (p:=⟨u,t*2+1,none⟩) Ht).trans p1,(b.cell (p:=⟨O.heap.size+1,0,none⟩) H5).trans q0,(b.cell (p:=⟨O.heap.size+1,1,none⟩) H5).trans q1⟩);refine zR (S:=fun w'=>w'.cell? ⟨u,t*2,none⟩=some (.slice I (upA A r M t).l.length E)/\ w'.cell? ⟨u,t*2+1,none⟩=some (.slice Z (upA A r M t).n G)/\ w'.cell? ⟨O.heap.size+1,0,none⟩=some (.slice a6 z.l.length c6)/\ w'.cell? ⟨O.heap.size+1,1,none⟩=some (.slice x6 z.n d6)) (He _ zI.drew) (fun qh=> ?_);refine tZ 0 85 ?_;refine tZ 1 86 ?_;refine tZ 2 87 ?_;refine tZ 3 88 ?_;refine tZ 4 89 ?_;refine tZ 5 90 ?_;refine tZ 6 91 ?_;refine QaO (i:=7) (j:=11) (d:=some 92) (d':=some 14) (by kernel_rfl) (by kernel_rfl) (by kernel_rfl) ?_ ?_
       ·
        intro o ho Gz K Q;simp only [gZa,gZb,gZc,gZd] at ho;subst ho;go_simp;refine(Hl _ zI.drew).mono ?_;rintro e O ⟨C,Y,F,H,rfl,sj,b5⟩;have Hd:Below R.heap.size R O:=Qab zI.drew b5;refine Q.out _ _ (He _ Hd) (fun qh=> ?_);clear Q K;try simp only [zP]
        refine tZ 8 84 ?_;refine tZ 9 93 ?_;refine tZ 10 94 ?_;refine cZ 11 ?_;intro K Q;go_simp;obtain⟨U,X⟩:∃U,O.alloc (.cells #[.slice none 0 0,.slice none 0 0] 28)=U:=⟨_,rfl⟩;have Hb:Below O.heap.size O U:=by rw [<- X];exact zO _ _
        have Hc:Bx2 U O.heap.size (.slice none 0 0) (.slice none 0 0):=by rw [<- X];exact Bx2.made _ _ _ _
        have Hs:Below R.heap.size R U:=Qab Hd Hb;have HF:=hid (g.box Hs Hc Hd.size sj zL Hb.size (fun q q1 q2=>⟨by omega,Hb.block q q2⟩) Y H);rw [X];clear X;refine Q.out _ _ (He _ Hs) (fun qh=> ?_);clear Q K;try simp only [zP]
        have Hu:=Hc.c0;have Hv:=Hc.c1;have Hw:=Hc.f;clear Hb Hs Hc sj b5 Hd;refine cZ 12 ?_;intro K Q;go_simp;refine Q.out _ _ (He _ HF.1) (fun qh=> ?_);clear Q K;try simp only [zP]
        clear Hu Hv Hw;refine tZ 13 15 ?_;refine zD ?_;go_wp2_with fail;go_meet;exact⟨_,C,Y,F,H,rfl,rfl,rfl,hid HF.2⟩
       ·
        intro o ho Gz K Q;simp only [gZa,gZb,gZc,gZd] at ho;subst ho;go_simp;obtain⟨U,X⟩:∃U,(R.alloc (.cells #[.slice none 0 0,.slice none 0 0] 28)).drew=U:=⟨_,rfl⟩;have Hb:Below R.heap.size R U:=by rw [<- X];exact(zO _ _).drew
        have Hc:Bx2 U R.heap.size (.slice none 0 0) (.slice none 0 0):=by
         have h0:=Bx2.made R (.slice none 0 0) (.slice none 0 0) 28;rw [<- X];exact h0.below zI.drew h0.lt
        have G0:U.heap.size=R.heap.size+1:=by rw [<- X];simp
        rw [X];clear X;refine Q.out _ _ (He _ Hb) (fun qh=> ?_);clear Q K;try simp only [zP]
        refine cZ 7 ?_;intro K Q;go_simp;refine(Hl _ Hb).mono ?_;rintro e O ⟨C,Y,F,H,rfl,sj,b5⟩;have Hd:Below R.heap.size R O:=Qab Hb b5;have Hf:=Hc.below b5 Hc.lt;have HF:=hid (g.box Hd Hf zL sj (by omega) zL (fun q q1 q2=>⟨by omega,rfl⟩) Y H);refine Q.out _ _ (He _ Hd) (fun qh=> ?_);clear Q K;try simp only [zP]
        refine tZ 8 84 ?_;refine tZ 9 93 ?_;refine tZ 10 94 ?_;have Hu:=Hf.c0;have Hv:=Hf.c1;have Hw:=Hf.f;clear Hb Hc Hf sj b5 Hd G0;refine cZ 12 ?_;intro K Q;go_simp;refine Q.out _ _ (He _ HF.1) (fun qh=> ?_);clear Q K;try simp only [zP]
        clear Hu Hv Hw;refine tZ 13 15 ?_;refine zD ?_;go_wp2_with fail;go_meet;exact⟨_,C,Y,F,H,rfl,rfl,rfl,hid HF.2⟩
      case rest=>
       obtain⟨b,C,Y,F,H,rfl,rfl,rfl,T⟩:=hcut;clear Hl g;cases V with
       | false=>
        have HE:=hid (Hm rfl);clear Hn Hm;have Hp:=hid T.1;clear T;go_wp2_with fail;go_roundw;case rel=>
         exact⟨j+1,Hk,by go_num,by rw [HE.out];exact Hp⟩
        case measure=>simp [intOf];omega
       | true=>
        have HE:=hid (Hn rfl);clear Hn Hm;obtain⟨pa,pc,px,pd,p0,p1,_⟩:=T.1.at (r:=t) Gg;have pf:=T.1.fz;have x0:=T.2.1.c0;have Z:=T.2.1.c1;have Hp:=hid (T.1.setA (r:=t) Gg T.2.2 Y H);clear T;go_wp2_with fail;go_roundw;case rel=>
         exact⟨j+1,Hk,by go_num,by rw [HE.out];exact Hp⟩
        case measure=>simp [intOf];omega
     ·have e6:((k:Int)%8==6)=false:=by simp;omega
      have HE:=hid (Gm h6);clear Gl Gm;go_wp2_with fail;go_roundw;case rel=>
       exact⟨j+1,Hk,by go_num,by rw [HE.out];exact Gd⟩
      case measure=>simp [intOf];omega
theorem Qjv {f:Nat ->Int}(hf:Byt f)(n x:Nat):rk f n x<256:=by
 unfold rk;split
 ·have:=hf x;omega
 ·omega
theorem Qo6 {A B:Sx}(h:Dr A)(h':Dr B):Gd (jnS A B):=by
 have k:=Qlp h.vd.w h'.vd.w;refine⟨⟨by omega,fun i=> ?_,by show (jnU A B).length<=_;omega⟩,fun i=> ?_,?_⟩
 ·by_cases j:i<(jnS A B).l.length
  ·have:=(Qnx h.vd.w h'.vd.w _ (Qa1.2 ⟨i,j,rfl⟩)).2.2.2;omega
  ·rw [Qhf j];simp
 ·by_cases j:i<(jnS A B).l.length
  ·obtain⟨a,b,_⟩:=Qnx h.vd.w h'.vd.w _ (Qa1.2 ⟨i,j,rfl⟩);exact⟨wfI (by omega) (by omega),wfI (by omega) (by omega)⟩
  ·exact Qmg j
 ·have:=Qhe (Qnz h.vd h'.vd).1;rw [QcB,QiE] at this;rw [QcB];exact this
noncomputable def prS (f:Nat ->Int)(n k x:Nat)(A B:Sx):Sx×Sx:=
 if k%8=7 then(A,spS f n x B) else if k%8=6 then(spS f n x A,B) else if k%4=1 then(A,jnS A B) else if k%32=2 then(wdS (397+k/32) 0 false,wdS 600 1 true) else(A,B)
theorem QnI {f:Nat ->Int}(hf:Byt f){n k x:Nat}{A B:Sx}(hk:k<256)(h:Dr A)(h':Dr B):Gd (prS f n k x A B).1/\ Gd (prS f n k x A B).2:=by
 unfold prS;repeat' split
 ·exact⟨h.gd,Ql5 h' (Qjv hf _ _)⟩
 ·exact⟨Ql5 h (Qjv hf _ _),h'.gd⟩
 ·exact⟨h.gd,Qo6 h h'⟩
 ·exact⟨QlJ (by omega) (by omega),QlJ (by omega) (by omega)⟩
 ·exact⟨h.gd,h'.gd⟩
structure PrS (w wx:World)(B rb:Nat)(f:Nat ->Int)(n x b5:Nat)(X Y:Sx)(a1 x1 a2 x2:Option Addr)(c1 d1 c2 d2:Nat):Prop where
 r1:Bx2 wx w.heap.size (.slice none 0 0) (.slice none 0 0)
 r2:Bx2 wx (w.heap.size+1) (.slice none 0 0) (.slice none 0 0)
 p1:Bx2 wx b5 (.slice a1 X.l.length c1) (.slice x1 X.n d1)
 p2:Bx2 wx (b5+1) (.slice a2 Y.l.length c2) (.slice x2 Y.n d2)
 s1:SNc wx (w.heap.size+2) a1 c1 x1 X
 s2:SNc wx (w.heap.size+2) a2 c2 x2 Y
 rd:RdJ wx B rb f n x
 gr:w.grownBy wx (some rb)
 z:B<=w.heap.size
 hb:w.heap.size+2<=b5
 hr:rb<w.heap.size
section
variable {w wx w1 : World} {B rb n x b5 : Nat} {f : Nat -> Int} {X Y : Sx} {a1 x1 a2 x2 : Option Addr} {c1 d1 c2 d2 : Nat}
theorem PrS.gro (h:PrS w wx B rb f n x b5 X Y a1 x1 a2 x2 c1 d1 c2 d2){x':Nat}(hg:wx.grownBy w1 (some rb))(hr:RdJ w1 B rb f n x'):PrS w w1 B rb f n x' b5 X Y a1 x1 a2 x2 c1 d1 c2 d2:=by
 have j:=h.hr;have k:=h.hb;exact⟨h.r1.grw hg (by omega),h.r2.grw hg (by omega),h.p1.grw hg (by omega),h.p2.grw hg (by omega),h.s1.gr hg (by omega),h.s2.gr hg (by omega),hr,QaP h.gr hg,h.z,h.hb,h.hr⟩
theorem PrS.below (h:PrS w wx B rb f n x b5 X Y a1 x1 a2 x2 c1 d1 c2 d2)(hb:Below wx.heap.size wx w1):PrS w w1 B rb f n x b5 X Y a1 x1 a2 x2 c1 d1 c2 d2:=
 h.gro ⟨hb.os,hb.tape,hb.output,hb.size,fun k hk _=>hb.block k hk⟩ (h.rd.below (hb.mono (by have:=h.z;have:=h.r2.lt;omega)))
theorem PrS.fin (h:PrS w wx B rb f n x b5 X Y a1 x1 a2 x2 c1 d1 c2 d2){y1 z1 y2 z2:Option Addr}{S1 S2:Sx}{e1 e3:Nat}(t1:SNc wx (w.heap.size+2) y1 e1 z1 S1)(t2:SNc wx (w.heap.size+2) y2 e3 z2 S2)(_e1 e2 _e3 e4:Nat):
  let U:=(wx.setCell ⟨w.heap.size,0,none⟩ (.slice y1 S1.l.length e1)).setCell ⟨w.heap.size,1,none⟩ (.slice z1 S1.n e2)
  let V:=(U.setCell ⟨w.heap.size+1,0,none⟩ (.slice y2 S2.l.length e3)).setCell ⟨w.heap.size+1,1,none⟩ (.slice z2 S2.n e4)
  (Bx2 U (w.heap.size+1) (.slice none 0 0) (.slice none 0 0)/\ Bx2 U b5 (.slice a1 X.l.length c1) (.slice x1 X.n d1)/\ Bx2 U (b5+1) (.slice a2 Y.l.length c2) (.slice x2 Y.n d2))/\ (Bx2 V b5 (.slice a1 X.l.length c1) (.slice x1 X.n d1)/\ Bx2 V (b5+1) (.slice a2 Y.l.length c2) (.slice x2 Y.n d2))/\
  Bx2 V w.heap.size (.slice y1 S1.l.length e1) (.slice z1 S1.n e2)/\ Bx2 V (w.heap.size+1) (.slice y2 S2.l.length e3) (.slice z2 S2.n e4)/\ SNc V w.heap.size y1 e1 z1 S1/\ SNc V w.heap.size y2 e3 z2 S2/\ w.grownBy V (some rb):=by
 intro U V;have j:=h.hb;obtain⟨k,m,q⟩:=QlD h.r1 h.r2 (by omega) (.slice y1 S1.l.length e1) (.slice z1 S1.n e2) (.slice y2 S2.l.length e3) (.slice z2 S2.n e4);have f:∀{W:World} {b r:Nat} {u0 u1:Value},Bx2 W b u0 u1 ->r≠b ->∀v0 v1,Bx2 ((W.setCell ⟨r,0,none⟩ v0).setCell ⟨r,1,none⟩ v1) b u0 u1:=fun hh hne v0 v1=>(hh.setAt _ _ hne).setAt _ _ hne;exact⟨⟨k,f h.p1 (by omega) _ _,f h.p2 (by omega) _ _⟩,⟨f (f h.p1 (by omega) _ _) (by omega) _ _,f (f h.p2 (by omega) _ _) (by omega) _ _⟩,m,q,QgH t1 (by omega) (by omega) (by omega) _ _ _ _,QgH t2 (by omega) (by omega) (by omega) _ _ _ _,Qar h.gr (Qel (Below.refl w.heap.size wx) zL (Nat.le_succ _) _ _ _ _) zL⟩
end
def PrQ (S1 S2:Sx)(w:World)(rb:Nat)(e:Ending)(w':World):Prop:=∃a1 c1 x1 d1 a2 c2 x2 d2,e=.returned (.tuple #[.agg #[.slice a1 S1.l.length c1,.slice x1 S1.n d1],.agg #[.slice a2 S2.l.length c2,.slice x2 S2.n d2]])/\ SNc w' w.heap.size a1 c1 x1 S1/\ SNc w' w.heap.size a2 c2 x2 S2/\ w.grownBy w' (some rb)
theorem Qmv (a x a' x':Option Addr)(c d c' d':Nat)(S S':Sx)(w:World){lo lo':Nat}(h:Vd S)(h':Vd S')(hs:SNc w lo a c x S)(hs':SNc w lo' a' c' x' S'):
  Calls Tryz.prog 22 #[.agg #[.slice a S.l.length c,.slice x S.n d],.agg #[.slice a' S'.l.length c',.slice x' S'.n d']] w fun e w'=>∃a5 c5 x5 d5,e=.returned (.agg #[.slice a5 (jnS S S').l.length c5,.slice x5 (jnS S S').n d5])/\ SNc w' w.heap.size a5 c5 x5 (jnS S S')/\ Below w.heap.size w w':=by
 have o:=Qam.1 h.1;have j:=Qam.1 h'.1;refine(Qja a a' c c' S.l S'.l x S.n d S.R S.F S.T x' S'.n d' S'.R S'.F S'.T w o.2 j.2 o.1 j.1 h.2.1 h'.2.1 (QdP h) (QdP h') hs.at.1 hs'.at.1 hs.at.2 hs'.at.2).mono ?_;rintro e w1 ⟨⟨g,k,r,u,P,Q,rfl,q,m⟩,b⟩;exact⟨_,k,r,u,rfl,Qnw q m,b⟩
def PrP (f:Nat ->Int)(n x:Nat)(S1 S2:Sx):Prop:=(Gd S1/\ Gd S2)/\∀(B rb:Nat) (w:World),B<=w.heap.size ->RdJ w B rb f n x ->
  Calls Tryz.prog 9 #[.pointer (some ⟨rb,0,none⟩)] w fun e w'=>PrQ S1 S2 w rb e w'
theorem QoF (f:Nat ->Int)(hf:Byt f)(n x:Nat):∃S1 S2,PrP f n x S1 S2:=by
 obtain⟨X,Y,M,hd⟩:=Qo0 f n (rx n x);obtain⟨k,hk⟩:∃k,rk f n x=k:=⟨_,rfl⟩;have Hf:k<256:=by rw [<- hk];exact Qjv hf n x
 obtain⟨R,hR⟩:∃R,prS f n k M X Y=R:=⟨_,rfl⟩;refine⟨R.1,R.2,by rw [<- hR];exact QnI hf Hf hd.1.1 hd.1.2,fun B rb w hB hrd=> ?_⟩;obtain⟨W,hW⟩:∃W,(w.alloc (.cells #[.slice none 0 0,.slice none 0 0] 28)).alloc (.cells #[.slice none 0 0,.slice none 0 0] 28)=W:=⟨_,rfl⟩;have b0:Below w.heap.size w W:=by rw [<- hW];exact Qak _ _ _
 have A0:Bx2 W w.heap.size (.slice none 0 0) (.slice none 0 0):=by rw [<- hW];exact(Bx2.made w _ _ _).allocs _
 have R0:Bx2 W (w.heap.size+1) (.slice none 0 0) (.slice none 0 0):=by rw [<- hW];simpa using Bx2.made (w.alloc (.cells #[.slice none 0 0,.slice none 0 0] 28)) (.slice none 0 0) (.slice none 0 0) 28
 have Hc:Hid (rb<w.heap.size):=hid (by have:=hrd.lt;omega);have HN:=hid (QaN B rb f n x W (hrd.below (b0.mono hB)));rw [hk] at HN;have HR:=hid hR;have HD:=hid hd;have Hl:=hid A0;have Hg:=hid R0;have Hb:=hid b0;clear b0 A0 R0 hk hR hd hrd;go_enter Tryz.func9,Tryz.ntmps9;go_wp2_with fail;try rw [hW]
 clear hW;refine HN.mono ?_;rintro e w1 ⟨rfl,r1,I⟩;have Hw:w.heap.size+2<=W.heap.size:=Hg.lt;have Hj:Hid (W.heap.size<=w1.heap.size):=hid I.size;have Ho:Hid (w.grownBy w1 (some rb)):=hid ⟨I.os.trans Hb.os,I.tape.trans Hb.tape,I.output.trans Hb.output,Nat.le_trans Hb.size I.size,fun q hq hne=>(I.block q (by omega) hne).trans (Hb.block q hq)⟩;have Hm:=hid (Hl.grw I (by have:=Hc.out;omega));have Hq:=hid (Hg.grw I (by have:=Hc.out;omega));have Hn:=hid (HD.2 B rb w1 (by have:=Hj.out;omega) r1);clear I r1 HN Hl Hg Hb;go_wp2_with fail;refine Hn.mono ?_;rintro e w2 ⟨A,j,E,t,O,b,Z,p,rfl,s1,s2,r2,g2⟩;obtain⟨W3,He⟩:∃W3,(w2.alloc (.cells #[.slice A X.l.length j,.slice E X.n t] 28)).alloc (.cells #[.slice O Y.l.length b,.slice Z Y.n p] 28)=W3:=⟨_,rfl⟩;have b3:Below w2.heap.size w2 W3:=by rw [<- He];exact Qak _ _ _
 have r:Hid (PrS w W3 B rb f n M w2.heap.size X Y A E O Z j t b p):=hid (by
  have z1:=Hj.out;have z2:=g2.size;have z3:=Hc.out;have A2:=Hm.grw g2 (by omega);have R2:=Hq.grw g2 (by omega);refine⟨A2.below b3 A2.lt,R2.below b3 R2.lt,?_,?_,(s1.below b3).move (by omega) zL (fun _ _ _=>rfl),(s2.below b3).move (by omega) zL (fun _ _ _=>rfl),r2.below (b3.mono (by omega)),Qar (QaP Ho.out g2) b3 (by omega),hB,by omega,z3⟩
  ·rw [<- He];exact(Bx2.made w2 _ _ _).allocs _
  ·rw [<- He];simpa using Bx2.made (w2.alloc (.cells #[.slice A X.l.length j,.slice E X.n t] 28)) (.slice O Y.l.length b) (.slice Z Y.n p) 28)
 obtain⟨h,Hk⟩:∃h,w2.heap.size=h:=⟨_,rfl⟩;rw [Hk] at r;have p0:=r.p1.c0;have z:=r.p1.c1;have q0:=r.p2.c0;have q1:=r.p2.c1;clear s1 s2 r2 g2 b3 Hn Hm Hq Ho Hj;go_upto_if 16 with fail;try rw [He]
 try rw [Hk]
 clear He Hk;by_cases h7:k%8=7
 ·
  have e7:((k:Int)%8==7)=true:=by rw [beq_iff_eq];omega
  have G:Hid (R=(X,spS f n M Y)):=hid (by rw [<- HR.out];unfold prS;rw [if_pos h7]);go_wp2_with fail;refine zR (S:=fun w'=>w'.cell? ⟨h,0,none⟩=some (.slice A X.l.length j)/\ w'.cell? ⟨h,1,none⟩=some (.slice E X.n t)/\ w'.cell? ⟨h+1,0,none⟩=some (.slice O Y.l.length b)/\ w'.cell? ⟨h+1,1,none⟩=some (.slice Z Y.n p)) ⟨(r.below zI.drew).p1.c0,(r.below zI.drew).p1.c1,(r.below zI.drew).p2.c0,(r.below zI.drew).p2.c1⟩ (fun qh=> ?_);clear p0 z q0 q1;refine tZ 0 17 ?_;refine tZ 1 18 ?_;refine tZ 2 19 ?_;refine cZ 3 ?_;intro K y;go_simp;refine(QhB B rb (w.heap.size+2) f n M O Z b p Y _ (r.below zI.drew).rd (by have:=r.r2.lt;simp;omega) HD.1.2 (r.below zI.drew).s2 (by have:=Hc.out;omega)).mono ?_;rintro e w5 ⟨Q,g,V,U,rfl,s5,r5,g5⟩;have u:=hid ((r.below zI.drew).gro g5 r5);have Ha:SNc w5 (w.heap.size+2) Q g V (spS f n M Y):=s5.move (by have:=r.r2.lt;simp;omega) zL (fun _ _ _=>rfl);have P:=u.r1.c0;have T:=u.r1.c1;have Xf:=u.r1.f;have m:=u.fin u.s1 Ha j t g U;refine y.out _ _ ⟨u.p1.c0,u.p1.c1,u.p2.c0,u.p2.c1⟩ (fun qh=> ?_);clear y K;try simp only [zP]
  refine cZ 4 ?_;intro K y;go_simp;have Y0:=m.1.1.c0;have Y1:=m.1.1.c1;have Yf:=m.1.1.f;refine y.out _ _ ⟨m.1.2.1.c0,m.1.2.1.c1,m.1.2.2.c0,m.1.2.2.c1⟩ (fun qh=> ?_);clear y K;try simp only [zP]
  refine cZ 5 ?_;intro K y;go_simp;refine y.out _ _ ⟨m.2.1.1.c0,m.2.1.1.c1,m.2.1.2.c0,m.2.1.2.c1⟩ (fun qh=> ?_);clear y K;try simp only [zP]
  refine zD ?_;have H:=hid m.2.2;clear m qh P T Xf Y0 Y1 Yf;go_wp2_with fail;obtain⟨o,i,D,F,s⟩:=H.out;have J:=o.c0;have L:=o.c1;have N:=i.c0;have C:=i.c1;refine zF (v:=.tuple #[.agg #[.slice A X.l.length j,.slice E X.n t],.agg #[.slice Q (spS f n M Y).l.length g,.slice V (spS f n M Y).n U]]) (by simp [results,Tryz.results9,go_sem,J,L,N,C]) ?_;rw [G.out];exact⟨_,_,_,_,_,_,_,_,rfl,D,F,s⟩
 ·have e7:((k:Int)%8==7)=false:=by rw [beq_eq_false_iff_ne];omega
  by_cases h6:k%8=6
  ·
   have e6:((k:Int)%8==6)=true:=by rw [beq_iff_eq];omega
   have G:Hid (R=(spS f n M X,Y)):=hid (by rw [<- HR.out];unfold prS;rw [if_neg h7,if_pos h6]);go_wp2_with fail;refine zR (S:=fun w'=>w'.cell? ⟨h,0,none⟩=some (.slice A X.l.length j)/\ w'.cell? ⟨h,1,none⟩=some (.slice E X.n t)/\ w'.cell? ⟨h+1,0,none⟩=some (.slice O Y.l.length b)/\ w'.cell? ⟨h+1,1,none⟩=some (.slice Z Y.n p)) ⟨(r.below zI.drew).p1.c0,(r.below zI.drew).p1.c1,(r.below zI.drew).p2.c0,(r.below zI.drew).p2.c1⟩ (fun qh=> ?_);clear p0 z q0 q1;refine tZ 0 24 ?_;refine tZ 1 25 ?_;refine tZ 3 27 ?_;refine cZ 2 ?_;intro K y;go_simp;refine(QhB B rb (w.heap.size+2) f n M A E j t X _ (r.below zI.drew).rd (by have:=r.r2.lt;simp;omega) HD.1.1 (r.below zI.drew).s1 (by have:=Hc.out;omega)).mono ?_;rintro e w5 ⟨Q,g,V,U,rfl,s5,r5,g5⟩;have u:=hid ((r.below zI.drew).gro g5 r5);have Ha:SNc w5 (w.heap.size+2) Q g V (spS f n M X):=s5.move (by have:=r.r2.lt;simp;omega) zL (fun _ _ _=>rfl);have P:=u.r1.c0;have T:=u.r1.c1;have Xf:=u.r1.f;have m:=u.fin Ha u.s2 g U b p;refine y.out _ _ ⟨u.p1.c0,u.p1.c1,u.p2.c0,u.p2.c1⟩ (fun qh=> ?_);clear y K;try simp only [zP]
   refine cZ 4 ?_;intro K y;go_simp;have Y0:=m.1.1.c0;have Y1:=m.1.1.c1;have Yf:=m.1.1.f;refine y.out _ _ ⟨m.1.2.1.c0,m.1.2.1.c1,m.1.2.2.c0,m.1.2.2.c1⟩ (fun qh=> ?_);clear y K;try simp only [zP]
   refine cZ 5 ?_;intro K y;go_simp;refine y.out _ _ ⟨m.2.1.1.c0,m.2.1.1.c1,m.2.1.2.c0,m.2.1.2.c1⟩ (fun qh=> ?_);clear y K;try simp only [zP]
   refine zD ?_;have H:=hid m.2.2;clear m qh P T Xf Y0 Y1 Yf;go_wp2_with fail;obtain⟨o,i,D,F,s⟩:=H.out;have J:=o.c0;have L:=o.c1;have N:=i.c0;have C:=i.c1;refine zF (v:=.tuple #[.agg #[.slice Q (spS f n M X).l.length g,.slice V (spS f n M X).n U],.agg #[.slice O Y.l.length b,.slice Z Y.n p]]) (by simp [results,Tryz.results9,go_sem,J,L,N,C]) ?_;rw [G.out];exact⟨_,_,_,_,_,_,_,_,rfl,D,F,s⟩
  ·have e6:((k:Int)%8==6)=false:=by rw [beq_eq_false_iff_ne];omega
   by_cases h4:k%4=1
   ·
    have e4:((k:Int)%4==1)=true:=by rw [beq_iff_eq];omega
    have G:Hid (R=(X,jnS X Y)):=hid (by rw [<- HR.out];unfold prS;rw [if_neg h7,if_neg h6,if_pos h4]);go_wp2_with fail;refine zR (S:=fun w'=>w'.cell? ⟨h,0,none⟩=some (.slice A X.l.length j)/\ w'.cell? ⟨h,1,none⟩=some (.slice E X.n t)/\ w'.cell? ⟨h+1,0,none⟩=some (.slice O Y.l.length b)/\ w'.cell? ⟨h+1,1,none⟩=some (.slice Z Y.n p)) ⟨(r.below zI.drew).p1.c0,(r.below zI.drew).p1.c1,(r.below zI.drew).p2.c0,(r.below zI.drew).p2.c1⟩ (fun qh=> ?_);clear p0 z q0 q1;refine tZ 0 31 ?_;refine tZ 1 32 ?_;refine tZ 2 33 ?_;refine cZ 3 ?_;intro K y;go_simp;refine(Qmv A E O Z j t b p X Y _ HD.1.1.vd HD.1.2.vd (r.below zI.drew).s1 (r.below zI.drew).s2).mono ?_;rintro e w5 ⟨Q,g,V,U,rfl,s5,Hd⟩;have u:=hid ((r.below zI.drew).below Hd);have Ha:SNc w5 (w.heap.size+2) Q g V (jnS X Y):=s5.move (by have:=r.r2.lt;simp;omega) zL (fun _ _ _=>rfl);have P:=u.r1.c0;have T:=u.r1.c1;have Xf:=u.r1.f;have m:=u.fin u.s1 Ha j t g U;refine y.out _ _ ⟨u.p1.c0,u.p1.c1,u.p2.c0,u.p2.c1⟩ (fun qh=> ?_);clear y K;try simp only [zP]
    refine cZ 4 ?_;intro K y;go_simp;have Y0:=m.1.1.c0;have Y1:=m.1.1.c1;have Yf:=m.1.1.f;refine y.out _ _ ⟨m.1.2.1.c0,m.1.2.1.c1,m.1.2.2.c0,m.1.2.2.c1⟩ (fun qh=> ?_);clear y K;try simp only [zP]
    refine cZ 5 ?_;intro K y;go_simp;refine y.out _ _ ⟨m.2.1.1.c0,m.2.1.1.c1,m.2.1.2.c0,m.2.1.2.c1⟩ (fun qh=> ?_);clear y K;try simp only [zP]
    refine zD ?_;have H:=hid m.2.2;clear m qh P T Xf Y0 Y1 Yf;go_wp2_with fail;obtain⟨o,i,D,F,s⟩:=H.out;have J:=o.c0;have L:=o.c1;have N:=i.c0;have C:=i.c1;refine zF (v:=.tuple #[.agg #[.slice A X.l.length j,.slice E X.n t],.agg #[.slice Q (jnS X Y).l.length g,.slice V (jnS X Y).n U]]) (by simp [results,Tryz.results9,go_sem,J,L,N,C]) ?_;rw [G.out];exact⟨_,_,_,_,_,_,_,_,rfl,D,F,s⟩
   ·have e4:((k:Int)%4==1)=false:=by rw [beq_eq_false_iff_ne];omega
    by_cases h2:k%32=2
    ·
     have e2:((k:Int)%32==2)=true:=by rw [beq_iff_eq];omega
     have G:Hid (R=(wdS (397+k/32) 0 false,wdS 600 1 true)):=hid (by rw [<- HR.out];unfold prS;rw [if_neg h7,if_neg h6,if_neg h4,if_pos h2]);obtain⟨nw,Hs⟩:∃nw,397+k/32=nw:=⟨_,rfl⟩;rw [Hs] at G;have en:IntKind.i64.wrap (397+(k:Int)/32)=(nw:Int):=by rw [show 397+(k:Int)/32=(nw:Int) by omega];exact Qau _ (by omega) (by omega)
     have Hh:=hid (Qoi nw 0 false (by omega) (by omega) W3);have Hi:=hid (Qoi 600 1 true (by omega) (by omega));simp only [Bool.false_eq_true,if_false] at Hh;simp only [if_true] at Hi;clear Hs;go_wp2_with fail;refine Hh.mono ?_;rintro e w4 ⟨a3,c3,x3,d3,rfl,s3,b3⟩;have Hp:=hid (r.below b3);have Hu:=r.r2.lt;have Hr:=hid (Hi w4);have Ht:Hid (SNc w4 (w.heap.size+2) a3 c3 x3 (wdS nw 0 false)):=hid (s3.move (by omega) zL (fun _ _ _=>rfl));clear s3 b3 Hh Hi p0 z q0 q1;go_wp2_with fail;refine Hr.mono ?_;rintro e w5 ⟨Q,g,V,U,rfl,s5,Hd⟩;have u:=hid (Hp.below Hd);have Hv:=Hp.r2.lt;have Ha:SNc w5 (w.heap.size+2) Q g V (wdS 600 1 true):=s5.move (by omega) zL (fun _ _ _=>rfl);have m:=u.fin (Ht.below Hd) Ha c3 d3 g U;have P:=u.r1.c0;have T:=u.r1.c1;have Xf:=u.r1.f;have Y0:=m.1.1.c0;have Y1:=m.1.1.c1;have Yf:=m.1.1.f;have H:=hid m.2.2;clear m s5 Ha Hd Hr;go_wp2_with fail;obtain⟨o,i,D,F,s⟩:=H.out;have J:=o.c0;have L:=o.c1;have N:=i.c0;have C:=i.c1;refine zF (v:=.tuple #[.agg #[.slice a3 (wdS nw 0 false).l.length c3,.slice x3 (wdS nw 0 false).n d3],.agg #[.slice Q (wdS 600 1 true).l.length g,.slice V (wdS 600 1 true).n U]]) (by simp [results,Tryz.results9,go_sem,J,L,N,C]) ?_;rw [G.out];exact⟨_,_,_,_,_,_,_,_,rfl,D,F,s⟩
    ·have e2:((k:Int)%32==2)=false:=by rw [beq_eq_false_iff_ne];omega
     have G:Hid (R=(X,Y)):=hid (by rw [<- HR.out];unfold prS;rw [if_neg h7,if_neg h6,if_neg h4,if_neg h2]);go_wp2_with fail;refine zR (S:=fun w'=>w'.cell? ⟨h,0,none⟩=some (.slice A X.l.length j)/\ w'.cell? ⟨h,1,none⟩=some (.slice E X.n t)/\ w'.cell? ⟨h+1,0,none⟩=some (.slice O Y.l.length b)/\ w'.cell? ⟨h+1,1,none⟩=some (.slice Z Y.n p)) ⟨(r.below zI.drew).p1.c0,(r.below zI.drew).p1.c1,(r.below zI.drew).p2.c0,(r.below zI.drew).p2.c1⟩ (fun qh=> ?_);clear p0 z q0 q1;refine tZ 0 43 ?_;refine tZ 1 44 ?_;have P:=r.r1.c0;have T:=r.r1.c1;have Xf:=r.r1.f;have m:=r.fin r.s1 r.s2 j t b p;refine cZ 2 ?_;intro K y;go_simp;have Y0:=m.1.1.c0;have Y1:=m.1.1.c1;have Yf:=m.1.1.f;refine y.out _ _ ⟨m.1.2.1.c0,m.1.2.1.c1,m.1.2.2.c0,m.1.2.2.c1⟩ (fun qh=> ?_);clear y K;try simp only [zP]
     refine cZ 3 ?_;intro K y;go_simp;refine y.out _ _ ⟨m.2.1.1.c0,m.2.1.1.c1,m.2.1.2.c0,m.2.1.2.c1⟩ (fun qh=> ?_);clear y K;try simp only [zP]
     refine zD ?_;have H:=hid m.2.2;clear m qh P T Xf Y0 Y1 Yf;go_wp2_with fail;obtain⟨o,i,D,F,s⟩:=H.out;have J:=o.c0;have L:=o.c1;have N:=i.c0;have C:=i.c1;refine zF (v:=.tuple #[.agg #[.slice A X.l.length j,.slice E X.n t],.agg #[.slice O Y.l.length b,.slice Z Y.n p]]) (by simp [results,Tryz.results9,go_sem,J,L,N,C]) ?_;rw [G.out];exact⟨_,_,_,_,_,_,_,_,rfl,D.below zI.drew,F.below zI.drew,⟨s.os,s.tape,s.output,s.size,s.block⟩⟩
def DjP (f:Nat ->Int)(n:Nat)(S1 S2:Sx):Prop:=(Gd S1/\ Gd S2)/\∀(a:Option Addr) (c:Nat) (w:World),n<=c ->Seg w a n f ->
  Calls Tryz.prog 4 #[.slice a n c] w fun e w'=>∃a1 c1 x1 d1 a2 c2 x2 d2,e=.returned (.tuple #[.agg #[.slice a1 S1.l.length c1,.slice x1 S1.n d1],.agg #[.slice a2 S2.l.length c2,.slice x2 S2.n d2]])/\ SNc w' w.heap.size a1 c1 x1 S1/\ SNc w' w.heap.size a2 c2 x2 S2/\ Below w.heap.size w w'
theorem Qi7 (f:Nat ->Int)(hf:Byt f)(n:Nat)(hn:n<=9223372036854775807):∃k m,DjP f n k m:=by
 obtain⟨k,m,M⟩:=QoF f hf (min n 1000) 0;refine⟨k,m,M.1,fun a c w hc hs=> ?_⟩;obtain⟨W,y⟩:∃W,(w.alloc (.cells #[.slice none 0 0,.slice none 0 0] 28)).alloc (.cells #[.slice none 0 0,.slice none 0 0] 28)=W:=⟨_,rfl⟩;have p:Below w.heap.size w W:=by rw [<- y];exact Qak _ _ _
 have U:Bx2 W w.heap.size (.slice none 0 0) (.slice none 0 0):=by rw [<- y];exact(Bx2.made w _ _ _).allocs _
 have I:Bx2 W (w.heap.size+1) (.slice none 0 0) (.slice none 0 0):=by rw [<- y];simpa using Bx2.made (w.alloc (.cells #[.slice none 0 0,.slice none 0 0] 28)) (.slice none 0 0) (.slice none 0 0) 28
 have G:=hid (QmD a n c f W hc hn (hs.below p) hf);have H:=hid M.2;have V:=hid U;have t:=hid I;have Y:=hid p;clear p U I hs M;go_enter Tryz.func4,Tryz.ntmps4;go_wp2_with fail;try rw [y]
 clear y;refine G.mono ?_;rintro e w1 ⟨rfl,r1,K⟩;have Ha:w.heap.size+2<=W.heap.size:=t.lt;have Z:=hid (H _ _ w1 (by have:=r1.lt.1;omega) r1);have z:=hid K;clear r1 K G H;go_wp2_with fail;refine Z.mono ?_;rintro e w2 ⟨o,r,O,A,i,s,Q,E,rfl,B,C,j⟩;have Hb:=z.size;have L:Below w.heap.size w w2:=by
  have b:=Y.trans (z.mono Y.size);refine⟨j.os.trans b.os,j.tape.trans b.tape,j.output.trans b.output,Nat.le_trans b.size j.size,fun q hq=> ?_⟩;exact(j.block q (by omega) (fun e=>by injection e with e;omega)).trans (b.block q hq)
 have u:=(V.below z.out V.lt).grw j (by omega);have J:=(t.below z.out t.lt).grw j (by omega);obtain⟨g,N,X⟩:=QlD u J (by omega) (.slice o k.l.length r) (.slice O k.n A) (.slice i m.l.length s) (.slice Q m.n E);have X0:=u.c0;have X1:=u.c1;have Xf:=u.f;have Y0:=g.c0;have Y1:=g.c1;have Yf:=g.f;have h:=hid (And.intro N X);have F:=hid B;have P:=hid C;have D:=hid L;have R:Hid (w.heap.size+2<=w1.heap.size):=hid (by omega);clear B C j L u J g N X Z;go_wp2_with fail;have S:=h.1.c0;have T:=h.1.c1;have k2:=h.2.c0;have k3:=h.2.c1;have z2:=R.out;refine zF (v:=.tuple #[.agg #[.slice o k.l.length r,.slice O k.n A],.agg #[.slice i m.l.length s,.slice Q m.n E]]) (by simp [results,Tryz.results4,go_sem,S,T,k2,k3]) ?_;exact⟨o,r,O,A,i,s,Q,E,rfl,QgH F.out (by omega) (by omega) (by omega) _ _ _ _,QgH P.out (by omega) (by omega) (by omega) _ _ _ _,Qel D.out zL (Nat.le_succ _) _ _ _ _⟩
theorem Qd1 (B:Nat)(bv:Value)(zs0:List Int)(s:ByteArray)(w:World)(hs:s.size<=1048576)(hB:B<=w.heap.size)(hl:zs0.length<=1000000000)(ho:Own w B bv zs0):
  Calls Tryz.prog 36 #[bv,.string s] w fun e w'=>∃v,e=.returned v/\ Own w' B v (zs0++Qae s)/\ Gr w w' bv v/\ w.heap.size<w'.heap.size:=by
 have p:=Qai 9 s.size;go_enter Tryz.func36,Tryz.ntmps36;go_wp2_with fail;refine(QaS B s.size bv zs0 w (by omega) hB (by omega) ho).mono ?_;rintro e w1 ⟨o,rfl,q,k,i⟩;obtain⟨u,y,m,r,j⟩:=Qoa B o _ s w1 q (by omega) (by rw [List.length_append];omega) hs;have R:Own y B u (zs0++Qae s):=by unfold Qae;rw [<- List.append_assoc];exact r
 have h:=hid R;have z:=hid (k.trans j);have b:=j.g.size;have t:Hid (w.heap.size<y.heap.size):=hid (by omega);clear q r k j R i b ho;go_wp2_with (at_builtin;refine Qaa rfl _ _ _ _ rfl m (by rfl) (by rfl) rfl ?_;clear m);go_ret;exact⟨u,rfl,h.out,z.out,t.out⟩
theorem Qnf {w:World}{B g m cap:Nat}{ts:List Dt}(h:w.ownsRow B 67 2 (.slice (some ⟨g,0,none⟩) m cap) m (Ds.kRow ts))(hl:ts.length=m):∀i,i<m ->∃d,ts[i]? =some d/\ w.cell? ⟨g,i*2,none⟩=some (.int .i64 d.1)/\ w.cell? ⟨g,i*2+1,none⟩=some (.int .i64 d.2):=by
 rcases h.2 with ⟨y,_⟩|⟨o,t,k,z,A,u,b,p,s,r⟩
 ·cases y
 ·cases z;intro i E;have v:i<ts.length:=by omega
  have q:ts.toArray[i]! =ts[i]:=by rw [getElem!_pos _ _ (by simpa using v)];simp
  refine⟨ts[i],by simp [v],?_,?_⟩
  ·have j:(k.toList.take (m*2))[i*2]? =(Ds.kRow ts)[i*2]? :=by rw [r]
   rw [List.getElem?_take_of_lt (by omega),Ds.kRow_get ts (i*2) (by omega)] at j;rw [show i*2/2=i by omega,show i*2%2=0 by omega,q] at j;simp [World.cell?,u,<- Array.getElem?_toList,j,Ds.kCells]
  ·have j:(k.toList.take (m*2))[i*2+1]? =(Ds.kRow ts)[i*2+1]? :=by rw [r]
   rw [List.getElem?_take_of_lt (by omega),Ds.kRow_get ts (i*2+1) (by omega)] at j;rw [show (i*2+1)/2=i by omega,show (i*2+1)%2=1 by omega,q] at j;simp [World.cell?,u,<- Array.getElem?_toList,j,Ds.kCells]
theorem Qph {w:World}{B:Nat}{v:Value}{ts:List Dt}(h:w.ownsRow B 67 2 v ts.length (Ds.kRow ts)):∃a cap,v=.slice a ts.length cap/\ ts.length<=cap/\ cap<=9223372036854775807/\ (0<ts.length ->∃g,a=some ⟨g,0,none⟩/\ B<=g/\ g<w.heap.size/\∀i,i<ts.length ->∃d,ts[i]? =some d/\ w.cell? ⟨g,i*2,none⟩=some (.int .i64 d.1)/\ w.cell? ⟨g,i*2+1,none⟩=some (.int .i64 d.2)):=by
 rcases h.2 with ⟨rfl,j⟩|⟨g,cap,u,rfl,r,q,k,m,y,z⟩
 ·exact⟨none,0,by rw [j],by omega,by omega,fun hh=>by omega⟩
 ·exact⟨_,cap,rfl,k,by unfold maxLen at m;omega,fun _=>⟨g,rfl,r,(Array.getElem?_eq_some_iff.1 q).1,Qnf h rfl⟩⟩
theorem Qf3 {R F T:Nat ->Int}{n:Nat}(l:List Lf)(p:List ByteArray)(y:Ky)(w0:World)(Bt c:Nat)(N:List Ky ->Option (Nat×Nat))(hT:Tre w0 Bt N (Mk l l.length) c)(hc:c<=1048576)(hlv:QbQ R F T n l l.length)(hbd:LvB l)(hy:y.2=1 \/y.2=2)(bv:Value)(zs0:List Int)(w:World)(hb:Below w0.heap.size w0 w)(ho:Own w w0.heap.size bv zs0)(hl:zs0.length<=100000000):
  Calls Tryz.prog 37 #[.agg #[.map (mF (N (Qac p 3++[y]))),.map (mS (N (Qac p 3++[y])))],bv,.int .i64 y.2] w fun e w'=>∃v,e=.returned v/\ Own w' w0.heap.size v (zs0++mB (dsK l p y l.length) y.2)/\ Gr w w' bv v:=by
 have Hr:y.2≠3:=by omega
 obtain⟨ls,Q⟩:∃ls,dsK l p y l.length=ls:=⟨_,rfl⟩;obtain⟨Y,hY⟩:∃Y,y.2=Y:=⟨_,rfl⟩;rw [Q,hY];rw [hY] at hy;clear hY;obtain⟨W,E⟩:∃W,w.alloc (.cells #[.map (mF (N (Qac p 3++[y]))),.map (mS (N (Qac p 3++[y])))] 45)=W:=⟨_,rfl⟩;have K:Below w.heap.size w W:=by rw [<- E];exact zO _ _
 have V:Bx2 W w.heap.size (.map (mF (N (Qac p 3++[y])))) (.map (mS (N (Qac p 3++[y])))):=by rw [<- E];exact Bx2.made _ _ _ _
 have zW:W.heap.size=w.heap.size+1:=by rw [<- E];simp
 have Hm:Below w0.heap.size w0 W:=hb.trans (K.mono hb.size);have Hh:=hid (Ds.sortedDotsC Bt c N (Mk l l.length) (Qac p 3++[y]) W (hT.below Hm) hc);obtain⟨m0,Hp⟩:∃u,mF (N (Qac p 3++[y]))=u:=⟨_,rfl⟩;obtain⟨m1,C⟩:∃u,mS (N (Qac p 3++[y]))=u:=⟨_,rfl⟩;rw [Hp,C] at V Hh E;rw [Hp,C];have k0:=V.c0;have k1:=V.c1;have HX:=hid V;have Gi:=hid K;have D:=hid Hm;have HO:=hid (Own.kept ho K (fun k O=>(World.ownsRow.lt ho k O).2));have HT:=hid hT;have Gp:=hid C;have J:Hid (∀g,bv.ownBlock=some g ->w0.heap.size<=g/\ g<w.heap.size):=hid (fun g hg=>World.ownsRow.lt ho g hg);clear V K Hm ho hT Hp C;go_enter Tryz.func37,Tryz.ntmps37;go_wp2_with fail;try rw [E]
 clear E;refine Hh.mono ?_;rintro e w1 ⟨vd,ts,rfl,Hd,He,Gv,Gc,A⟩;have B:=Qf8 hlv Hr Hd He;have S:Hid (∀x∈ls,(0<=x.r/\ x.r<8)/\ (0<=x.q/\ x.q<=1000000000)/\ x.v.size<=200):=hid (fun x hx=>by
  rw [<- Q] at hx;obtain⟨j,hj,_,rfl⟩:=Qbc.1 hx;exact⟨hbd.rep j hj,hbd.seq j hj,hbd.val j hj⟩)
 have Gm:Hid (∀x∈ls,∀w',Below w0.heap.size w0 w' ->(Instr.lookup 43 (.map m1) (.agg #[.int .i64 x.r,.int .i64 x.q]) false).run Tryz.prog w'=.ok (.agg #[.string x.v]) w'):=hid (fun x hx w' hb'=>by
  have hv:=QfI Hr hbd.dis (by rw [Q];exact hx);have T':=HT.below hb';have hl:=S x hx;cases e:N (Qac p 3++[y]) with
  | none=>rw [T'.none' _ e] at hv;cases hv
  | some x1=>
   have hu:m1=some x1.2:=by rw [<- Gp.out,e];rfl
   obtain⟨kl,Gt⟩:=Qd5 (r:=x.r) (q:=x.q) (wfI (by omega) (by omega)) (wfI (by omega) (by omega));have:=(T'.marks _ x1 e).look QaD Tryz.underlying43 (QhI w') (x:=(x.r,x.q)) Gt;rw [hv] at this;rw [hu];exact this)
 have Gu:ls.length<=1000:=by rw [<- Q];have:=Qgl l p y l.length;have:=hbd.len;omega
 rw [Q] at B;have Gd:ts.length=ls.length:=by rw [B];simp
 obtain⟨da,dc,rfl,Hn,Gs,H8⟩:=Qph Gc;have HD:Hid (0<ls.length ->∃g,da=some ⟨g,0,none⟩/\ W.heap.size<=g/\ g<w1.heap.size/\∀i,i<ls.length ->∃x∈ls,ls[i]? =some x/\ w1.cell? ⟨g,i*2,none⟩=some (.int .i64 x.r)/\ w1.cell? ⟨g,i*2+1,none⟩=some (.int .i64 x.q)):=hid (fun h0=>by
  obtain⟨g,e1,e2,e3,e4⟩:=H8 (by omega);refine⟨g,e1,e2,e3,fun i hi=> ?_⟩;obtain⟨d,f1,f2,f3⟩:=e4 i (by omega);rw [B] at f1;simp only [List.getElem?_map,Option.map_eq_some_iff] at f1;obtain⟨x,f4,f5⟩:=f1;subst f5;exact⟨x,List.mem_of_getElem? f4,f4,f2,f3⟩)
 rw [Gd] at Hn ⊢;have X1:=HX.below A HX.lt;have H0:=hid X1;have Gn:=hid (Own.kept HO.out A (fun k O=>by have:=(J k O).2;omega));have Hs:=hid (D.trans (A.mono D.size));have Hf:=hid (Qab Gi.out A);have x0:IntKind.u64.wrap ((ls.length:Nat):Int)=(ls.length:Int):=Qfs _ (by omega) (by omega);have Gy:=A.size;have U:Hid (w0.heap.size<=w1.heap.size/\ w.heap.size<w1.heap.size/\ w0.heap.size<=w.heap.size):=hid ⟨Hs.size,by omega,hb.size⟩;clear k0 k1 Gc Hd He Gv H8 B Gd A Hh X1 HX HO D Gy Q Hr;go_wp2_with fail;refine(QaS w0.heap.size ls.length bv zs0 w1 (by omega) U.1 (by omega) Gn.out).mono ?_;rintro e w2 ⟨v2,rfl,o2,g2,z2⟩;have Hw:=hid o2;have Ht:=hid g2;have H1:=hid z2;clear o2 g2 z2 x0;go_wp2_with fail;go_loopw [1,19] (fun b' i wr=>∃(k:Nat),k<=ls.length/\ i=.int .i64 k/\ Hid (Own wr w0.heap.size b' (zs0++(uvF 9 ls.length++(ls.take k).flatMap (lfB Y))))/\ Hid (Gr w1 wr bv b')/\ Hid (w1.heap.size<=wr.heap.size)) (fun _ i _=>ls.length - (intOf i).toNat);case atStart=>exact⟨0,Nat.zero_le _,rfl,hid (by simpa using Hw.out),Ht,hid (Nat.le_of_lt H1.out)⟩
 case round=>
  clear Hw Ht H1;obtain⟨k,O,rfl,I,s,H3⟩:=hrel;by_cases Ho:k<ls.length
  ·obtain⟨g,rfl,Gz,G0,Ga⟩:=HD (by omega);obtain⟨x,Hq,Ge,H6,H7⟩:=Ga k Ho;have Hc:some g≠bv.ownBlock:=fun e=>by have:=(J g e.symm).2;omega
   have Ha:some w.heap.size≠bv.ownBlock:=fun e=>by have:=(J _ e.symm).2;omega
   have t:=s.g.cell H6 Hc;have c2:=s.g.cell H7 Hc;have n1:=s.g.cell H0.c1 Ha;have Gw:=S x Hq;have Hi:Hid ((ls.take (k+1)).flatMap (lfB Y)=(ls.take k).flatMap (lfB Y)++lfB Y x):=hid (by rw [List.take_add_one,Ge];simp);have Hk:Hid ((zs0++(uvF 9 ls.length++(ls.take k).flatMap (lfB Y))).length<=100000000+10+230000):=hid (by
    have h1:=(Qai 9 ls.length).1;have h2:=Qck (lfB Y) (fun _=>1) 230 (ls.take k) (fun z hz=>by
     have a1:=(Qai 9 z.r.toNat).1;have a2:=(Qai 9 z.q.toNat).1;have a3:=QaI z.v;have a4:=(S z (List.mem_of_mem_take hz)).2.2;unfold lfB;simp only [List.length_append];split
     ·omega
     ·simp;omega)
    have h3:∀ls:List Lf,(ls.map fun _=>1).sum=ls.length:=fun ls=>by
     induction ls with
     | nil=>rfl
     | cons a r ih=>simp only [List.map_cons,List.sum_cons,ih,List.length_cons];omega
    rw [h3,List.length_take] at h2;simp only [List.length_append];omega)
   have P:Hid (∀w',Below w0.heap.size w0 w' ->(Instr.lookup 43 (.map m1) (.agg #[.int .i64 x.r,.int .i64 x.q]) false).run Tryz.prog w'=.ok (.agg #[.string x.v]) w'):=hid (fun w' h=>Gm.out x Hq w' h);obtain⟨xp,xf,xr,xq,Z⟩:=x;dsimp only at t c2 Gw P Hi;obtain⟨r,rfl⟩:∃r:Nat,xr=(r:Int):=⟨xr.toNat,by omega⟩;obtain⟨q,rfl⟩:∃q:Nat,xq=(q:Int):=⟨xq.toNat,by omega⟩;have Hz:Hid (lfB Y ⟨xp,xf,(r:Int),(q:Int),Z⟩=uvF 9 r++(uvF 9 q++if Y=1 then Qae Z else [])):=hid (by simp [lfB]);have x3:IntKind.u64.wrap (r:Int)=(r:Int):=Qfs _ (by omega) (by omega);have x4:IntKind.u64.wrap (q:Int)=(q:Int):=Qfs _ (by omega) (by omega);obtain⟨m,M⟩:∃m,wr.alloc (.cells #[.int .i64 (r:Int),.int .i64 (q:Int)] 67)=m:=⟨_,rfl⟩;have G:Bx2 m wr.heap.size (.int .i64 (r:Int)) (.int .i64 (q:Int)):=by rw [<- M];exact Bx2.made _ _ _ _
   have H4:Below wr.heap.size wr m:=by rw [<- M];exact zO _ _
   have Gl:Hid (Gr w1 m bv u1):=by rw [<- M];exact hid (s.alloc _)
   have Go:Hid (Own m w0.heap.size u1 (zs0++(uvF 9 ls.length++(ls.take k).flatMap (lfB Y)))):=by rw [<- M];exact hid (World.ownsRow.alloc I.out _)
   have Hb:Hid (some wr.heap.size≠u1.ownBlock):=hid (fun e=>by have:=(World.ownsRow.lt I.out _ e.symm).2;omega);have q0:=G.c0;have q1:=G.c1;have H:=hid G;have Gj:=hid Ha;have Hl:Hid (w1.heap.size<=m.heap.size):=hid (by have:=H4.size;have:=H3.out;omega);clear G H4 H6 H7 Ga Hq Ge Ha Hc I s H3;go_wp2_with fail;try rw [M]
   clear M;refine(QaS w0.heap.size r u1 _ m (by omega) (by have:=U.1;have:=Hl.out;omega) (by have:=Hk.out;omega) Go.out).mono ?_;rintro e w3 ⟨v3,rfl,o3,g3,z3⟩;have Gx:=g3.g.cell H.c1 Hb.out;have Hx:=hid o3;have Hu:=hid g3;have H2:=hid z3;have l3:=(Qai 9 r).1;clear o3 g3 z3 q0 q1 t c2 n1 x3;go_wp2_with fail;refine(QaS w0.heap.size q v3 _ w3 (by omega) (by have:=U.1;have:=Hl.out;have:=H2.out;omega) (by have:=Hk.out;rw [List.length_append];omega) Hx.out).mono ?_;rintro e o ⟨v5,rfl,o5,g5,z5⟩;have X:=Hu.trans g5;have Gg:=X.g.cell H.c0 Hb.out;have Gh:=X.g.cell H.c1 Hb.out;have L:=Gl.trans X;have Gf:=L.g.cell H0.c1 Gj.out;have H5:Below w0.heap.size w0 o:=Hs.trans (L.below U.1 (fun k O=>(J k O).1));have Gb:=P o H5;have H9:(Instr.field 82 (.agg #[.string Z]) 0).run Tryz.prog o=.ok (.string Z) o:=by kernel_rfl
   have Hy:=hid o5;have Hv:=hid L;have Hj:Hid (w1.heap.size<=o.heap.size):=hid (by have:=Hl.out;have:=H2.out;omega);have l5:=(Qai 9 q).1;clear o5 g5 z5 Gx X L x4 H5 P Hu Hx H;rcases hy with rfl|rfl
   ·go_wp2_with fail;refine(Qd1 w0.heap.size v5 _ Z o (by omega) (by have:=U.1;have:=Hj.out;omega) (by have:=Hk.out;simp only [List.length_append] at*;omega) Hy.out).mono ?_;rintro e w6 ⟨v6,rfl,o6,g6,z6⟩;have Hg:Hid (Own w6 w0.heap.size v6 (zs0++(uvF 9 ls.length++(ls.take (k+1)).flatMap (lfB 1)))):=hid (by rw [Hi.out,Hz.out];simpa using o6);have Gk:=hid (Hv.trans g6);have Gq:Hid (w1.heap.size<=w6.heap.size):=hid (by have:=Hj.out;omega);clear o6 g6 z6 Gb H9 Gg Gh Gf;go_wp2_with fail;go_roundw;case rel=>exact⟨k+1,Ho,by go_num,Hg,Gk,Gq⟩
    case measure=>simp [intOf];omega
   ·have Hg:Hid (Own o w0.heap.size v5 (zs0++(uvF 9 ls.length++(ls.take (k+1)).flatMap (lfB 2)))):=hid (by rw [Hi.out,Hz.out];simpa using Hy.out);clear Gb H9 Gg Gh Gf;go_wp2_with fail;go_roundw;case rel=>exact⟨k+1,Ho,by go_num,Hg,Hv,Hj⟩
    case measure=>simp [intOf];omega
  ·obtain rfl:k=ls.length:=by omega
   have HF:Hid (zs0++(uvF 9 ls.length++(ls.take ls.length).flatMap (lfB Y))=zs0++mB ls Y):=hid (by rw [List.take_length];rfl);go_wp2_with fail;go_ret;refine⟨_,rfl,by rw [<- HF.out];exact I.out,?_⟩;exact(Gr.of_below (b:=bv) Hf.out).trans s.out
end Go.Proofs.YtdeolligikjieaaGreatDoor
