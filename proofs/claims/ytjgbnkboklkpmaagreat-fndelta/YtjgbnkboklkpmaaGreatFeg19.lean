import Derived.Test.YtjgbnkboklkpmaaGreatFeg10
import Derived.Test.YtjgbnkboklkpmaaGreatFeg07
import Derived.Test.YtjgbnkboklkpmaaGreatFeg04
import Derived.Test.YtjgbnkboklkpmaaGreatFeg05
import Derived.Test.YtjgbnkboklkpmaaGreatFeg17
import Derived.Deep.QuietTactic
import Derived.BigQuiet
import Derived.Test.YtjgbnkboklkpmaaGreatFeg08
set_option linter.unusedVariables false
set_option linter.unusedSimpArgs false
set_option maxRecDepth 100000
set_option maxHeartbeats 40000000
namespace Go.Proofs.YtjgbnkboklkpmaaGreat
open Go.ChangeShapes Go.WideShapes Go.ChangeAt Go.RowKit
open Go.Maps Go.Sort
theorem lf_eq {x y:Lf}:x=y↔cmpL x y=0/\ x.v=y.v:=by
 rw [cmpL_z];constructor
 ·rintro rfl;exact⟨rfl,rfl⟩
 ·rintro⟨h1,h2⟩;obtain⟨e1,e2,e3,e4⟩:=lfK_way h1;obtain⟨x1,x2,x3,x4,x5⟩:=x;obtain⟨y1,y2,y3,y4,y5⟩:=y;dsimp only at e1 e2 e3 e4 h2;subst e1;subst e2;subst e3;subst e4;subst h2;rfl
theorem gL_all {l m:List Lf}(hl:l.length=m.length)(h:∀i,i<l.length ->gL l i=gL m i):l=m:=by
 refine List.ext_getElem hl fun i h1 h2=> ?_;have:=h i h1;simpa [gL,List.getD,h1,h2] using this
theorem sameLeafC (a a':Option Addr)(c c':Nat)(p p':List ByteArray)(fl fl':Bool)(r q r' q':Int)(v v':ByteArray)(w:World)(hn:p.length<=1048576)(hn':p'.length<=1048576)(h:SSeg w a p)(h':SSeg w a' p'):
  Calls Tryz.prog 85 #[.agg #[.slice a p.length c,.bool fl,.int .i64 r,.int .i64 q,.string v],.agg #[.slice a' p'.length c',.bool fl',.int .i64 r',.int .i64 q',.string v']] w fun e w'=>e=.returned (.bool (yes ((⟨p,fl,r,q,v⟩:Lf)=⟨p',fl',r',q',v'⟩)))/\ Below w.heap.size w w':=by
 obtain⟨W,hW⟩:∃W,(w.alloc (.cells #[.slice a p.length c,.bool fl,.int .i64 r,.int .i64 q,.string v] 56)).alloc (.cells #[.slice a' p'.length c',.bool fl',.int .i64 r',.int .i64 q',.string v'] 56)=W:=⟨_,rfl⟩;have b0:Below w.heap.size w W:=by rw [<- hW];exact below2 _ _ _
 have X0:Bx5 W w.heap.size (.slice a p.length c) (.bool fl) (.int .i64 r) (.int .i64 q) (.string v):=by rw [<- hW];exact(Bx5.new _ _ _ _ _ _ _).up _
 have Y0:Bx5 W (w.heap.size+1) (.slice a' p'.length c') (.bool fl') (.int .i64 r') (.int .i64 q') (.string v'):=by
  rw [<- hW];simpa using Bx5.new (w.alloc (.cells #[.slice a p.length c,.bool fl,.int .i64 r,.int .i64 q,.string v] 56)) (.slice a' p'.length c') (.bool fl') (.int .i64 r') (.int .i64 q') (.string v') 56
 have HS:=hid (compareLeaves a a' c c' p p' fl fl' r q r' q' v v' W hn hn' (h.below b0) (h'.below b0));have Hc:=hid b0;have HX:=hid X0;have HY:=hid Y0;have k0:=X0.c0;have k1:=X0.c1;have k2:=X0.c2;have k3:=X0.c3;have k4:=X0.c4;have l0:=Y0.c0;have l1:=Y0.c1;have l2:=Y0.c2;have l3:=Y0.c3;have l4:=Y0.c4;have HE:Hid (yes ((⟨p,fl,r,q,v⟩:Lf)=⟨p',fl',r',q',v'⟩)=true↔cmpL ⟨p,fl,r,q,v⟩ ⟨p',fl',r',q',v'⟩=0/\ v=v'):=hid (by
  rw [<- show ((⟨p,fl,r,q,v⟩:Lf)=⟨p',fl',r',q',v'⟩↔cmpL ⟨p,fl,r,q,v⟩ ⟨p',fl',r',q',v'⟩=0/\ v=v') from lf_eq];exact⟨fun e=>Classical.byContradiction (fun hn=>by rw [yes_f hn] at e;cases e),fun e=>yes_t e⟩)
 obtain⟨B,hB⟩:∃B,yes ((⟨p,fl,r,q,v⟩:Lf)=⟨p',fl',r',q',v'⟩)=B:=⟨_,rfl⟩;obtain⟨x,hx⟩:∃x,cmpL ⟨p,fl,r,q,v⟩ ⟨p',fl',r',q',v'⟩=x:=⟨_,rfl⟩;rw [hB,hx] at HE;rw [hx] at HS;rw [hB];clear b0 h h' hB hx X0 Y0;go_enter Tryz.func85,Tryz.ntmps85;go_wp2_with fail;try rw [hW]
 clear hW;refine HS.out.mono ?_;rintro e w1 ⟨rfl,b1⟩;have Hb:=hid (keepS Hc.out b1);have m4:=(HX.out.below b1 HX.out.lt).c4;have n4:=(HY.out.below b1 HY.out.lt).c4;have Ha:¬(x=0/\ v=v') ->Hid (B=false):=fun hn=>hid (by
  cases hb:B with
  | false=>rfl
  | true=>exact absurd (HE.out.1 hb) hn)
 clear b1 k0 k1 k2 k3 k4 l0 l1 l2 l3 l4 HS Hc;by_cases h0:x=0
 ·have e0:(x==0)=true:=by simp [h0]
  by_cases h3:v=v'
  ·have e3:(v.toList==v'.toList)=true:=by simp [h3]
   have HG:Hid (B=true):=hid (HE.out.2 ⟨h0,h3⟩);clear HE Ha h0 h3;go_wp2_with fail;go_ret;exact⟨ret_b HG.out.symm,Hb.out⟩
  ·have e3:(v.toList==v'.toList)=false:=by simpa using fun h=>h3 (toList_inj h)
   have HG:=Ha (fun h=>h3 h.2);clear HE Ha h0 h3;go_wp2_with fail;go_ret;exact⟨ret_b HG.out.symm,Hb.out⟩
 ·have e0:(x==0)=false:=by simpa using h0
  have HG:=Ha (fun h=>h0 h.1);clear HE Ha h0;go_wp2_with fail;go_ret;exact⟨ret_b HG.out.symm,Hb.out⟩
theorem eqFuncX (a a':Option Addr)(c c':Nat)(l l':List Lf)(w:World)(hl:l.length<=1048576)(hl':l'.length<=1048576)(hp:LBd l)(hp':LBd l')(h:LSeg w a l)(h':LSeg w a' l'):
  Calls Tryz.prog 84 #[.slice a l.length c,.slice a' l'.length c',.func (.func 85) #[] #[]] w fun e w'=>e=.returned (.bool (yes (l=l')))/\ Below w.heap.size w w':=by
 obtain⟨B,hB⟩:∃B,yes (l=l')=B:=⟨_,rfl⟩;have Hg:=hid hB;rw [hB];clear hB;by_cases He:l.length=l'.length
 ·obtain⟨n,Hh⟩:∃n,l.length=n:=⟨_,rfl⟩;have Hi:l'.length=n:=by omega
  rw [Hh,Hi];have Hy:n<=1048576:=by omega
  have d0:((n:Int) !=(n:Int))=false:=by simp
  have Hb:=hid (And.intro Hh Hi);have HL:=hid h;have Ht:=hid h';have HP:=hid hp;have Hv:=hid hp';clear h h' hp hp' He Hh Hi hl hl';go_enter Tryz.func84,Tryz.ntmps84;go_wp2_with fail;go_loopw [17] (fun i wr=>∃j:Nat,j<=n/\ i=.int .i64 j/\ Hid (Below w.heap.size w wr)/\ Hid (∀t,t<j ->gL l t=gL l' t)) (fun i _=>n - (intOf i).toNat);case atStart=>exact⟨0,Nat.zero_le _,rfl,hid zI,hid (fun t ht=>by omega)⟩
  case round=>
   obtain⟨j,hj,rfl,HB,HN⟩:=hrel;by_cases Hx:j<n
   ·have i1:(0:Int)<=(j:Int):=Int.natCast_nonneg _;have i2:(j:Int)<(n:Int):=by omega
    obtain⟨b,Hz,rfl,hb,Hr⟩:=(HL.out.below HB.out).resolve_left (by have:=Hb.out;omega);obtain⟨pa,pc,c0,sg,c1,c2,c3,c4⟩:=Hr j (by have:=Hb.out;omega);obtain⟨b',Ha,rfl,Hw,Hd⟩:=(Ht.out.below HB.out).resolve_left (by have:=Hb.out;omega);obtain⟨Hl,Hm,e0,Hs,e1,e2,e3,e4⟩:=Hd j (by have:=Hb.out;omega);have Hc:=hid (fun w1 (b1:Below wr.heap.size wr w1)=>sameLeafC pa Hl pc Hm (gL l j).p (gL l' j).p (gL l j).fl (gL l' j).fl (gL l j).r (gL l j).q (gL l' j).r (gL l' j).q (gL l j).v (gL l' j).v w1 (HP.out j) (Hv.out j) (sg.below b1) (Hs.below b1));obtain⟨y,hy⟩:∃y,gL l j=y:=⟨_,rfl⟩;obtain⟨z,hz⟩:∃z,gL l' j=z:=⟨_,rfl⟩;rw [hy] at c0 c1 c2 c3 c4;rw [hz] at e0 e1 e2 e3 e4;rw [hy,hz] at Hc;have Hf:=hid (And.intro hy hz);obtain⟨yp,yf,yr,yq,yv⟩:=y;obtain⟨zp,zf,zr,zq,zv⟩:=z;dsimp only at c0 c1 c2 c3 c4 e0 e1 e2 e3 e4 Hc;obtain⟨C,hC⟩:∃C,yes ((⟨yp,yf,yr,yq,yv⟩:Lf)=⟨zp,zf,zr,zq,zv⟩)=C:=⟨_,rfl⟩;have Hp:=hid hC;rw [hC] at Hc;obtain⟨w1,Hj⟩:∃w1,wr.alloc (.cells #[.slice pa yp.length pc,.bool yf,.int .i64 yr,.int .i64 yq,.string yv] 56)=w1:=⟨_,rfl⟩;have b1:Below wr.heap.size wr w1:=by rw [<- Hj];exact zO _ _
    have Hq:Hid (Bx5 w1 wr.heap.size (.slice pa yp.length pc) (.bool yf) (.int .i64 yr) (.int .i64 yq) (.string yv)):=hid (by rw [<- Hj];exact Bx5.new _ _ _ _ _ _ _);have q:=fun o=>b1.cell (p:=⟨b',o,none⟩) Hw;have g0:=(q (Ha+j*5)).trans e0;have g1:=(q (Ha+j*5+1)).trans e1;have g2:=(q (Ha+j*5+2)).trans e2;have g3:=(q (Ha+j*5+3)).trans e3;have g4:=(q (Ha+j*5+4)).trans e4;obtain⟨w2,Hk⟩:∃w2,w1.alloc (.cells #[.slice Hl zp.length Hm,.bool zf,.int .i64 zr,.int .i64 zq,.string zv] 56)=w2:=⟨_,rfl⟩;have b2:Below w1.heap.size w1 w2:=by rw [<- Hk];exact zO _ _
    have X2:=Hq.out.below b2 Hq.out.lt;have Y2:Bx5 w2 w1.heap.size (.slice Hl zp.length Hm) (.bool zf) (.int .i64 zr) (.int .i64 zq) (.string zv):=by rw [<- Hk];exact Bx5.new _ _ _ _ _ _ _
    have Hn:=hid (keepS b1 b2);have x0:=X2.c0;have x1:=X2.c1;have x2:=X2.c2;have x3:=X2.c3;have x4:=X2.c4;have y0:=Y2.c0;have y1:=Y2.c1;have y2:=Y2.c2;have y3:=Y2.c3;have y4:=Y2.c4;clear hy hz hC Hr Hd sg Hs q e0 e1 e2 e3 e4 b1 b2 X2 Y2;go_wp2_with fail;refine(Hc.out w2 Hn.out).mono ?_;rintro e w3 ⟨rfl,b3⟩;have Ho:=hid (HB.out.trans ((keepS Hn.out b3).mono HB.out.size));clear x0 x1 x2 x3 x4 y0 y1 y2 y3 y4 g0 g1 g2 g3 g4 c0 c1 c2 c3 c4 b3 Hc Hj Hk;cases C with
    | true=>
     have Hu:Hid (∀t,t<j+1 ->gL l t=gL l' t):=hid (fun t ht=>by
      by_cases e:t=j
      ·rw [e,Hf.out.1,Hf.out.2];exact Classical.byContradiction fun hn=>by have:=Hp.out;rw [yes_f hn] at this;cases this
      ·exact HN.out t (by omega))
     clear HN HB;go_wp2_with fail;go_roundw;case rel=>exact⟨j+1,Hx,by go_num,Ho,Hu⟩
     case measure=>simp [intOf];omega
    | false=>
     have HG:Hid (B=false):=hid (by
      rw [<- Hg.out];refine yes_f fun e=> ?_;have:=Hp.out;rw [yes_t (by rw [<- Hf.out.1,<- Hf.out.2,e])] at this;cases this)
     go_wp2_with fail;go_ret;exact⟨ret_b HG.out.symm,Ho.out⟩
   ·obtain rfl:j=n:=by omega
    have HG:Hid (B=true):=hid (by rw [<- Hg.out];exact yes_t (gL_all (by have:=Hb.out;omega) (fun i hi=>HN.out i (by have:=Hb.out;omega))));go_wp2_with fail;go_ret;exact⟨ret_b HG.out.symm,HB.out⟩
 ·have d0:((l.length:Int) !=(l'.length:Int))=true:=by simp;omega
  have HG:Hid (B=false):=hid (by rw [<- Hg.out];exact yes_f (fun e=>He (by rw [e])));go_enter Tryz.func84,Tryz.ntmps84;go_wp2_with fail;go_ret;exact⟨ret_b HG.out.symm,zI⟩
theorem jrunF:Tryz.prog.fieldsOf 84=match Tryz.prog.underlying 84 with|some (.struct fs)=>fs|_=>#[]:=rfl
theorem jrunStood:Tryz.prog.stoodInHeld 84=false:=by kernel_rfl
theorem neqRun (r f t r' f' t':Int)(w:World):(binOp .neq 84 (.agg #[.int .i64 r,.int .i64 f,.int .i64 t]) (.agg #[.int .i64 r',.int .i64 f',.int .i64 t'])).run Tryz.prog w=.ok (.bool (!(r==r' && (f==f' && t==t')))) w:=by
 rw [run_neq_struct,show (10000:Nat)=9999+1 from rfl,run_equalIn_agg _ _ _ _ _ (by kernel_rfl) jrunStood,jrunF,Tryz.underlying84];cases h1:(r==r')<;>cases h2:(f==f')<;>simp [Op.eqFields,go_sem,Tryz.underlying3,h1,h2];by_cases h3:t=t'<;>simp [h3]
def EqR (n:Nat)(R F T:Nat ->Int)(n':Nat)(R' F' T':Nat ->Int):Prop:=n=n'/\∀i,i<n ->R i=R' i/\ F i=F' i/\ T i=T' i
theorem eqRunsX (a a':Option Addr)(c c' n n':Nat)(R F T R' F' T':Nat ->Int)(w:World)(hl:n<=1048576)(hl':n'<=1048576)(h:RSeg w a n R F T)(h':RSeg w a' n' R' F' T'):
  Calls Tryz.prog 86 #[.slice a n c,.slice a' n' c'] w fun e w'=>e=.returned (.bool (yes (EqR n R F T n' R' F' T')))/\ Below w.heap.size w w':=by
 obtain⟨B,hB⟩:∃B,yes (EqR n R F T n' R' F' T')=B:=⟨_,rfl⟩;have Hf:=hid hB;rw [hB];clear hB;by_cases Ha:n=n'
 ·subst Ha;have d0:((n:Int) !=(n:Int))=false:=by simp
  have HL:=hid h;have Hg:=hid h';clear h h' hl';go_enter Tryz.func86,Tryz.ntmps86;go_wp2_with fail;go_loopw [13] (fun i wr=>∃j:Nat,j<=n/\ i=.int .i64 j/\ Hid (Below w.heap.size w wr)/\ Hid (∀t,t<j ->R t=R' t/\ F t=F' t/\ T t=T' t)) (fun i _=>n - (intOf i).toNat);case atStart=>exact⟨0,Nat.zero_le _,rfl,hid zI,hid (fun t ht=>by omega)⟩
  case round=>
   obtain⟨j,hj,rfl,HB,HN⟩:=hrel;by_cases Hc:j<n
   ·have i1:(0:Int)<=(j:Int):=Int.natCast_nonneg _;have i2:(j:Int)<(n:Int):=by omega
    obtain⟨b,o,rfl,hb,c0,c1,c2⟩:=(HL.out.below HB.out).at Hc;obtain⟨b',o',rfl,Hi,e0,e1,e2⟩:=(Hg.out.below HB.out).at Hc;obtain⟨r,hr⟩:∃x,R j=x:=⟨_,rfl⟩;obtain⟨f,hf⟩:∃x,F j=x:=⟨_,rfl⟩;obtain⟨t,ht⟩:∃x,T j=x:=⟨_,rfl⟩;obtain⟨r',Hd⟩:∃x,R' j=x:=⟨_,rfl⟩;obtain⟨f',Hb⟩:∃x,F' j=x:=⟨_,rfl⟩;obtain⟨t',He⟩:∃x,T' j=x:=⟨_,rfl⟩;rw [hr] at c0;rw [hf] at c1;rw [ht] at c2;rw [Hd] at e0;rw [Hb] at e1;rw [He] at e2;have HV:=hid (And.intro (And.intro hr (And.intro hf ht)) (And.intro Hd (And.intro Hb He)));have NQ:∀w:World,(binOp .neq 84 (.agg #[.int .i64 r,.int .i64 f,.int .i64 t]) (.agg #[.int .i64 r',.int .i64 f',.int .i64 t'])).run Tryz.prog w=.ok (.bool (!(r==r' && (f==f' && t==t')))) w:=fun w=>neqRun r f t r' f' t' w;by_cases he:r=r'/\ f=f'/\ t=t'
    ·have q1:(!(r==r' && (f==f' && t==t')))=false:=by simp [he.1,he.2.1,he.2.2]
     rw [q1] at NQ;have Hh:Hid (∀u,u<j+1 ->R u=R' u/\ F u=F' u/\ T u=T' u):=hid (fun u hu=>by
      by_cases e:u=j
      ·have h1:=HV.out;rw [e,h1.1.1,h1.1.2.1,h1.1.2.2,h1.2.1,h1.2.2.1,h1.2.2.2];exact he
      ·exact HN.out u (by omega))
     clear he q1 hr hf ht Hd Hb He;go_wp2_with fail;go_region;go_wp2_with fail;go_roundw;case rel=>exact⟨j+1,Hc,by go_num,hid HB.out.drew,Hh⟩
     case measure=>simp [intOf];omega
    ·have q1:(!(r==r' && (f==f' && t==t')))=true:=by
      cases hb:(r==r' && (f==f' && t==t')) with
      | false=>rfl
      | true=>exact absurd (by simpa using hb) he
     rw [q1] at NQ;have HG:Hid (B=false):=hid (by
      rw [<- Hf.out];refine yes_f fun e=>he ?_;have h1:=HV.out;have h2:=e.2 j Hc;rw [h1.1.1,h1.1.2.1,h1.1.2.2,h1.2.1,h1.2.2.1,h1.2.2.2] at h2;exact h2)
     clear he q1 hr hf ht Hd Hb He;go_wp2_with fail;go_region;go_wp2_with fail;go_ret;exact⟨ret_b HG.out.symm,HB.out.drew⟩
   ·obtain rfl:j=n:=by omega
    have HG:Hid (B=true):=hid (by rw [<- Hf.out];exact yes_t ⟨rfl,HN.out⟩);go_wp2_with fail;go_ret;exact⟨ret_b HG.out.symm,HB.out⟩
 ·have d0:((n:Int) !=(n':Int))=true:=by simp;omega
  have HG:Hid (B=false):=hid (by rw [<- Hf.out];exact yes_f (fun e=>Ha e.1));go_enter Tryz.func86,Tryz.ntmps86;go_wp2_with fail;go_ret;exact⟨ret_b HG.out.symm,zI⟩
theorem sameStateX (a x a' x':Option Addr)(c d c' d':Nat)(A A':Sx)(w:World)(hm:A.Sm)(hm':A'.Sm)(h:SAt w a x A)(h':SAt w a' x' A'):
  Calls Tryz.prog 58 #[.agg #[.slice a A.l.length c,.slice x A.n d],.agg #[.slice a' A'.l.length c',.slice x' A'.n d']] w fun e w'=>e=.returned (.bool (yes (EqS A A')))/\ Below w.heap.size w w':=by
 obtain⟨W,hW⟩:∃W,(w.alloc (.cells #[.slice a A.l.length c,.slice x A.n d] 28)).alloc (.cells #[.slice a' A'.l.length c',.slice x' A'.n d'] 28)=W:=⟨_,rfl⟩;have b0:Below w.heap.size w W:=by rw [<- hW];exact below2 _ _ _
 have X0:Bx2 W w.heap.size (.slice a A.l.length c) (.slice x A.n d):=by rw [<- hW];exact(Bx2.made w _ _ _).allocs _
 have Y0:Bx2 W (w.heap.size+1) (.slice a' A'.l.length c') (.slice x' A'.n d'):=by rw [<- hW];simpa using Bx2.made (w.alloc (.cells #[.slice a A.l.length c,.slice x A.n d] 28)) (.slice a' A'.l.length c') (.slice x' A'.n d') 28
 have HL:=hid (eqFuncX a a' c c' A.l A'.l W hm.l1 hm'.l1 hm.p1 hm'.p1 (h.below b0).lf (h'.below b0).lf);have HR:=hid (fun w1 (b1:Below W.heap.size W w1)=>eqRunsX x x' d d' A.n A'.n A.R A.F A.T A'.R A'.F A'.T w1 hm.n1 hm'.n1 ((h.below b0).below b1).rn ((h'.below b0).below b1).rn);have Hd:=hid b0;have HX:=hid X0;have HY:=hid Y0;have k0:=X0.c0;have k1:=X0.c1;have l0:=Y0.c0;have l1:=Y0.c1;obtain⟨B,hB⟩:∃B,yes (EqS A A')=B:=⟨_,rfl⟩;obtain⟨B1,Ha⟩:∃B,yes (A.l=A'.l)=B:=⟨_,rfl⟩;obtain⟨B2,Hb⟩:∃B,yes (EqR A.n A.R A.F A.T A'.n A'.R A'.F A'.T)=B:=⟨_,rfl⟩;have HE:Hid (B=(B1 && B2)):=hid (by
  rw [<- hB,<- Ha,<- Hb];by_cases h1:A.l=A'.l
  ·by_cases h2:EqR A.n A.R A.F A.T A'.n A'.R A'.F A'.T
   ·rw [yes_t h1,yes_t h2,yes_t (show EqS A A' from⟨h1,h2⟩)];rfl
   ·rw [yes_t h1,yes_f h2,yes_f (fun e:EqS A A'=>h2 e.2)];rfl
  ·rw [yes_f h1,yes_f (fun e:EqS A A'=>h1 e.1)];rfl)
 rw [Ha] at HL;rw [Hb] at HR;rw [hB];clear b0 X0 Y0 h h' hB Ha Hb;go_enter Tryz.func58,Tryz.ntmps58;go_wp2_with fail;try rw [hW]
 clear hW;refine HL.out.mono ?_;rintro e w1 ⟨rfl,b1⟩;have Hc:=hid (keepS Hd.out b1);cases B1 with
 | false=>
  have HG:Hid (B=false):=hid HE.out;clear HE b1;go_wp2_with fail;go_ret;exact⟨ret_b HG.out.symm,Hc.out⟩
 | true=>
  have m1:=(HX.out.below b1 HX.out.lt).c1;have m3:=(HY.out.below b1 HY.out.lt).c1;have Hf:=hid (HR.out w1 b1);clear b1;go_wp2_with fail;refine Hf.out.mono ?_;rintro e w2 ⟨rfl,b2⟩;have He:=hid (keepS Hc.out b2);have HG:Hid (B=B2):=hid (by have:=HE.out;simpa using this);clear HE b2;go_wp2_with fail;go_ret;exact⟨ret_b HG.out.symm,He.out⟩
theorem l3EqualX (a x a' x':Option Addr)(c d c' d':Nat)(A A':Sx)(w:World)(hm:A.Sm)(hm':A'.Sm)(h:SCt w a x A)(h':SCt w a' x' A'):
  Calls Tryz.prog 32 #[.agg #[.slice a A.l.length c,.slice x A.n d],.agg #[.slice a' A'.l.length c',.slice x' A'.n d']] w fun e w'=>e=.returned (.bool (yes (EqS A A')))/\ Below w.heap.size w w':=by
 obtain⟨W,hW⟩:∃W,(w.alloc (.cells #[.slice a A.l.length c,.slice x A.n d] 28)).alloc (.cells #[.slice a' A'.l.length c',.slice x' A'.n d'] 28)=W:=⟨_,rfl⟩;have b0:Below w.heap.size w W:=by rw [<- hW];exact below2 _ _ _
 have X0:Bx2 W w.heap.size (.slice a A.l.length c) (.slice x A.n d):=by rw [<- hW];exact(Bx2.made w _ _ _).allocs _
 have Y0:Bx2 W (w.heap.size+1) (.slice a' A'.l.length c') (.slice x' A'.n d'):=by rw [<- hW];simpa using Bx2.made (w.alloc (.cells #[.slice a A.l.length c,.slice x A.n d] 28)) (.slice a' A'.l.length c') (.slice x' A'.n d') 28
 have HH:=hid (h.below b0);have Hr:=hid (h'.below b0);have Hi:=hid b0;have HX:=hid X0;have HY:=hid Y0;have k0:=X0.c0;have k1:=X0.c1;have l0:=Y0.c0;have l1:=Y0.c1;obtain⟨B,hB⟩:∃B,yes (EqS A A')=B:=⟨_,rfl⟩;have Hh:=hid hB;rw [hB];clear b0 X0 Y0 h h' hB;by_cases h1:A.l.length=A'.l.length;case neg=>
  have d1:((A.l.length:Int) !=(A'.l.length:Int))=true:=by simp;omega
  have HG:Hid (B=false):=hid (by rw [<- Hh.out];exact yes_f (fun e=>h1 (by rw [e.1])));clear h1 hm hm';go_enter Tryz.func32,Tryz.ntmps32;go_wp2_with fail;try rw [hW]
  go_ret;exact⟨ret_b HG.out.symm,Hi.out⟩
 by_cases h2:A.n=A'.n;case neg=>
  obtain⟨nl,Hf⟩:∃n,A.l.length=n:=⟨_,rfl⟩;have Hb:A'.l.length=nl:=by omega
  rw [Hf] at k0 hW;rw [Hb] at l0 hW;rw [Hf,Hb];have d1:((nl:Int) !=(nl:Int))=false:=by simp
  have d2:((A.n:Int) !=(A'.n:Int))=true:=by simp;omega
  have HG:Hid (B=false):=hid (by rw [<- Hh.out];exact yes_f (fun e=>h2 e.2.1));clear h1 h2 hm hm' Hf Hb HX HY HH Hr Hh;go_enter Tryz.func32,Tryz.ntmps32;go_wp2_with fail;try rw [hW]
  go_ret;exact⟨ret_b HG.out.symm,Hi.out⟩
 obtain⟨nl,Hf⟩:∃n,A.l.length=n:=⟨_,rfl⟩;have Hb:A'.l.length=nl:=by omega
 obtain⟨nr,Hn⟩:∃n,A.n=n:=⟨_,rfl⟩;have He:A'.n=nr:=by omega
 have Hd:=hid (And.intro (And.intro Hf Hb) (And.intro Hn He));rw [Hf] at k0 hW HX;rw [Hn] at k1 hW HX;rw [Hb] at l0 hW HY;rw [He] at l1 hW HY;rw [Hf,Hb,Hn,He];have z1:nl<=1048576:=by have:=hm.l1;omega
 have z2:nr<=1048576:=by have:=hm.n1;omega
 have d1:((nl:Int) !=(nl:Int))=false:=by simp
 have d2:((nr:Int) !=(nr:Int))=false:=by simp
 clear h1 h2 hm hm' Hf Hb Hn He;go_enter Tryz.func32,Tryz.ntmps32;go_wp2_with fail;try rw [hW]
 clear hW k0 k1 l0 l1;go_loopw [5] (fun i wr=>∃j:Nat,j<=nl/\ i=.int .i64 j/\ Hid (Below W.heap.size W wr)/\ Hid (∀t,t<j ->gL A.l t=gL A'.l t)) (fun i _=>nl - (intOf i).toNat);case atStart=>exact⟨0,Nat.zero_le _,rfl,hid zI,hid (fun t ht=>by omega)⟩
 case round=>
  obtain⟨j,hj,rfl,HB,HN⟩:=hrel;have X1:=HX.out.below HB.out HX.out.lt;have Y1:=HY.out.below HB.out HY.out.lt;have k0:=X1.c0;by_cases Hv:j<nl
  ·have i1:(0:Int)<=(j:Int):=Int.natCast_nonneg _;have i2:(j:Int)<(nl:Int):=by omega
   obtain⟨b,Hc,rfl,hb,H3⟩:=(HH.out.below HB.out).lf.resolve_left (by have:=Hd.out;omega);obtain⟨pa,pc,⟨c0,d0⟩,sg,c1,c2,c3,c4⟩:=H3 j (by have:=Hd.out;omega);obtain⟨b',Ha,rfl,H2,Hk⟩:=(Hr.out.below HB.out).lf.resolve_left (by have:=Hd.out;omega);obtain⟨Hw,Hx,⟨e0,Hu⟩,H4,e1,e2,e3,e4⟩:=Hk j (by have:=Hd.out;omega);have Hj:=hid (fun w1 (b1:Below wr.heap.size wr w1)=>l3SameC pa Hw pc Hx (gL A.l j).p (gL A'.l j).p (gL A.l j).fl (gL A'.l j).fl (gL A.l j).r (gL A.l j).q (gL A'.l j).r (gL A'.l j).q (gL A.l j).v (gL A'.l j).v w1 d0.1 Hu.1 d0.2 Hu.2 (sg.below b1) (H4.below b1));obtain⟨y,hy⟩:∃y,gL A.l j=y:=⟨_,rfl⟩;obtain⟨z,hz⟩:∃z,gL A'.l j=z:=⟨_,rfl⟩;rw [hy] at c0 c1 c2 c3 c4;rw [hz] at e0 e1 e2 e3 e4;rw [hy,hz] at Hj;have Hl:=hid (And.intro hy hz);obtain⟨yp,yf,yr,yq,yv⟩:=y;obtain⟨zp,zf,zr,zq,zv⟩:=z;dsimp only at c0 c1 c2 c3 c4 e0 e1 e2 e3 e4 Hj;obtain⟨C,hC⟩:∃C,yes ((⟨yp,yf,yr,yq,yv⟩:Lf)=⟨zp,zf,zr,zq,zv⟩)=C:=⟨_,rfl⟩;have Hz:=hid hC;rw [hC] at Hj;have Hq:Hid (∀w',Below wr.heap.size wr w' ->(w'.cell? ⟨w.heap.size,0,none⟩=some (.slice (some ⟨b,Hc,none⟩) nl c)/\ w'.cell? ⟨w.heap.size+1,0,none⟩=some (.slice (some ⟨b',Ha,none⟩) nl c')/\ w'.cell? ⟨b,Hc+j*5,none⟩=some (.slice pa yp.length pc)/\ w'.cell? ⟨b,Hc+j*5+1,none⟩=some (.bool yf)/\ w'.cell? ⟨b,Hc+j*5+2,none⟩=some (.int .i64 yr)/\ w'.cell? ⟨b,Hc+j*5+3,none⟩=some (.int .i64 yq)/\ w'.cell? ⟨b,Hc+j*5+4,none⟩=some (.string yv)/\ w'.cell? ⟨b',Ha+j*5,none⟩=some (.slice Hw zp.length Hx)/\ w'.cell? ⟨b',Ha+j*5+1,none⟩=some (.bool zf)/\ w'.cell? ⟨b',Ha+j*5+2,none⟩=some (.int .i64 zr)/\ w'.cell? ⟨b',Ha+j*5+3,none⟩=some (.int .i64 zq)/\ w'.cell? ⟨b',Ha+j*5+4,none⟩=some (.string zv))):=hid (fun w' b1=>by
    have q:=fun o=>b1.cell (p:=⟨b,o,none⟩) hb;have q':=fun o=>b1.cell (p:=⟨b',o,none⟩) H2;exact⟨(X1.below b1 X1.lt).c0,(Y1.below b1 Y1.lt).c0,(q _).trans c0,(q _).trans c1,(q _).trans c2,(q _).trans c3,(q _).trans c4,(q' _).trans e0,(q' _).trans e1,(q' _).trans e2,(q' _).trans e3,(q' _).trans e4⟩)
   clear hy hz hC H3 Hk sg H4 d0 Hu;go_wp2_with fail;refine zR (S:=fun w'=>w'.cell? ⟨w.heap.size,0,none⟩=some (.slice (some ⟨b,Hc,none⟩) nl c)/\ w'.cell? ⟨w.heap.size+1,0,none⟩=some (.slice (some ⟨b',Ha,none⟩) nl c')/\ w'.cell? ⟨b,Hc+j*5,none⟩=some (.slice pa yp.length pc)/\ w'.cell? ⟨b,Hc+j*5+1,none⟩=some (.bool yf)/\ w'.cell? ⟨b,Hc+j*5+2,none⟩=some (.int .i64 yr)/\ w'.cell? ⟨b,Hc+j*5+3,none⟩=some (.int .i64 yq)/\ w'.cell? ⟨b,Hc+j*5+4,none⟩=some (.string yv)/\ w'.cell? ⟨b',Ha+j*5,none⟩=some (.slice Hw zp.length Hx)/\ w'.cell? ⟨b',Ha+j*5+1,none⟩=some (.bool zf)/\ w'.cell? ⟨b',Ha+j*5+2,none⟩=some (.int .i64 zr)/\ w'.cell? ⟨b',Ha+j*5+3,none⟩=some (.int .i64 zq)/\ w'.cell? ⟨b',Ha+j*5+4,none⟩=some (.string zv)) (Hq.out _ zI.drew) (fun qh=> ?_);clear k0 X1 Y1 c0 c1 c2 c3 c4 e0 e1 e2 e3 e4;refine tZ 0 32 ?_;refine tZ 1 33 ?_;refine tZ 2 34 ?_;refine tZ 3 35 ?_;refine tZ 4 36 ?_;refine tZ 5 37 ?_;refine tZ 6 38 ?_;refine tZ 7 39 ?_;refine tZ 8 40 ?_;refine tZ 9 41 ?_;refine cZ 10 ?_;intro K hK;go_simp;refine(Hj.out _ zI.drew).mono ?_;rintro e w1 ⟨rfl,b1⟩;have Ht:Below wr.heap.size wr w1:=⟨b1.os,b1.tape,b1.output,b1.size,b1.block⟩;refine hK.out _ _ (Hq.out _ Ht) (fun qh=> ?_);clear hK K;try simp only [zP]
   refine tZ 11 43 ?_;refine zD ?_;have Hy:=hid (HB.out.trans (Ht.mono HB.out.size));clear qh b1 Ht Hq Hj;cases C with
   | true=>
    have Hs:Hid (∀t,t<j+1 ->gL A.l t=gL A'.l t):=hid (fun t ht=>by
     by_cases e:t=j
     ·rw [e,Hl.out.1,Hl.out.2];exact Classical.byContradiction fun hn=>by have:=Hz.out;rw [yes_f hn] at this;cases this
     ·exact HN.out t (by omega))
    clear HN HB;go_wp2_with fail;go_roundw;case rel=>exact⟨j+1,Hv,by go_num,Hy,Hs⟩
    case measure=>simp [intOf];omega
   | false=>
    have HG:Hid (B=false):=hid (by
     rw [<- Hh.out];refine yes_f fun e=> ?_;have:=Hz.out;rw [yes_t (by rw [<- Hl.out.1,<- Hl.out.2,e.1])] at this;cases this)
    go_wp2_with fail;go_ret;exact⟨ret_b HG.out.symm,keepS Hi.out Hy.out⟩
  ·obtain rfl:j=nl:=by omega
   have H5:Hid (A.l=A'.l):=hid (gL_all (by have:=Hd.out;omega) (fun i hi=>HN.out i (by have:=Hd.out;omega)));obtain⟨U,hU⟩:∃U,U=wr:=⟨_,rfl⟩;subst hU;have H0:=hid X1;have H1:=hid Y1;clear X1 Y1 HN;go_wp2_with fail;clear k0;go_loopw [6] (fun i wr=>∃k:Nat,k<=nr/\ i=.int .i64 k/\ Hid (Below U.heap.size U wr)/\ Hid (∀t,t<k ->A.R t=A'.R t/\ A.F t=A'.F t/\ A.T t=A'.T t)) (fun i _=>nr - (intOf i).toNat);case atStart=>exact⟨0,Nat.zero_le _,rfl,hid zI,hid (fun t ht=>by omega)⟩
   case round=>
    obtain⟨k,hk,rfl,Hg,HN⟩:=hrel;have X1:=H0.out.below Hg.out H0.out.lt;have Y1:=H1.out.below Hg.out H1.out.lt;have k1:=X1.c1;have l1:=Y1.c1;by_cases Hv:k<nr
    ·have i1:(0:Int)<=(k:Int):=Int.natCast_nonneg _;have i2:(k:Int)<(nr:Int):=by omega
     obtain⟨b,o,rfl,hb,c0,c1,c2⟩:=((HH.out.below HB.out).below Hg.out).rn.at (k:=k) (by have:=Hd.out;omega);obtain⟨b',o',rfl,H2,e0,e1,e2⟩:=((Hr.out.below HB.out).below Hg.out).rn.at (k:=k) (by have:=Hd.out;omega);obtain⟨r,hr⟩:∃y,A.R k=y:=⟨_,rfl⟩;obtain⟨f,hf⟩:∃y,A.F k=y:=⟨_,rfl⟩;obtain⟨t,ht⟩:∃y,A.T k=y:=⟨_,rfl⟩;obtain⟨r',Ho⟩:∃y,A'.R k=y:=⟨_,rfl⟩;obtain⟨f',Hm⟩:∃y,A'.F k=y:=⟨_,rfl⟩;obtain⟨t',Hp⟩:∃y,A'.T k=y:=⟨_,rfl⟩;rw [hr] at c0;rw [hf] at c1;rw [ht] at c2;rw [Ho] at e0;rw [Hm] at e1;rw [Hp] at e2;have HV:=hid (And.intro (And.intro hr (And.intro hf ht)) (And.intro Ho (And.intro Hm Hp)));have NQ:∀w:World,(binOp .neq 84 (.agg #[.int .i64 r,.int .i64 f,.int .i64 t]) (.agg #[.int .i64 r',.int .i64 f',.int .i64 t'])).run Tryz.prog w=.ok (.bool (!(r==r' && (f==f' && t==t')))) w:=fun w=>neqRun r f t r' f' t' w;by_cases he:r=r'/\ f=f'/\ t=t'
     ·have q1:(!(r==r' && (f==f' && t==t')))=false:=by simp [he.1,he.2.1,he.2.2]
      rw [q1] at NQ;have Hs:Hid (∀u,u<k+1 ->A.R u=A'.R u/\ A.F u=A'.F u/\ A.T u=A'.T u):=hid (fun u hu=>by
       by_cases e:u=k
       ·have h1:=HV.out;rw [e,h1.1.1,h1.1.2.1,h1.1.2.2,h1.2.1,h1.2.2.1,h1.2.2.2];exact he
       ·exact HN.out u (by omega))
      clear he q1 hr hf ht Ho Hm Hp X1 Y1;go_wp2_with fail;go_region;go_wp2_with fail;go_roundw;case rel=>exact⟨k+1,Hv,by go_num,hid Hg.out.drew,Hs⟩
      case measure=>simp [intOf];omega
     ·have q1:(!(r==r' && (f==f' && t==t')))=true:=by
       cases hb:(r==r' && (f==f' && t==t')) with
       | false=>rfl
       | true=>exact absurd (by simpa using hb) he
      rw [q1] at NQ;have HG:Hid (B=false):=hid (by
       rw [<- Hh.out];refine yes_f fun e=>he ?_;have h1:=HV.out;have h2:=e.2.2 k (by have:=Hd.out;omega);rw [h1.1.1,h1.1.2.1,h1.1.2.2,h1.2.1,h1.2.2.1,h1.2.2.2] at h2;exact h2)
      clear he q1 hr hf ht Ho Hm Hp X1 Y1;go_wp2_with fail;go_region;go_wp2_with fail;go_ret;exact⟨ret_b HG.out.symm,keepS Hi.out (keepS HB.out Hg.out.drew)⟩
    ·obtain rfl:k=nr:=by omega
     have HG:Hid (B=true):=hid (by rw [<- Hh.out];exact yes_t ⟨H5.out,by have:=Hd.out;omega,fun i hi=>HN.out i (by have:=Hd.out;omega)⟩);clear X1 Y1;go_wp2_with fail;go_ret;exact⟨ret_b HG.out.symm,keepS Hi.out (keepS HB.out Hg.out)⟩
theorem sameStC (a x a' x':Option Addr)(c d c' d':Nat)(A A':Sx)(w:World)(hm:A.Sm)(hm':A'.Sm)(h:SCt w a x A)(h':SCt w a' x' A'):
  Calls Tryz.prog 12 #[.agg #[.slice a A.l.length c,.slice x A.n d],.agg #[.slice a' A'.l.length c',.slice x' A'.n d']] w fun e w'=>e=.returned (.bool (yes (EqS A A')))/\ Below w.heap.size w w':=by
 obtain⟨W,hW⟩:∃W,(w.alloc (.cells #[.slice a A.l.length c,.slice x A.n d] 28)).alloc (.cells #[.slice a' A'.l.length c',.slice x' A'.n d'] 28)=W:=⟨_,rfl⟩;have b0:Below w.heap.size w W:=by rw [<- hW];exact below2 _ _ _
 have X0:Bx2 W w.heap.size (.slice a A.l.length c) (.slice x A.n d):=by rw [<- hW];exact(Bx2.made w _ _ _).allocs _
 have Y0:Bx2 W (w.heap.size+1) (.slice a' A'.l.length c') (.slice x' A'.n d'):=by rw [<- hW];simpa using Bx2.made (w.alloc (.cells #[.slice a A.l.length c,.slice x A.n d] 28)) (.slice a' A'.l.length c') (.slice x' A'.n d') 28
 have HE:=hid (l3EqualX a x a' x' c d c' d' A A' W hm hm' (h.below b0) (h'.below b0));have HB:=hid b0;obtain⟨E,hE⟩:∃E,yes (EqS A A')=E:=⟨_,rfl⟩;rw [hE] at HE ⊢;have k0:=X0.c0;have k1:=X0.c1;have l0:=Y0.c0;have l1:=Y0.c1;clear b0 X0 Y0 h h' hE;go_enter Tryz.func12,Tryz.ntmps12;go_wp2_with fail;try rw [hW]
 clear hW;refine HE.out.mono ?_;rintro e w1 ⟨rfl,b1⟩;have Ha:=hid (keepS HB.out b1);clear b1 k0 k1 l0 l1 HE;go_wp2_with fail;go_ret;exact⟨rfl,Ha.out⟩
end Go.Proofs.YtjgbnkboklkpmaaGreat
