import Derived.Test.YtpfmeafmepgimaaGreatFkg21
import Derived.Test.YtpfmeafmepgimaaGreatFkg15
import Derived.Test.YtpfmeafmepgimaaGreatFkg19
import Derived.Test.YtpfmeafmepgimaaGreatFkg14
import Derived.Test.YtpfmeafmepgimaaGreatFkg18
set_option linter.unusedVariables false
set_option linter.unusedSimpArgs false
set_option maxRecDepth 100000
set_option maxHeartbeats 40000000
namespace Go.Proofs.YtpfmeafmepgimaaGreat
open Go.ChangeShapes Go.WideShapes Go.ChangeAt Go.RowKit
def StW (R F T:Nat ->Int)(n:Nat)(l:List Lf):Prop:=(okTo R F T n/\ n<=2000)/\ l.length<=1000/\ LvOk R F T n l l.length/\ Dis l l.length
theorem StOk.w {R F T:Nat ->Int}{n:Nat}{l:List Lf}(h:StOk R F T n l):StW R F T n l:=⟨by have:=ctxB_iff.1 h.1;exact⟨this.1,by omega⟩,h.2⟩
def hasX (R F T:Nat ->Int)(n:Nat)(x:Lf):Prop:=hasK R F T x.r x.q x.q n=true
theorem hasX_key {R F T:Nat ->Int}{n:Nat}{x y:Lf}(h:lfK x=lfK y):hasX R F T n x↔hasX R F T n y:=by
 obtain⟨_,_,h3,h4⟩:=lfK_way h;unfold hasX;rw [h3,h4]
theorem lf_ext {x y:Lf}(h:Way x=Way y)(h0:0<x.p.length)(hd:(x.r,x.q)=(y.r,y.q))(hv:x.v=y.v):x=y:=by
 obtain⟨e1,e2⟩:=wayOf_inj h h0;have e3:=kd_inj e2;have e4:x.r=y.r:=congrArg Prod.fst hd;have e5:x.q=y.q:=congrArg Prod.snd hd;cases x;cases y;simp only at e1 e3 e4 e5 hv;subst e1 e3 e4 e5 hv;rfl
theorem Mk_mem {l:List Lf}(hd:Dis l l.length){z:List Ky}{d:Dt}{v:ByteArray}:Mk l l.length z d=some v↔∃x∈l,Way x=z/\ (x.r,x.q)=d/\ x.v=v:=by
 rw [Mk_val hd];constructor
 ·rintro⟨j,h1,h2,h3,h4⟩;exact⟨gL l j,gL_mem.2 ⟨j,h1,rfl⟩,h2,h3,h4⟩
 ·rintro⟨x,hx,h2,h3,h4⟩;obtain⟨j,hj,e⟩:=gL_mem.1 hx;exact⟨j,hj,by rw [e];exact h2,by rw [e];exact h3,by rw [e];exact h4⟩
theorem dis_mem {l:List Lf}(hd:Dis l l.length){x y:Lf}(hx:x∈l)(hy:y∈l)(h:x.r=y.r/\ x.q=y.q):x=y:=by
 obtain⟨i,hi,ei⟩:=gL_mem.1 hx;obtain⟨j,hj,ej⟩:=gL_mem.1 hy;rcases Nat.lt_trichotomy i j with e|e|e
 ·have:=hd j hj i e;exact absurd (by rw [ei,ej];exact h) this
 ·subst e;rw [<- ei,<- ej]
 ·have:=hd i hi j e;exact absurd (by rw [ei,ej];exact⟨h.1.symm,h.2.symm⟩) this
theorem sorted_lt {l:List Lf}(h:l.Pairwise (fun a b=>cmpL a b<0)){i j:Nat}(hij:i<j)(hj:j<l.length):cmpL (gL l i) (gL l j)<0:=by
 have:=List.pairwise_iff_getElem.1 h i j (by omega) hj hij;have e1:gL l i=l[i]:=by simp [gL,List.getD,show i<l.length by omega]
 have e2:gL l j=l[j]:=by simp [gL,List.getD,hj]
 rw [e1,e2];exact this
section
variable {R F T : Nat -> Int} {n : Nat} {la : List Lf} {R' F' T' : Nat -> Int} {n' : Nat} {lb : List Lf}
noncomputable def jn (R F T:Nat ->Int)(n:Nat)(la:List Lf)(R' F' T':Nat ->Int)(n':Nat)(lb:List Lf):List Lf:=jnL la lb (hasX R F T n) (hasX R' F' T' n')
theorem jn_sorted (h:StW R F T n la)(h':StW R' F' T' n' lb):(jn R F T n la R' F' T' n' lb).Pairwise (fun a b=>cmpL a b<0):=
 jnL_sorted (fun i j h1 h2=>h.2.2.1.lt j h1 h2) (fun i j h1 h2=>h'.2.2.1.lt j h1 h2) (fun x hx=>by
  obtain⟨j,hj,e⟩:=gL_mem.1 hx;have:=(h.2.2.1 j hj).2.1;rw [e] at this;exact this) (fun x y e=>hasX_key e)
theorem jn_from (z:Lf)(hz:z∈jn R F T n la R' F' T' n' lb):z∈la \/(z∈lb/\¬hasX R F T n z):=by
 rcases jnL_mem.1 hz with h|h
 ·exact .inl h.1
 ·exact .inr h
theorem jn_dis (h:StW R F T n la)(h':StW R' F' T' n' lb):Dis (jn R F T n la R' F' T' n' lb) (jn R F T n la R' F' T' n' lb).length:=fun i hi j hj hh=>by
 have hs:=sorted_lt (jn_sorted h h') hj hi;have hx:=jn_from _ (gL_mem.2 ⟨j,by omega,rfl⟩:gL (jn R F T n la R' F' T' n' lb) j∈_);have hy:=jn_from _ (gL_mem.2 ⟨i,hi,rfl⟩:gL (jn R F T n la R' F' T' n' lb) i∈_);have hA:∀z∈la,hasX R F T n z:=fun z hz=>by
  obtain⟨j,hj,e⟩:=gL_mem.1 hz;have:=(h.2.2.1 j hj).2.1;rw [e] at this;exact this
 have same:∀{x y:Lf},x.r=y.r/\ x.q=y.q ->(hasX R F T n x↔hasX R F T n y):=fun{x y} e=>by unfold hasX;rw [e.1,e.2]
 have irr:∀z:Lf,¬cmpL z z<0:=fun z hz=>by have:=(cmpL_neg z z).1 hz;omega
 have e:gL (jn R F T n la R' F' T' n' lb) j=gL (jn R F T n la R' F' T' n' lb) i:=by
  rcases hx with hx|⟨hx,hx2⟩
  ·rcases hy with hy|⟨hy,hy2⟩
   ·exact dis_mem h.2.2.2 hx hy hh
   ·exact absurd ((same hh).1 (hA _ hx)) hy2
  ·rcases hy with hy|⟨hy,hy2⟩
   ·exact absurd ((same hh).2 (hA _ hy)) hx2
   ·exact dis_mem h'.2.2.2 hx hy hh
 rw [e] at hs;exact irr _ hs
theorem jn_ok {U V X:Nat ->Int}{m:Nat}(h:StW R F T n la)(h':StW R' F' T' n' lb)(hu:∀z:Lf,hasX R F T n z \/hasX R' F' T' n' z ->hasX U V X m z):LvOk U V X m (jn R F T n la R' F' T' n' lb) (jn R F T n la R' F' T' n' lb).length:=fun i hi=>by
 have hs:=jn_sorted h h';have hx:=jn_from _ (gL_mem.2 ⟨i,hi,rfl⟩:gL (jn R F T n la R' F' T' n' lb) i∈_);refine⟨?_,?_,fun h0=>sorted_lt hs (by omega) hi⟩
 ·rcases hx with hx|⟨hx,_⟩
  ·obtain⟨j,hj,e⟩:=gL_mem.1 hx;rw [<- e];exact(h.2.2.1 j hj).1
  ·obtain⟨j,hj,e⟩:=gL_mem.1 hx;rw [<- e];exact(h'.2.2.1 j hj).1
 ·refine hu _ ?_;rcases hx with hx|⟨hx,_⟩
  ·obtain⟨j,hj,e⟩:=gL_mem.1 hx;refine .inl ?_;have:=(h.2.2.1 j hj).2.1;rw [e] at this;exact this
  ·obtain⟨j,hj,e⟩:=gL_mem.1 hx;refine .inr ?_;have:=(h'.2.2.1 j hj).2.1;rw [e] at this;exact this
theorem jn_mark (h:StW R F T n la)(h':StW R' F' T' n' lb)(z:List Ky)(d:Dt)(v:ByteArray):
  Mk (jn R F T n la R' F' T' n' lb) (jn R F T n la R' F' T' n' lb).length z d=some v↔(Mk la la.length z d=some v/\ (Mk lb lb.length z d=some v \/hasK R' F' T' d.1 d.2 d.2 n'=false)) \/(Mk lb lb.length z d=some v/\ hasK R F T d.1 d.2 d.2 n=false):=by
 have bf:∀b:Bool,¬b=true↔b=false:=fun b=>by cases b<;>simp
 rw [Mk_mem (jn_dis h h'),Mk_mem h.2.2.2,Mk_mem h'.2.2.2];constructor
 ·rintro⟨x,hx,h2,h3,h4⟩;have e1:x.r=d.1:=congrArg Prod.fst h3;have e2:x.q=d.2:=congrArg Prod.snd h3;rcases jnL_mem.1 hx with ⟨g1,g2⟩|⟨g1,g2⟩
  ·refine .inl ⟨⟨x,g1,h2,h3,h4⟩,g2.imp (fun g=>⟨x,g,h2,h3,h4⟩) (fun g=> ?_)⟩;unfold hasX at g;rw [e1,e2] at g;exact(bf _).1 g
  ·refine .inr ⟨⟨x,g1,h2,h3,h4⟩,?_⟩;unfold hasX at g2;rw [e1,e2] at g2;exact(bf _).1 g2
 ·rintro(⟨⟨x,hx,h2,h3,h4⟩,g⟩|⟨⟨x,hx,h2,h3,h4⟩,g⟩)
  ·have e1:x.r=d.1:=congrArg Prod.fst h3;have e2:x.q=d.2:=congrArg Prod.snd h3;have h0:0<x.p.length:=by
    obtain⟨j,hj,e⟩:=gL_mem.1 hx;have:=(h.2.2.1 j hj).1.1.1;rw [e] at this;omega
   refine⟨x,jnL_mem.2 (.inl ⟨hx,?_⟩),h2,h3,h4⟩;rcases g with ⟨y,hy,k2,k3,k4⟩|g
   ·have:x=y:=lf_ext (h2.trans k2.symm) h0 (h3.trans k3.symm) (h4.trans k4.symm);rw [this];exact .inl hy
   ·refine .inr ?_;unfold hasX;rw [e1,e2];exact(bf _).2 g
  ·have e1:x.r=d.1:=congrArg Prod.fst h3;have e2:x.q=d.2:=congrArg Prod.snd h3;refine⟨x,jnL_mem.2 (.inr ⟨hx,?_⟩),h2,h3,h4⟩;unfold hasX;rw [e1,e2];exact(bf _).2 g
end
end Go.Proofs.YtpfmeafmepgimaaGreat
namespace Go.Proofs.YtpfmeafmepgimaaGreat
open Go.ChangeShapes Go.WideShapes Go.ChangeAt Go.RowKit Go.Deep
theorem l3SameC (a a':Option Addr)(c c':Nat)(p p':List ByteArray)(fl fl':Bool)(r q r' q':Int)(v v':ByteArray)(w:World)(hc:p.length<=c)(hc':p'.length<=c')(hx:c<=9223372036854775807)(hx':c'<=9223372036854775807)(h:SSeg w a p)(h':SSeg w a' p'):
  Calls Tryz.prog 47 #[.agg #[.slice a p.length c,.bool fl,.int .i64 r,.int .i64 q,.string v],.agg #[.slice a' p'.length c',.bool fl',.int .i64 r',.int .i64 q',.string v']] w fun e w'=>e=.returned (.bool (yes ((⟨p,fl,r,q,v⟩:Lf)=⟨p',fl',r',q',v'⟩)))/\ Below w.heap.size w w':=by
 obtain⟨W,hW⟩:∃W,(w.alloc (.cells #[.slice a p.length c,.bool fl,.int .i64 r,.int .i64 q,.string v] 65)).alloc (.cells #[.slice a' p'.length c',.bool fl',.int .i64 r',.int .i64 q',.string v'] 65)=W:=⟨_,rfl⟩;have b0:Below w.heap.size w W:=by rw [<- hW];exact below2 _ _ _
 have k0:W.cell? ⟨w.heap.size,0,none⟩=some (.slice a p.length c):=by rw [<- hW];simp
 have k1:W.cell? ⟨w.heap.size,1,none⟩=some (.bool fl):=by rw [<- hW];simp
 have k2:W.cell? ⟨w.heap.size,2,none⟩=some (.int .i64 r):=by rw [<- hW];simp
 have k3:W.cell? ⟨w.heap.size,3,none⟩=some (.int .i64 q):=by rw [<- hW];simp
 have k4:W.cell? ⟨w.heap.size,4,none⟩=some (.string v):=by rw [<- hW];simp
 have l0:W.cell? ⟨w.heap.size+1,0,none⟩=some (.slice a' p'.length c'):=by rw [<- hW];simp
 have l1:W.cell? ⟨w.heap.size+1,1,none⟩=some (.bool fl'):=by rw [<- hW];simp
 have l2:W.cell? ⟨w.heap.size+1,2,none⟩=some (.int .i64 r'):=by rw [<- hW];simp
 have l3:W.cell? ⟨w.heap.size+1,3,none⟩=some (.int .i64 q'):=by rw [<- hW];simp
 have l4:W.cell? ⟨w.heap.size+1,4,none⟩=some (.string v'):=by rw [<- hW];simp
 have HB0:=hid b0;have HS:=hid (cmpSpec p p' a a' c c' W hc hc' hx hx' (h.below b0) (h'.below b0));have HE:Hid (yes ((⟨p,fl,r,q,v⟩:Lf)=⟨p',fl',r',q',v'⟩)=true↔cmpP p p'=0/\ fl=fl'/\ r=r'/\ q=q'/\ v=v'):=hid (by
  rw [cmpP_z];constructor
  ·intro e;have e:(⟨p,fl,r,q,v⟩:Lf)=⟨p',fl',r',q',v'⟩:=Classical.byContradiction fun hn=>by rw [yes_f hn] at e;cases e
   injection e with e1 e2 e3 e4 e5;exact⟨e1,e2,e3,e4,e5⟩
  ·rintro⟨rfl,rfl,rfl,rfl,rfl⟩;exact yes_t rfl)
 obtain⟨B,hB⟩:∃B,yes ((⟨p,fl,r,q,v⟩:Lf)=⟨p',fl',r',q',v'⟩)=B:=⟨_,rfl⟩;obtain⟨x,hx⟩:∃x,cmpP p p'=x:=⟨_,rfl⟩;rw [hB,hx] at HE;rw [hx] at HS;rw [hB];clear b0 h h' hB hx;go_enter Tryz.func47,Tryz.ntmps47;go_wp2_with fail;try rw [hW]
 clear hW;refine HS.out.mono ?_;rintro e w1 ⟨rfl,k,hk⟩;have mk1:w1.cell? ⟨w.heap.size,1,none⟩=some (.bool fl):=by rw [hk];exact k1
 have mk2:w1.cell? ⟨w.heap.size,2,none⟩=some (.int .i64 r):=by rw [hk];exact k2
 have mk3:w1.cell? ⟨w.heap.size,3,none⟩=some (.int .i64 q):=by rw [hk];exact k3
 have mk4:w1.cell? ⟨w.heap.size,4,none⟩=some (.string v):=by rw [hk];exact k4
 have ml1:w1.cell? ⟨w.heap.size+1,1,none⟩=some (.bool fl'):=by rw [hk];exact l1
 have ml2:w1.cell? ⟨w.heap.size+1,2,none⟩=some (.int .i64 r'):=by rw [hk];exact l2
 have ml3:w1.cell? ⟨w.heap.size+1,3,none⟩=some (.int .i64 q'):=by rw [hk];exact l3
 have ml4:w1.cell? ⟨w.heap.size+1,4,none⟩=some (.string v'):=by rw [hk];exact l4
 have HB1:Hid (Below w.heap.size w w1):=hid (by rw [hk];exact⟨HB0.out.os,HB0.out.tape,HB0.out.output,HB0.out.size,HB0.out.block⟩);clear hk k0 k1 k2 k3 k4 l0 l1 l2 l3 l4 HS HB0;have hno:¬(x=0/\ fl=fl'/\ r=r'/\ q=q'/\ v=v') ->Hid (B=false):=fun hn=>hid (by
  cases hb:B with
  | false=>rfl
  | true=>exact absurd (HE.out.1 hb) hn)
 by_cases h0:x=0
 ·have e0:(x==0)=true:=by simp [h0]
  by_cases h1:fl=fl'
  ·have e1:(fl==fl')=true:=by simp [h1]
   have ED:∀w:World,(binOp .eql 63 (.agg #[.int .i64 r,.int .i64 q]) (.agg #[.int .i64 r',.int .i64 q'])).run Tryz.prog w=.ok (.bool (r==r' && q==q')) w:=fun w=>eqlDot r q r' q' w;by_cases h2:r=r'/\ q=q'
   ·have e2:(r==r' && q==q')=true:=by simp [h2]
    rw [e2] at ED;by_cases h3:v=v'
    ·have e3:(v.toList==v'.toList)=true:=by simp [h3]
     have HG:Hid (B=true):=hid (HE.out.2 ⟨h0,h1,h2.1,h2.2,h3⟩);clear HE hno e2 h0 h1 h2 h3;go_wp2_with fail;go_ret;exact⟨ret_b HG.out.symm,HB1.out⟩
    ·have e3:(v.toList==v'.toList)=false:=by simpa using fun h=>h3 (toList_inj h)
     have HG:=hno (fun h=>h3 h.2.2.2.2);clear HE hno e2 h0 h1 h2 h3;go_wp2_with fail;go_ret;exact⟨ret_b HG.out.symm,HB1.out⟩
   ·have e2:(r==r' && q==q')=false:=by
     cases hb:(r==r' && q==q') with
     | false=>rfl
     | true=>exact absurd (by simpa using hb) h2
    rw [e2] at ED;have HG:=hno (fun h=>h2 ⟨h.2.2.1,h.2.2.2.1⟩);clear HE hno e2 h0 h1 h2;go_wp2_with fail;go_ret;exact⟨ret_b HG.out.symm,HB1.out⟩
  ·have e1:(fl==fl')=false:=by simpa using h1
   have HG:=hno (fun h=>h1 h.2.1);clear HE hno h0 h1;go_wp2_with fail;go_ret;exact⟨ret_b HG.out.symm,HB1.out⟩
 ·have e0:(x==0)=false:=by simpa using h0
  have HG:=hno (fun h=>h0 h.1);clear HE hno h0;go_wp2_with fail;go_ret;exact⟨ret_b HG.out.symm,HB1.out⟩
theorem l3FindC (a a':Option Addr)(c c':Nat)(l:List Lf)(p':List ByteArray)(fl':Bool)(r' q':Int)(v':ByteArray)(w:World)(hl:l.length<=1048576)(hc':p'.length<=c')(hx':c'<=9223372036854775807)(h:LCap w a l)(h':SSeg w a' p'):
  Calls Tryz.prog 33 #[.slice a l.length c,.agg #[.slice a' p'.length c',.bool fl',.int .i64 r',.int .i64 q',.string v']] w fun e w'=>(∃i:Int,e=.returned (.int .i64 i)/\ (0<=i↔(⟨p',fl',r',q',v'⟩:Lf)∈l))/\ Below w.heap.size w w':=by
 obtain⟨W,hW⟩:∃W,w.alloc (.cells #[.slice a' p'.length c',.bool fl',.int .i64 r',.int .i64 q',.string v'] 65)=W:=⟨_,rfl⟩;have b0:Below w.heap.size w W:=by rw [<- hW];exact(Below.refl _ _).alloc (Nat.le_refl _) _
 have X0:Bx5 W w.heap.size (.slice a' p'.length c') (.bool fl') (.int .i64 r') (.int .i64 q') (.string v'):=by rw [<- hW];exact Bx5.new _ _ _ _ _ _ _
 have HX:=hid X0;have HB0:=hid b0;have HL:=hid (h.below b0);have HP:=hid (h'.below b0);have HC:=hid (And.intro hc' hx');clear X0 b0 h h' hc' hx';go_enter Tryz.func33,Tryz.ntmps33;go_wp2_with fail;try rw [hW]
 clear hW;go_loopw [5] (fun i wr=>∃j:Nat,j<=l.length/\ i=.int .i64 j/\ Hid (Below W.heap.size W wr)/\ Hid (∀t,t<j ->gL l t≠⟨p',fl',r',q',v'⟩)) (fun i _=>l.length - (intOf i).toNat);case atStart=>exact⟨0,Nat.zero_le _,rfl,hid (Below.refl _ _),hid (fun t ht=>by omega)⟩
 case round=>
  obtain⟨j,hj,rfl,HB,HN⟩:=hrel;by_cases hlt:j<l.length
  ·have i1:(0:Int)<=(j:Int):=Int.natCast_nonneg _;have i2:(j:Int)<(l.length:Int):=by omega
   obtain⟨b,off,rfl,hb,hcs⟩:=(HL.out.below HB.out).resolve_left (by omega);obtain⟨pa,pc,⟨c0,d0⟩,sg,c1,c2,c3,c4⟩:=hcs j hlt;have HSM:=hid (fun w1 (b1:Below wr.heap.size wr w1)=>l3SameC pa a' pc c' (gL l j).p p' (gL l j).fl fl' (gL l j).r (gL l j).q r' q' (gL l j).v v' w1 d0.1 HC.out.1 d0.2 HC.out.2 (sg.below b1) ((HP.out.below HB.out).below b1));have HEQ:Hid (gL l j=⟨(gL l j).p,(gL l j).fl,(gL l j).r,(gL l j).q,(gL l j).v⟩):=hid rfl;obtain⟨y,hy⟩:∃y,gL l j=y:=⟨_,rfl⟩;have HY:=hid hy;rw [hy] at c0 c1 c2 c3 c4 HSM;obtain⟨yp,yf,yr,yq,yv⟩:=y;dsimp only at c0 c1 c2 c3 c4 HSM;obtain⟨B,hB⟩:∃B,yes ((⟨yp,yf,yr,yq,yv⟩:Lf)=⟨p',fl',r',q',v'⟩)=B:=⟨_,rfl⟩;have HBB:=hid hB;rw [hB] at HSM;have X1:=HX.out.below HB.out HX.out.lt;have HCS:Hid (∀w',Below wr.heap.size wr w' ->(w'.cell? ⟨b,off+j*5,none⟩=some (.slice pa yp.length pc)/\ w'.cell? ⟨b,off+j*5+1,none⟩=some (.bool yf)/\ w'.cell? ⟨b,off+j*5+2,none⟩=some (.int .i64 yr)/\ w'.cell? ⟨b,off+j*5+3,none⟩=some (.int .i64 yq)/\ w'.cell? ⟨b,off+j*5+4,none⟩=some (.string yv)/\ w'.cell? ⟨w.heap.size,0,none⟩=some (.slice a' p'.length c')/\ w'.cell? ⟨w.heap.size,1,none⟩=some (.bool fl')/\ w'.cell? ⟨w.heap.size,2,none⟩=some (.int .i64 r')/\ w'.cell? ⟨w.heap.size,3,none⟩=some (.int .i64 q')/\ w'.cell? ⟨w.heap.size,4,none⟩=some (.string v'))):=hid (fun w' b1=>by
    have q:=fun o=>b1.cell (p:=⟨b,o,none⟩) hb;have X2:=X1.below b1 X1.lt;exact⟨(q _).trans c0,(q _).trans c1,(q _).trans c2,(q _).trans c3,(q _).trans c4,X2.c0,X2.c1,X2.c2,X2.c3,X2.c4⟩)
   clear hy hB hcs sg X1;go_wp2_with fail;refine wp_region_held_drew (S:=fun w'=>w'.cell? ⟨b,off+j*5,none⟩=some (.slice pa yp.length pc)/\ w'.cell? ⟨b,off+j*5+1,none⟩=some (.bool yf)/\ w'.cell? ⟨b,off+j*5+2,none⟩=some (.int .i64 yr)/\ w'.cell? ⟨b,off+j*5+3,none⟩=some (.int .i64 yq)/\ w'.cell? ⟨b,off+j*5+4,none⟩=some (.string yv)/\ w'.cell? ⟨w.heap.size,0,none⟩=some (.slice a' p'.length c')/\ w'.cell? ⟨w.heap.size,1,none⟩=some (.bool fl')/\ w'.cell? ⟨w.heap.size,2,none⟩=some (.int .i64 r')/\ w'.cell? ⟨w.heap.size,3,none⟩=some (.int .i64 q')/\ w'.cell? ⟨w.heap.size,4,none⟩=some (.string v')) (by kernel_rfl) (HCS.out _ (Below.refl _ _).drew) (fun hHeld=> ?_);clear c0 c1 c2 c3 c4;refine tZ 0 12 ?_;refine tZ 1 13 ?_;refine tZ 2 14 ?_;refine tZ 3 15 ?_;refine tZ 4 16 ?_;refine cZ 5 ?_;intro K hK;go_simp;refine(HSM.out _ (Below.refl _ _).drew).mono ?_;rintro e w1 ⟨rfl,b1⟩;have b1':Below wr.heap.size wr w1:=⟨b1.os,b1.tape,b1.output,b1.size,b1.block⟩;refine hK.out _ _ (HCS.out _ b1') (fun hHeld=> ?_);clear hK K;try simp only [Act.put,sZa,sZb,sZc]
   refine wpAnyH_done (by kernel_rfl) ?_ _;have HB1:=hid (HB.out.trans (b1'.mono HB.out.size));clear hHeld b1 b1' HCS HSM;cases B with
   | true=>
    have HM:Hid ((⟨p',fl',r',q',v'⟩:Lf)∈l):=hid (by
     have e:(⟨yp,yf,yr,yq,yv⟩:Lf)=⟨p',fl',r',q',v'⟩:=Classical.byContradiction fun hn=>by have:=HBB.out;rw [yes_f hn] at this;cases this
     rw [<- e,<- HY.out];exact gL_mem.2 ⟨j,hlt,rfl⟩)
    go_wp2_with fail;go_ret;exact⟨⟨(j:Int),rfl,⟨fun _=>HM.out,fun _=>i1⟩⟩,keepS HB0.out HB1.out⟩
   | false=>
    have HN1:Hid (∀t,t<j+1 ->gL l t≠⟨p',fl',r',q',v'⟩):=hid (fun t ht=>by
     by_cases e:t=j
     ·rw [e,HY.out];intro e2;have:=HBB.out;rw [yes_t e2] at this;cases this
     ·exact HN.out t (by omega))
    clear HN HB;go_wp2_with fail;go_roundw;case rel=>exact⟨j+1,hlt,by go_num,HB1,HN1⟩
    case measure=>simp [intOf];omega
  ·obtain rfl:j=l.length:=by omega
   have HM:Hid (¬(⟨p',fl',r',q',v'⟩:Lf)∈l):=hid (fun hm=>by
    obtain⟨t,ht,e⟩:=gL_mem.1 hm;exact HN.out t ht e)
   go_wp2_with fail;go_ret;exact⟨⟨-1,rfl,⟨fun h=>by omega,fun h=>absurd h HM.out⟩⟩,keepS HB0.out HB.out⟩
theorem LC.cast {w:World}{lo:Nat}{v:Value}{l:List Lf}{P Q P' Q':Nat ->Nat}(h:LC w lo v l P Q)(e:∀i,i<l.length ->P' i=P i/\ Q' i=Q i):LC w lo v l P' Q':=by
 refine⟨?_,fun i hi=> ?_⟩
 ·have:(List.range (l.length*5)).map (lCp l P' Q')=(List.range (l.length*5)).map (lCp l P Q):=List.map_congr_left fun j hj=>by
   have hj':j<l.length*5:=by simpa using hj
   obtain⟨e1,e2⟩:=e (j/5) (by omega);unfold lCp;rw [e1,e2]
  rw [this];exact h.row
 ·obtain⟨e1,e2⟩:=e i hi;rw [e1,e2];exact h.pt i hi
theorem insL_at {y:Lf}:∀{ls:List Lf} {k:Nat},k<=ls.length ->(∀i,i<k ->cmpL (gL ls i) y<0) ->(k<ls.length ->¬cmpL (gL ls k) y<0) ->insL y ls=ls.take k++y::ls.drop k
 | [],k,hk,_,_=>by
  obtain rfl:k=0:=by simpa using hk
  simp [insL]
 | x::r,0,_,_,h2=>by
  have h2:=h2 (by simp);have e:gL (x::r) 0=x:=rfl;rw [e] at h2;simp only [insL];rw [if_neg (by rw [yes_f h2];simp)];simp
 | x::r,k+1,hk,h1,h2=>by
  have e:gL (x::r) 0=x:=rfl;have h0:=h1 0 (by omega);rw [e] at h0;simp only [insL];rw [if_pos (yes_t h0),insL_at (ls:=r) (k:=k) (by simpa using hk) (fun i hi=>h1 (i+1) (by omega)) (fun hh=>h2 (by simp;omega))];simp
theorem LC.cell {w:World}{lo g n cap:Nat}{l:List Lf}{P Q:Nat ->Nat}(h:LC w lo (.slice (some ⟨g,0,none⟩) n cap) l P Q)(hn:n=l.length){i:Nat}(hi:i<l.length):
  w.cell? ⟨g,i*5,none⟩=some (.slice (some ⟨P i,0,none⟩) (gL l i).p.length (Q i))/\ w.cell? ⟨g,i*5+1,none⟩=some (.bool (gL l i).fl)/\ w.cell? ⟨g,i*5+2,none⟩=some (.int .i64 (gL l i).r)/\ w.cell? ⟨g,i*5+3,none⟩=some (.int .i64 (gL l i).q)/\ w.cell? ⟨g,i*5+4,none⟩=some (.string (gL l i).v):=by
 subst hn;have hw:=own_wrF h.row;obtain⟨e0,e1,e2,e3,e4⟩:=lCp0 l P Q i;exact⟨by rw [hw.cell (by omega),e0],by rw [hw.cell (by omega),e1],by rw [hw.cell (by omega),e2],by rw [hw.cell (by omega),e3],by rw [hw.cell (by omega),e4]⟩
theorem LC.seg {w:World}{lo:Nat}{v:Value}{l:List Lf}{P Q:Nat ->Nat}(h:LC w lo v l P Q){i:Nat}(hi:i<l.length):SSeg w (some ⟨P i,0,none⟩) (gL l i).p:=by
 obtain⟨e1,e2,e3,e4,e5⟩:=h.pt i hi;exact .inr ⟨P i,0,rfl,e2,fun t ht=>by rw [Nat.zero_add];exact e4.cell ht⟩
theorem LC.lt {w:World}{lo:Nat}{v:Value}{l:List Lf}{P Q:Nat ->Nat}(h:LC w lo v l P Q):∀g,v.ownBlock=some g ->lo<=g/\ g<w.heap.size:=fun g hg=>h.row.lt g hg
theorem LC.low {w:World}{lo lo':Nat}{v:Value}{l:List Lf}{P Q:Nat ->Nat}(h:LC w lo v l P Q)(hl:lo'<=lo):LC w lo' v l P Q:=⟨own_weak5 h.row hl,fun i hi=>by obtain⟨e1,e2⟩:=h.pt i hi;exact⟨Nat.le_trans hl e1,e2⟩⟩
theorem LC.cap {w:World}{lo g n cap:Nat}{l:List Lf}{P Q:Nat ->Nat}(h:LC w lo (.slice (some ⟨g,0,none⟩) n cap) l P Q):l.length<=cap/\ cap<=9223372036854775807:=by
 rcases h.row.2 with ⟨h0,_⟩|⟨g',cap',cur,hv,hbase,hb,h1,h2,h3,h4⟩
 ·cases h0
 ·injection hv with e1 e2 e3;unfold maxLen at h2;omega
theorem LC.rest {w:World}{lo:Nat}{v:Value}{l:List Lf}{P Q:Nat ->Nat}(h:LC w lo v l P Q)(hlo:lo<=w.heap.size)(l':List Lf)(P' Q':Nat ->Nat)(g k m c off:Nat)(hk:k+m=l'.length)(hl:l.length+m<=1048576)(hoff:0<m ->off=k*5)(hC:∀j,j<l'.length*5 ->w.cell? ⟨g,j,none⟩=some (lCp l' P' Q' j))(hp:∀i,i<l'.length ->lo<=P' i/\ P' i<w.heap.size/\ some (P' i)≠v.ownBlock/\ Wr w (P' i) 9 (gL l' i).p.length (fun t=> .string (gS (gL l' i).p t))/\ (gL l' i).p.length<=Q' i/\ Q' i<=9223372036854775807)(hv:v≠.slice none 0 0):
  ∃q' cap' w3,(Builtin.append_ #[23,23] 23 #[v,.slice (some ⟨g,off,none⟩) m c]).run Tryz.prog w=.ok (.slice (some ⟨q',0,none⟩) (l.length+m) cap') w3/\
   LC w3 lo (.slice (some ⟨q',0,none⟩) (l.length+m) cap') (l++l'.drop k) (fun i=>if i<l.length then P i else P' (k+(i - l.length))) (fun i=>if i<l.length then Q i else Q' (k+(i - l.length)))/\ Gr w w3 v (.slice (some ⟨q',0,none⟩) (l.length+m) cap'):=by
 obtain⟨i0,hi,hz0,hz1,hz2⟩:=info_parts infoLeaf;have hone:∀j,(lCp l' P' Q' j).oneCell'=true:=fun j=>by unfold lCp;split;rfl;split;rfl;split;rfl;split;rfl;rfl
 obtain⟨v',w3,hr,g2,g3,g4,g5⟩:=run_append_own_at (P:=Tryz.prog) w lo 23 23 65 i0 _ 5 64 Tryz.underlying23 hi hz0 hz1 hz2 rfl (by decide) v l.length _ h.row ⟨g,off,none⟩ m c ((List.range (m*5)).map fun j=>lCp l' P' Q' (k*5+j)) (by simp) (fun j u hj=>by
  simp only [List.getElem?_map,Option.map_eq_some_iff] at hj;obtain⟨q,hq,rfl⟩:=hj;have hlt:j<m*5:=by
   rcases Nat.lt_or_ge j (m*5) with h|h
   ·exact h
   ·rw [List.getElem?_eq_none (by simpa using h)] at hq;cases hq
  rw [List.getElem?_range hlt] at hq;have hq:=Option.some.inj hq;rw [<- hq,addr_addP,hoff (by omega)];exact hC _ (by omega)) (fun u hu=>by
  obtain⟨j,hj,rfl⟩:=List.mem_map.1 hu;exact hone _) (by unfold maxLen;omega) (by omega) hlo
 rcases g2.2 with ⟨hv',h0⟩|⟨q',cap',cur,hv',r⟩
 ·exact absurd (g4.1 hv').1 hv
 rw [hv'] at hr g2 g5;have hqq:some q'=v.ownBlock \/q'=w.heap.size:=by
  rcases g5 with g5|g5
  ·exact .inl (by simpa [Value.ownBlock] using g5)
  ·exact .inr (by simpa [Value.ownBlock] using g5)
 have hs3:=g3.size;have gr:Gr w w3 v (.slice (some ⟨q',0,none⟩) (l.length+m) cap'):=by
  refine⟨g3,?_⟩;rcases hqq with e|e
  ·exact .inl e
  ·exact .inr ⟨q',rfl,by omega⟩
 have hll:(l++l'.drop k).length=l.length+m:=by simp;omega
 have hown:∀b,some b≠v.ownBlock ->b<w.heap.size ->some b≠(Value.slice (some ⟨q',0,none⟩) (l.length+m) cap').ownBlock:=fun b hb1 hb2 e=>by
  have e:b=q':=by simpa [Value.ownBlock] using e
  rcases hqq with e2|e2
  ·exact hb1 (by rw [e];exact e2)
  ·omega
 have gl1:∀i,i<l.length ->gL (l++l'.drop k) i=gL l i:=fun i hi=>by simp [gL,List.getD,List.getElem?_append_left hi]
 have gl2:∀i,l.length<=i ->gL (l++l'.drop k) i=gL l' (k+(i - l.length)):=fun i hi=>by simp [gL,List.getD,List.getElem?_append_right hi]
 refine⟨q',cap',w3,hr,⟨?_,fun i hi=> ?_⟩,gr⟩
 ·rw [hll];have ec:(List.range ((l.length+m)*5)).map (lCp (l++l'.drop k) (fun i=>if i<l.length then P i else P' (k+(i - l.length))) (fun i=>if i<l.length then Q i else Q' (k+(i - l.length))))=(List.range (l.length*5)).map (lCp l P Q)++(List.range (m*5)).map fun j=>lCp l' P' Q' (k*5+j):=by
   rw [Nat.add_mul,List.range_add,List.map_append,List.map_map];congr 1
   ·refine List.map_congr_left fun j hj=> ?_;have hj':j<l.length*5:=by simpa using hj
    unfold lCp;rw [gl1 (j/5) (by omega)];dsimp only;rw [if_pos (show j/5<l.length by omega),if_pos (show j/5<l.length by omega)]
   ·refine List.map_congr_left fun j hj=> ?_;have hj':j<m*5:=by simpa using hj
    simp only [Function.comp];unfold lCp;rw [gl2 ((l.length*5+j)/5) (by omega)];dsimp only;rw [if_neg (show¬(l.length*5+j)/5<l.length by omega),if_neg (show¬(l.length*5+j)/5<l.length by omega),show k+((l.length*5+j)/5 - l.length)=(k*5+j)/5 by omega,show (l.length*5+j)%5=(k*5+j)%5 by omega]
  rw [ec];exact g2
 ·by_cases e:i<l.length
  ·simp only [if_pos e];rw [gl1 i e];obtain⟨e1,e2,e3,e4⟩:=h.pt i e;exact⟨e1,by omega,hown _ e3 e2,e4.1.same (g3.block _ e2 e3),e4.2⟩
  ·simp only [if_neg e];rw [gl2 i (by omega)];obtain⟨e1,e2,e3,e4⟩:=hp (k+(i - l.length)) (by rw [hll] at hi;omega);exact⟨e1,by omega,hown _ e3 e2,e4.1.same (g3.block _ e2 e3),e4.2⟩
theorem own_eq {q n c k:Nat}(h:(Value.slice (some ⟨q,0,none⟩) n c).ownBlock=some k):q=k:=by simpa [Value.ownBlock] using h
theorem l3PutC (g cap:Nat)(l:List Lf)(P Q:Nat ->Nat)(w:World)(lo pb pc:Nat)(yp:List ByteArray)(yf:Bool)(yr yq:Int)(yv:ByteArray)(h:LC w lo (.slice (some ⟨g,0,none⟩) l.length cap) l P Q)(hlo:lo<=w.heap.size)(hl:l.length<=100000)(hpl:∀i,i<l.length ->(gL l i).p.length<=1048576)(hyl:yp.length<=1048576)(hy1:lo<=pb/\ pb<w.heap.size)(hyw:Wr w pb 9 yp.length (fun t=> .string (gS yp t)))(hpc:yp.length<=pc/\ pc<=9223372036854775807):
  Calls Tryz.prog 34 #[.slice (some ⟨g,0,none⟩) l.length cap,.agg #[.slice (some ⟨pb,0,none⟩) yp.length pc,.bool yf,.int .i64 yr,.int .i64 yq,.string yv]] w fun e w'=>(∃g' cap' P' Q',e=.returned (.slice (some ⟨g',0,none⟩) (l.length+1) cap')/\ w.heap.size<=g'/\ LC w' lo (.slice (some ⟨g',0,none⟩) (l.length+1) cap') (insL ⟨yp,yf,yr,yq,yv⟩ l) P' Q')/\ Below w.heap.size w w':=by
 obtain⟨W,hW⟩:∃W,(w.alloc (.cells #[.slice (some ⟨pb,0,none⟩) yp.length pc,.bool yf,.int .i64 yr,.int .i64 yq,.string yv] 65)).alloc (.cells #[] 65)=W:=⟨_,rfl⟩;have b0:Below w.heap.size w W:=by rw [<- hW];exact below2 _ _ _
 have X0:Bx5 W w.heap.size (.slice (some ⟨pb,0,none⟩) yp.length pc) (.bool yf) (.int .i64 yr) (.int .i64 yq) (.string yv):=by rw [<- hW];exact(Bx5.new _ _ _ _ _ _ _).up _
 have zW:W.heap.size=w.heap.size+2:=by rw [<- hW];simp
 have LC0:LC W w.heap.size (.slice (some ⟨w.heap.size+1,0,none⟩) 0 0) [] P Q:=by
  refine⟨?_,fun i hi=>by simp at hi⟩;have:=World.ownsRow_lit (base:=w.heap.size) (e:=65) (size:=5) (w.alloc (.cells #[.slice (some ⟨pb,0,none⟩) yp.length pc,.bool yf,.int .i64 yr,.int .i64 yq,.string yv] 65)) #[] 0 (by simp) (by unfold maxLen;omega) rfl;rw [hW] at this;simpa using this
 have hg:=(h.lt g rfl).2;have HH:=hid h;have HX:=hid X0;have HYW:=hid hyw;have HY:=hid (And.intro hy1 hpc);have HPL:=hid hpl;have HLO:=hid hlo;have HLC0:=hid LC0;have hcap:=h.cap;have HPT:Hid (∀i,i<l.length ->lo<=P i/\ P i<w.heap.size):=hid (fun i hi=>⟨(h.pt i hi).1,(h.pt i hi).2.1⟩);have HGL:=hid hg;have HZW:=hid zW;have HB0:=hid b0;clear h b0 X0 zW LC0 hg hy1 hyw hpc hpl hlo;have HGW:Hid (∀wr q k qc,Gr W wr (.slice (some ⟨w.heap.size+1,0,none⟩) 0 0) (.slice (some ⟨q,0,none⟩) k qc) ->Below w.heap.size w wr/\ Bx5 wr w.heap.size (.slice (some ⟨pb,0,none⟩) yp.length pc) (.bool yf) (.int .i64 yr) (.int .i64 yq) (.string yv)/\ w.heap.size<q):=hid (fun wr q k qc hG=>by
  have hz:=HZW.out;have hs:=hG.g.size;have e:=hG.g.block w.heap.size (by omega) (fun e=>by have:=own_eq e.symm;omega);refine⟨HB0.out.trans (hG.below (by omega) (fun k hk=>by have:=own_eq hk;omega)),?_,?_⟩
  ·have q:=fun o=>World.cell?_of_block (w:=W) (w':=wr) (a:=⟨w.heap.size,o,none⟩) e;exact⟨(q 0).trans HX.out.c0,(q 1).trans HX.out.c1,(q 2).trans HX.out.c2,(q 3).trans HX.out.c3,(q 4).trans HX.out.c4,fun i=>(World.frozen?_of_block (a:=⟨w.heap.size,i,none⟩) e).trans (HX.out.f i),by have:=HX.out.lt;omega⟩
  ·rcases hG.l with h1|⟨j,h1,h2⟩
   ·have:=own_eq (k:=w.heap.size+1) h1;omega
   ·have:=own_eq h1;omega)
 have HEX:Hid (∀w1 k q qc,k<=l.length ->LC w1 lo (.slice (some ⟨q,0,none⟩) k qc) (l.take k) P Q ->Below w.heap.size w w1 ->w.heap.size<q ->∃q3 c3 w3,(Builtin.append_ #[23,23] 23 #[.slice (some ⟨q,0,none⟩) k qc,.slice (some ⟨w1.heap.size,0,none⟩) 1 1]).run Tryz.prog (w1.alloc (.cells #[.slice (some ⟨pb,0,none⟩) yp.length pc,.bool yf,.int .i64 yr,.int .i64 yq,.string yv] 65))=.ok (.slice (some ⟨q3,0,none⟩) (k+1) c3) w3/\ Below w.heap.size w w3/\ w.heap.size<=q3/\
   ∀off c',(k<l.length ->off=k*5) ->∃q4 c4 w4 P' Q',(Builtin.append_ #[23,23] 23 #[.slice (some ⟨q3,0,none⟩) (k+1) c3,.slice (some ⟨g,off,none⟩) (l.length - k) c']).run Tryz.prog w3=.ok (.slice (some ⟨q4,0,none⟩) (l.length+1) c4) w4/\ Below w.heap.size w w4/\ w.heap.size<=q4/\ LC w4 lo (.slice (some ⟨q4,0,none⟩) (l.length+1) c4) (l.take k++(⟨yp,yf,yr,yq,yv⟩:Lf)::l.drop k) P' Q'):=hid (fun w1 k q qc hk hLC hB hq=>by
  have hlk:(l.take k).length=k:=by simp;omega
  have hY:=HY.out;have hbs:=hB.size;obtain⟨q3,c3,w3,e1,e2,e3⟩:=hLC.app (Below.refl _ _) (by have:=HLO.out;omega) (by rw [hlk];omega) ⟨yp,yf,yr,yq,yv⟩ pb pc hY.1.1 (by omega) (fun e=>by have:=own_eq e.symm;omega) (HYW.out.same (hB.block pb hY.1.2)) hY.2;rw [hlk] at e1 e2 e3;have b3:Below w.heap.size w w3:=hB.trans (e3.below hbs (fun k hk=>by have:=own_eq hk;omega));have hq3:w.heap.size<=q3:=by
   rcases e3.l with h1|⟨j,h1,h2⟩
   ·have:=own_eq (k:=q) h1;omega
   ·have:=own_eq h1;omega
  refine⟨q3,c3,w3,e1,b3,hq3,fun off c' hoff=> ?_⟩;have hH3:=HH.out.below b3;have hwr:=own_wrF hH3.row;have hl1:(l.take k++[(⟨yp,yf,yr,yq,yv⟩:Lf)]).length=k+1:=by simp;omega
  obtain⟨q4,c4,w4,f1,f2,f3⟩:=e2.rest (by have:=b3.size;have:=HLO.out;omega) l P Q g k (l.length - k) c' off (by omega) (by rw [hl1];omega) (fun hm=>hoff (by omega)) (fun j hj=>hwr.cell hj) (fun i hi=>by
   obtain⟨x1,x2,x3,x4⟩:=hH3.pt i hi;have:=HPT.out i hi;exact⟨x1,x2,fun e=>by have:=own_eq e.symm;omega,x4⟩) (by simp)
  rw [hl1,show k+1+(l.length - k)=l.length+1 by omega] at f1 f2 f3;have hq4:w.heap.size<=q4:=by
   rcases f3.l with h1|⟨j,h1,h2⟩
   ·have:=own_eq (k:=q3) h1;omega
   ·have:=own_eq h1;have:=b3.size;omega
  rw [List.append_assoc,List.singleton_append] at f2;exact⟨q4,c4,w4,_,_,f1,b3.trans (f3.below b3.size (fun k hk=>by have:=own_eq hk;omega)),hq4,f2⟩)
 go_enter Tryz.func34,Tryz.ntmps34;go_wp2_with fail;try rw [hW]
 clear hW;go_loopw [5,6] (fun b' i wr=>∃(k q qc:Nat),k<=l.length/\ i=.int .i64 k/\ b'=.slice (some ⟨q,0,none⟩) k qc/\ Hid (∀j,j<k ->cmpL (gL l j) ⟨yp,yf,yr,yq,yv⟩<0)/\ Hid (LC wr lo (.slice (some ⟨q,0,none⟩) k qc) (l.take k) P Q)/\ Hid (Gr W wr (.slice (some ⟨w.heap.size+1,0,none⟩) 0 0) (.slice (some ⟨q,0,none⟩) k qc))) (fun _ i _=>l.length - (intOf i).toNat);case atStart=>exact⟨0,_,0,Nat.zero_le _,rfl,rfl,hid (fun j hj=>by omega),hid (by simpa using HLC0.out.low HLO.out),hid (Gr.refl _ _)⟩
 case round=>
  obtain⟨k,q,qc,hk,rfl,rfl,HJ,HL,HG⟩:=hrel;have hqc:=HL.out.cap;have hlk:(l.take k).length=k:=by simp;omega
  rw [hlk] at hqc;have i1:(0:Int)<=(k:Int):=Int.natCast_nonneg _;obtain⟨bR,xR,hq⟩:=HGW.out wr q k qc HG.out;have HBR:=hid bR;have HXR:=hid xR;have HQ:=hid hq;have HLK:=hid hlk;clear bR xR hq hlk;by_cases hlt:k<l.length
  ·have i2:(k:Int)<(l.length:Int):=by omega
   have hHr:=HH.out.below HBR.out;obtain⟨c0,c1,c2,c3,c4⟩:=hHr.cell rfl hlt;obtain⟨p1,p2,p3,p4,p5⟩:=hHr.pt k hlt;have HBF:=hid (fun w1 (b1:Below wr.heap.size wr w1)=>l3Before (some ⟨P k,0,none⟩) (some ⟨pb,0,none⟩) (Q k) pc (gL l k).p yp (gL l k).fl yf (gL l k).r (gL l k).q yr yq (gL l k).v yv w1 (HPL.out k hlt) hyl p5.1 HY.out.2.1 p5.2 HY.out.2.2 ((hHr.seg hlt).below b1) (.inr ⟨pb,0,rfl,by have h1:=HY.out.1.2;have h2:=HBR.out.size;have h3:=b1.size;omega,fun t ht=>by rw [Nat.zero_add];exact((HYW.out.same (HBR.out.block pb HY.out.1.2)).same (b1.block pb (by have h1:=HY.out.1.2;have h2:=HBR.out.size;omega))).cell ht⟩));have HAP:Hid (∀w1,Below wr.heap.size wr w1 ->∃q3 c3 w3,(Builtin.append_ #[23,23] 23 #[.slice (some ⟨q,0,none⟩) k qc,.slice (some ⟨w1.heap.size,0,none⟩) 1 1]).run Tryz.prog (w1.alloc (.cells #[.slice (some ⟨P k,0,none⟩) (gL l k).p.length (Q k),.bool (gL l k).fl,.int .i64 (gL l k).r,.int .i64 (gL l k).q,.string (gL l k).v] 65))=.ok (.slice (some ⟨q3,0,none⟩) (k+1) c3) w3/\ LC w3 lo (.slice (some ⟨q3,0,none⟩) (k+1) c3) (l.take (k+1)) P Q/\ Gr w1 w3 (.slice (some ⟨q,0,none⟩) k qc) (.slice (some ⟨q3,0,none⟩) (k+1) c3)):=hid (fun w1 b1=>by
    obtain⟨q3,c3,w3,e1,e2,e3⟩:=HL.out.app b1 (by have:=HLO.out;have:=HBR.out.size;omega) (by rw [HLK.out];omega) (gL l k) (P k) (Q k) p1 (by have:=b1.size;omega) (fun e=>by have:=own_eq e.symm;have h1:=(HPT.out k hlt).2;have h2:=HQ.out;omega) (p4.same (b1.block _ p2)) p5;rw [HLK.out] at e1 e2 e3;refine⟨q3,c3,w3,e1,?_,e3⟩;have et:l.take (k+1)=l.take k++[gL l k]:=by rw [List.take_add_one];simp [gL,List.getD,hlt]
    rw [et];exact e2.cast fun i hi=>by
     by_cases e:i=k
     ·rw [if_pos e,if_pos e,e];exact⟨rfl,rfl⟩
     ·rw [if_neg e,if_neg e];exact⟨rfl,rfl⟩)
   have HNX:Hid (yes (cmpL (gL l k) ⟨yp,yf,yr,yq,yv⟩<0)=true ->∀j,j<k+1 ->cmpL (gL l j) ⟨yp,yf,yr,yq,yv⟩<0):=hid (fun hB j hj=>by
    by_cases e:j=k
    ·rw [e];exact Classical.byContradiction fun hn=>by rw [yes_f hn] at hB;cases hB
    ·exact HJ.out j (by omega))
   have HST:Hid (yes (cmpL (gL l k) ⟨yp,yf,yr,yq,yv⟩<0)=false ->insL ⟨yp,yf,yr,yq,yv⟩ l=l.take k++(⟨yp,yf,yr,yq,yv⟩:Lf)::l.drop k):=hid (fun hB=>insL_at hk HJ.out (fun _ hn=>by rw [yes_t hn] at hB;cases hB));have HCS:Hid (∀w',Below wr.heap.size wr w' ->(w'.cell? ⟨g,k*5,none⟩=some (.slice (some ⟨P k,0,none⟩) (gL l k).p.length (Q k))/\ w'.cell? ⟨g,k*5+1,none⟩=some (.bool (gL l k).fl)/\ w'.cell? ⟨g,k*5+2,none⟩=some (.int .i64 (gL l k).r)/\ w'.cell? ⟨g,k*5+3,none⟩=some (.int .i64 (gL l k).q)/\ w'.cell? ⟨g,k*5+4,none⟩=some (.string (gL l k).v)/\ w'.cell? ⟨w.heap.size,0,none⟩=some (.slice (some ⟨pb,0,none⟩) yp.length pc)/\ w'.cell? ⟨w.heap.size,1,none⟩=some (.bool yf)/\ w'.cell? ⟨w.heap.size,2,none⟩=some (.int .i64 yr)/\ w'.cell? ⟨w.heap.size,3,none⟩=some (.int .i64 yq)/\ w'.cell? ⟨w.heap.size,4,none⟩=some (.string yv))):=hid (fun w' b1=>by
    have hgl:g<wr.heap.size:=by have h1:=HGL.out;have h2:=HBR.out.size;omega
    have q:=fun o=>b1.cell (p:=⟨g,o,none⟩) hgl;have X2:=HXR.out.below b1 HXR.out.lt;exact⟨(q _).trans c0,(q _).trans c1,(q _).trans c2,(q _).trans c3,(q _).trans c4,X2.c0,X2.c1,X2.c2,X2.c3,X2.c4⟩)
   obtain⟨x,hx⟩:∃x,gL l k=x:=⟨_,rfl⟩;obtain⟨Pk,hPk⟩:∃x,P k=x:=⟨_,rfl⟩;obtain⟨Qk,hQk⟩:∃x,Q k=x:=⟨_,rfl⟩;rw [hx,hPk,hQk] at HBF HAP HCS;rw [hx] at HNX HST;obtain⟨xp,xf,xr,xq,xv⟩:=x;dsimp only at HBF HAP HCS HNX HST;obtain⟨B,hB⟩:∃B,yes (cmpL (⟨xp,xf,xr,xq,xv⟩:Lf) ⟨yp,yf,yr,yq,yv⟩<0)=B:=⟨_,rfl⟩;rw [hB] at HBF HNX HST;clear hx hPk hQk hB hHr c0 c1 c2 c3 c4 p1 p2 p3 p4 p5;go_wp2_with fail;refine wp_region_held_drew (S:=fun w'=>w'.cell? ⟨g,k*5,none⟩=some (.slice (some ⟨Pk,0,none⟩) xp.length Qk)/\ w'.cell? ⟨g,k*5+1,none⟩=some (.bool xf)/\ w'.cell? ⟨g,k*5+2,none⟩=some (.int .i64 xr)/\ w'.cell? ⟨g,k*5+3,none⟩=some (.int .i64 xq)/\ w'.cell? ⟨g,k*5+4,none⟩=some (.string xv)/\ w'.cell? ⟨w.heap.size,0,none⟩=some (.slice (some ⟨pb,0,none⟩) yp.length pc)/\ w'.cell? ⟨w.heap.size,1,none⟩=some (.bool yf)/\ w'.cell? ⟨w.heap.size,2,none⟩=some (.int .i64 yr)/\ w'.cell? ⟨w.heap.size,3,none⟩=some (.int .i64 yq)/\ w'.cell? ⟨w.heap.size,4,none⟩=some (.string yv)) (by kernel_rfl) (HCS.out _ (Below.refl _ _).drew) (fun hHeld=> ?_);refine tZ 0 9 ?_;refine tZ 1 10 ?_;refine tZ 2 11 ?_;refine tZ 3 12 ?_;refine tZ 4 13 ?_;refine tZ 5 14 ?_;refine tZ 6 15 ?_;refine tZ 7 16 ?_;refine tZ 8 17 ?_;refine tZ 9 18 ?_;refine cZ 10 ?_;intro K hK;go_simp;refine(HBF.out _ (Below.refl _ _).drew).mono ?_;rintro e w1 ⟨rfl,b1⟩;have b1':Below wr.heap.size wr w1:=⟨b1.os,b1.tape,b1.output,b1.size,b1.block⟩;refine hK.out _ _ (HCS.out _ b1') (fun hHeld=> ?_);clear hK K;try simp only [Act.put,sZa,sZb,sZc]
   refine tZ 11 20 ?_;refine wpAnyH_done (by kernel_rfl) ?_ _;have HB1:=hid b1';obtain⟨c0,c1,c2,c3,c4,y0,y1,y2,y3,y4⟩:=HCS.out _ b1';clear hHeld b1 b1' HCS HBF;cases B with
   | true=>
    obtain⟨q3,qc3,w3,happ,l3,g3⟩:=HAP.out w1 HB1.out;have HL3:=hid l3;have HG3:=hid ((HG.out.trans (Gr.of_below HB1.out)).trans g3);have HJ3:=hid (HNX.out rfl);clear l3 g3 HAP HNX HST HJ HL HG;go_wp2_with (at_builtin;refine wpList_app2 rfl _ _ _ _ rfl happ (by rfl) (by rfl) rfl ?_;clear happ);go_roundw;case rel=>exact⟨k+1,q3,qc3,hlt,by go_num,rfl,HJ3,HL3,HG3⟩
    case measure=>simp [intOf];omega
   | false=>
    have HIN:=hid (HST.out rfl);obtain⟨q3,qc3,w3,happ,b3,hq3,hrest⟩:=HEX.out w1 k q qc hk (HL.out.below HB1.out) (HBR.out.trans (HB1.out.mono HBR.out.size)) HQ.out;obtain⟨q4,c4',w4,P',Q',happ2,b4,hq4,l4⟩:=hrest (k*5) (cap - k) (fun _=>rfl);have HB4:=hid b4;have HL4:=hid l4;have HQ4:=hid hq4;clear b3 hq3 hrest b4 l4 hq4 HAP HNX HST HJ HL HG;have i3:k<=cap:=by omega
    go_wp2_with (first|(at_builtin;refine wpList_app2 rfl _ _ _ _ rfl happ (by rfl) (by rfl) rfl ?_;clear happ)|(at_builtin;refine wpList_app2 rfl _ _ _ _ rfl happ2 (by rfl) (by rfl) rfl ?_;clear happ2));go_ret;first|exact⟨⟨q4,c4',rfl,HQ4.out,P',Q',by rw [HIN.out];exact HL4.out⟩,HB4.out⟩|exact⟨⟨q4,c4',P',Q',rfl,HQ4.out,by rw [HIN.out];exact HL4.out⟩,HB4.out⟩|exact⟨⟨q4,c4',rfl,P',Q',HQ4.out,by rw [HIN.out];exact HL4.out⟩,HB4.out⟩
  ·obtain rfl:k=l.length:=by omega
   have HIN:Hid (insL ⟨yp,yf,yr,yq,yv⟩ l=l.take l.length++(⟨yp,yf,yr,yq,yv⟩:Lf)::l.drop l.length):=hid (insL_at (Nat.le_refl _) HJ.out (fun h=>by omega));have HCS:Hid (∀w',Below wr.heap.size wr w' ->(w'.cell? ⟨w.heap.size,0,none⟩=some (.slice (some ⟨pb,0,none⟩) yp.length pc)/\ w'.cell? ⟨w.heap.size,1,none⟩=some (.bool yf)/\ w'.cell? ⟨w.heap.size,2,none⟩=some (.int .i64 yr)/\ w'.cell? ⟨w.heap.size,3,none⟩=some (.int .i64 yq)/\ w'.cell? ⟨w.heap.size,4,none⟩=some (.string yv))):=hid (fun w' b1=>by
    have X2:=HXR.out.below b1 HXR.out.lt;exact⟨X2.c0,X2.c1,X2.c2,X2.c3,X2.c4⟩)
   go_wp2_with fail;refine wp_region_held_drew (S:=fun w'=>True) (by kernel_rfl) trivial (fun hHeld=> ?_);refine tZ 0 9 ?_;refine tZ 1 10 ?_;refine tZ 2 11 ?_;refine tZ 3 12 ?_;refine tZ 4 13 ?_;refine uZ 5 14 ?_;refine uZ 6 15 ?_;refine uZ 7 16 ?_;refine uZ 8 17 ?_;refine uZ 9 18 ?_;refine uZ 10 19 ?_;refine tZ 11 20 ?_;refine wpAnyH_done (by kernel_rfl) ?_ _;obtain⟨y0,y1,y2,y3,y4⟩:=HCS.out _ (Below.refl _ _).drew;obtain⟨q3,qc3,w3,happ,b3,hq3,hrest⟩:=HEX.out wr.drew l.length q qc hk (HL.out.below (Below.refl _ _).drew) HBR.out.drew HQ.out;clear b3 hq3 HJ HL HG hHeld HCS;by_cases hcp:l.length<cap
   ·obtain⟨q4,c4',w4,P',Q',happ2,b4,hq4,l4⟩:=hrest (l.length*5) (cap - l.length) (fun _=>rfl);rw [Nat.sub_self] at happ2;have HB4:=hid b4;have HL4:=hid l4;have HQ4:=hid hq4;clear hrest b4 l4 hq4;go_wp2_with (first|(at_builtin;refine wpList_app2 rfl _ _ _ _ rfl happ (by rfl) (by rfl) rfl ?_;clear happ)|(at_builtin;refine wpList_app2 rfl _ _ _ _ rfl happ2 (by rfl) (by rfl) rfl ?_;clear happ2));go_ret;first|exact⟨⟨q4,c4',rfl,HQ4.out,P',Q',by rw [HIN.out];exact HL4.out⟩,HB4.out⟩|exact⟨⟨q4,c4',P',Q',rfl,HQ4.out,by rw [HIN.out];exact HL4.out⟩,HB4.out⟩|exact⟨⟨q4,c4',rfl,P',Q',HQ4.out,by rw [HIN.out];exact HL4.out⟩,HB4.out⟩
   ·obtain⟨q4,c4',w4,P',Q',happ2,b4,hq4,l4⟩:=hrest 0 0 (fun h=>by omega);rw [Nat.sub_self] at happ2;obtain rfl:cap=l.length:=by omega
    have HB4:=hid b4;have HL4:=hid l4;have HQ4:=hid hq4;clear hrest b4 l4 hq4;go_wp2_with (first|(at_builtin;refine wpList_app2 rfl _ _ _ _ rfl happ (by rfl) (by rfl) rfl ?_;clear happ)|(at_builtin;refine wpList_app2 rfl _ _ _ _ rfl happ2 (by rfl) (by rfl) rfl ?_;clear happ2));go_ret;first|exact⟨⟨q4,c4',rfl,HQ4.out,P',Q',by rw [HIN.out];exact HL4.out⟩,HB4.out⟩|exact⟨⟨q4,c4',P',Q',rfl,HQ4.out,by rw [HIN.out];exact HL4.out⟩,HB4.out⟩|exact⟨⟨q4,c4',rfl,P',Q',HQ4.out,by rw [HIN.out];exact HL4.out⟩,HB4.out⟩
end Go.Proofs.YtpfmeafmepgimaaGreat
