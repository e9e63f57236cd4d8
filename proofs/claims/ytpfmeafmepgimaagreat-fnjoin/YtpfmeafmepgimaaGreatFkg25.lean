import Derived.Test.YtpfmeafmepgimaaGreatFkg14
import Derived.Test.YtpfmeafmepgimaaGreatFkg24
import Derived.Test.YtpfmeafmepgimaaGreatFkg22
set_option linter.unusedVariables false
set_option linter.unusedSimpArgs false
set_option maxRecDepth 100000
set_option maxHeartbeats 40000000
namespace Go.Proofs.YtpfmeafmepgimaaGreat
open Go.ChangeShapes Go.WideShapes Go.ChangeAt Go.RowKit Go.Maps
theorem dotOk (r q:Int)(w:World):
  Calls Tryz.prog 143 #[.agg #[.int .i64 r,.int .i64 q]] w fun e w'=>e=.returned (.bool (runOkB r q q))/\ Below w.heap.size w w':=by
 have B0:Below w.heap.size w (w.alloc (.cells #[.int .i64 r,.int .i64 q] 63)):=(Below.refl _ _).alloc (Nat.le_refl _) _;have HB:=hid B0;clear B0;go_enter Tryz.func143,Tryz.ntmps143;go_wp2_with fail;refine(specRunOk r q q _).mono ?_;rintro e w1 ⟨rfl,b1⟩;have HZ:=hid (keepS HB.out b1);clear b1;go_wp2_with fail;go_ret;exact⟨rfl,HZ.out⟩
def nextOk (R F T:Nat ->Int)(rep:Int)(n:Nat):Bool:=ctxB R F T n && runOkB rep (topK R T rep n+1) (topK R T rep n+1)
theorem topK_bd {R F T:Nat ->Int}{n:Nat}(h:ctxB R F T n=true)(rep:Int):0<=topK R T rep n/\ topK R T rep n<=1000000000:=by
 have:=Lk_inv n (ctxB_iff.1 h).1;rw [this.2.2.1 rep];exact this.2.2.2 rep
theorem topK_i64 {R T:Nat ->Int}(hT:I64 T)(rep:Int)(k:Nat): -9223372036854775808<=topK R T rep k/\ topK R T rep k<=9223372036854775807:=by
 induction k with
 | zero=>simp [topK]
 | succ k ih=>
  simp only [topK];split
  ·exact hT k
  ·exact ih
theorem top_hit {R T:Nat ->Int}{rep:Int}{k:Nat}(h:R k=rep)(h2:topK R T rep k<T k):topK R T rep (k+1)=T k:=by
 show (if R k=rep/\ topK R T rep k<T k then T k else topK R T rep k)=_;rw [if_pos ⟨h,h2⟩]
theorem top_miss {R T:Nat ->Int}{rep:Int}{k:Nat}(h:¬(R k=rep/\ topK R T rep k<T k)):topK R T rep (k+1)=topK R T rep k:=by
 show (if R k=rep/\ topK R T rep k<T k then T k else topK R T rep k)=_;rw [if_neg h]
theorem vI {a b:Int}(h:a=b):Value.int .i64 a=.int .i64 b:=by rw [h]
theorem specNext (a:Option Addr)(n c:Nat)(R F T:Nat ->Int)(rep:Int)(w:World)(hn:n<=1048576)(h:RSeg w a n R F T)(hT:I64 T):
  Calls Tryz.prog 122 #[.agg #[.slice a n c],.int .i64 rep] w fun e w'=>
   (nextOk R F T rep n=true ->e=.returned (.tuple #[.agg #[.int .i64 rep,.int .i64 (topK R T rep n+1)],.bool true]))/\ (nextOk R F T rep n=false ->e=.returned (.tuple #[.agg #[.int .i64 0,.int .i64 0],.bool false]))/\ Below w.heap.size w w':=by
 obtain⟨W0,hW0⟩:∃W0,(w.alloc (.cells #[.slice a n c] 26)).alloc (.cells #[.int .i64 0,.int .i64 0] 63)=W0:=⟨_,rfl⟩;have bW:Below w.heap.size w W0:=by rw [<- hW0];exact below2 _ _ _
 have zW:W0.heap.size=w.heap.size+2:=by rw [<- hW0];simp
 have hbox:W0.cell? ⟨w.heap.size,0,none⟩=some (.slice a n c):=by rw [<- hW0];simp
 have x0:W0.cell? ⟨w.heap.size+1,0,none⟩=some (.int .i64 0):=by rw [<- hW0];simp
 have x1:W0.cell? ⟨w.heap.size+1,1,none⟩=some (.int .i64 0):=by rw [<- hW0];simp
 have f0:W0.frozen? ⟨w.heap.size+1,0,none⟩=false:=by rw [<- hW0];simp
 have f1:W0.frozen? ⟨w.heap.size+1,1,none⟩=false:=by rw [<- hW0];simp
 have h1:=h.below bW;go_enter Tryz.func122,Tryz.ntmps122;go_wp2_with fail;try rw [hW0]
 go_loop [6,7] (fun t i=>∃k:Nat,k<=n/\ i=.int .i64 k/\ t=.int .i64 (topK R T rep k)) (fun _ i=>n - (intOf i).toNat);case atStart=>exact⟨0,Nat.zero_le _,rfl,rfl⟩
 case round=>
  obtain⟨k,hk,rfl,rfl⟩:=hrel;have htk:=topK_i64 (R:=R) hT rep k;by_cases hlt:k<n
  ·rcases h1 with h1|⟨b,off,rfl,hb,hc⟩
   ·omega
   have c0:=(hc k hlt).1;have c2:=(hc k hlt).2.2;clear hc h;by_cases e1:R k=rep
   ·have t1:(R k==rep)=true:=by simp;exact e1
    by_cases e2:topK R T rep k<T k
    ·have HE:=hid (top_hit e1 e2);have H1:=hid e1;clear e1;generalize topK R T rep k=tk at*;go_wp2_with fail;go_round;case rel=>exact⟨k+1,hlt,by go_num,vI HE.out.symm⟩
     case measure=>simp [intOf];omega
    ·have HE:=hid (top_miss (R:=R) (T:=T) (rep:=rep) (k:=k) (fun hh=>e2 hh.2));clear e1;generalize topK R T rep k=tk at*;go_wp2_with fail;go_round;case rel=>exact⟨k+1,hlt,by go_num,vI HE.out.symm⟩
     case measure=>simp [intOf];omega
   ·have t1:(R k==rep)=false:=by simp;exact e1
    have HE:=hid (top_miss (R:=R) (T:=T) (rep:=rep) (k:=k) (fun hh=>e1 hh.1));clear e1;generalize topK R T rep k=tk at*;go_wp2_with fail;go_round;case rel=>exact⟨k+1,hlt,by go_num,vI HE.out.symm⟩
    case measure=>simp [intOf];omega
  ·obtain rfl:k=n:=by omega
   clear h hk;cases hcx:ctxB R F T k with
   | false=>
    have HN:Hid (nextOk R F T rep k=false):=by unfold Hid nextOk;rw [hcx];rfl
    obtain⟨W3,hW3⟩:∃W3,W0.alloc (.cells #[.int .i64 rep,.int .i64 (wrap64 (topK R T rep k+1))] 63)=W3:=⟨_,rfl⟩;have b3:Below W0.heap.size W0 W3:=by rw [<- hW3];exact(Below.refl _ _).alloc (Nat.le_refl _) _
    have z3:W3.heap.size=w.heap.size+3:=by rw [<- hW3];simp;omega
    have d0:W3.cell? ⟨w.heap.size+2,0,none⟩=some (.int .i64 rep):=by rw [<- hW3,<- zW];simp
    have d1:W3.cell? ⟨w.heap.size+2,1,none⟩=some (.int .i64 (wrap64 (topK R T rep k+1))):=by rw [<- hW3,<- zW];simp
    have B03:=bW.trans (b3.mono (by omega));have y0:=(b3.cell (p:=⟨w.heap.size+1,0,none⟩) (show w.heap.size+1<W0.heap.size by omega)).trans x0;have y1:=(b3.cell (p:=⟨w.heap.size+1,1,none⟩) (show w.heap.size+1<W0.heap.size by omega)).trans x1;have g0:=(b3.frozen (p:=⟨w.heap.size+1,0,none⟩) (show w.heap.size+1<W0.heap.size by omega)).trans f0;have g1:=(b3.frozen (p:=⟨w.heap.size+1,1,none⟩) (show w.heap.size+1<W0.heap.size by omega)).trans f1;have hbox3:=(b3.cell (p:=⟨w.heap.size,0,none⟩) (show w.heap.size<W0.heap.size by omega)).trans hbox;have h3:=h1.below b3;clear h1 b3 hW0;go_wp2_with fail;try rw [hW3]
    clear hW3 hbox hbox3 x0 x1 f0 f1;refine(specOk a k c R F T _ hn h3).mono ?_;rintro e w4 ⟨rfl,b4⟩;rw [hcx];have z4:=b4.size;have q0:=(b4.cell (p:=⟨w.heap.size+1,0,none⟩) (show w.heap.size+1<W3.heap.size by omega)).trans y0;have q1:=(b4.cell (p:=⟨w.heap.size+1,1,none⟩) (show w.heap.size+1<W3.heap.size by omega)).trans y1;have p0:=(b4.frozen (p:=⟨w.heap.size+1,0,none⟩) (show w.heap.size+1<W3.heap.size by omega)).trans g0;have p1:=(b4.frozen (p:=⟨w.heap.size+1,1,none⟩) (show w.heap.size+1<W3.heap.size by omega)).trans g1;have dd0:=(b4.cell (p:=⟨w.heap.size+2,0,none⟩) (show w.heap.size+2<W3.heap.size by omega)).trans d0;have dd1:=(b4.cell (p:=⟨w.heap.size+2,1,none⟩) (show w.heap.size+2<W3.heap.size by omega)).trans d1;have HB4:=hid (keepS B03 b4);clear y0 y1 g0 g1 d0 d1 h3 b4 B03 hcx;go_wp2_with fail;refine bodyPost_ret (v:=.tuple #[.agg #[.int .i64 0,.int .i64 0],.bool false]) (by simp [results,Tryz.results122,go_sem,q0,q1]) rfl ⟨(fun h=>by have:=HN.out.symm.trans h;cases this),(fun _=>rfl),?_⟩;exact(HB4.out.setCell (by simp) _).setCell (by simp) _
   | true=>
    have htb:=topK_bd hcx rep;cases hdo:runOkB rep (topK R T rep k+1) (topK R T rep k+1) with
    | false=>
     have HN:Hid (nextOk R F T rep k=false):=by unfold Hid nextOk;rw [hcx,hdo];rfl
     clear htk;generalize hgt:topK R T rep k=tk at*;have HT:=hid hgt;clear hgt;obtain⟨W3,hW3⟩:∃W3,W0.alloc (.cells #[.int .i64 rep,.int .i64 (tk+1)] 63)=W3:=⟨_,rfl⟩;have b3:Below W0.heap.size W0 W3:=by rw [<- hW3];exact(Below.refl _ _).alloc (Nat.le_refl _) _
     have z3:W3.heap.size=w.heap.size+3:=by rw [<- hW3];simp;omega
     have d0:W3.cell? ⟨w.heap.size+2,0,none⟩=some (.int .i64 rep):=by rw [<- hW3,<- zW];simp
     have d1:W3.cell? ⟨w.heap.size+2,1,none⟩=some (.int .i64 (tk+1)):=by rw [<- hW3,<- zW];simp
     have B03:=bW.trans (b3.mono (by omega));have y0:=(b3.cell (p:=⟨w.heap.size+1,0,none⟩) (show w.heap.size+1<W0.heap.size by omega)).trans x0;have y1:=(b3.cell (p:=⟨w.heap.size+1,1,none⟩) (show w.heap.size+1<W0.heap.size by omega)).trans x1;have g0:=(b3.frozen (p:=⟨w.heap.size+1,0,none⟩) (show w.heap.size+1<W0.heap.size by omega)).trans f0;have g1:=(b3.frozen (p:=⟨w.heap.size+1,1,none⟩) (show w.heap.size+1<W0.heap.size by omega)).trans f1;have hbox3:=(b3.cell (p:=⟨w.heap.size,0,none⟩) (show w.heap.size<W0.heap.size by omega)).trans hbox;have h3:=h1.below b3;clear h1 b3 hW0;go_wp2_with fail;try rw [hW3]
     clear hW3 hbox hbox3 x0 x1 f0 f1;refine(specOk a k c R F T _ hn h3).mono ?_;rintro e w4 ⟨rfl,b4⟩;rw [hcx];have z4:=b4.size;have q0:=(b4.cell (p:=⟨w.heap.size+1,0,none⟩) (show w.heap.size+1<W3.heap.size by omega)).trans y0;have q1:=(b4.cell (p:=⟨w.heap.size+1,1,none⟩) (show w.heap.size+1<W3.heap.size by omega)).trans y1;have p0:=(b4.frozen (p:=⟨w.heap.size+1,0,none⟩) (show w.heap.size+1<W3.heap.size by omega)).trans g0;have p1:=(b4.frozen (p:=⟨w.heap.size+1,1,none⟩) (show w.heap.size+1<W3.heap.size by omega)).trans g1;have dd0:=(b4.cell (p:=⟨w.heap.size+2,0,none⟩) (show w.heap.size+2<W3.heap.size by omega)).trans d0;have dd1:=(b4.cell (p:=⟨w.heap.size+2,1,none⟩) (show w.heap.size+2<W3.heap.size by omega)).trans d1;have HB4:=hid (keepS B03 b4);clear y0 y1 g0 g1 d0 d1 h3 b4 B03 hcx;go_wp2_with fail;refine(dotOk rep (tk+1) _).mono ?_;rintro e w5 ⟨rfl,b5⟩;rw [hdo];have q0':=(b5.cell (p:=⟨w.heap.size+1,0,none⟩) (show w.heap.size+1<w4.heap.size by omega)).trans q0;have q1':=(b5.cell (p:=⟨w.heap.size+1,1,none⟩) (show w.heap.size+1<w4.heap.size by omega)).trans q1;have p0':=(b5.frozen (p:=⟨w.heap.size+1,0,none⟩) (show w.heap.size+1<w4.heap.size by omega)).trans p0;have p1':=(b5.frozen (p:=⟨w.heap.size+1,1,none⟩) (show w.heap.size+1<w4.heap.size by omega)).trans p1;have HB5:=hid (keepS HB4.out b5);clear q0 q1 p0 p1 b5 hdo dd0 dd1;go_wp2_with fail;refine bodyPost_ret (v:=.tuple #[.agg #[.int .i64 0,.int .i64 0],.bool false]) (by simp [results,Tryz.results122,go_sem,q0',q1']) rfl ⟨(fun h=>by have:=HN.out.symm.trans h;cases this),(fun _=>rfl),?_⟩;exact(HB5.out.setCell (by simp) _).setCell (by simp) _
    | true=>
     have HN:Hid (nextOk R F T rep k=true):=by unfold Hid nextOk;rw [hcx,hdo];rfl
     clear htk;generalize hgt:topK R T rep k=tk at*;have HT:=hid hgt;clear hgt;obtain⟨W3,hW3⟩:∃W3,W0.alloc (.cells #[.int .i64 rep,.int .i64 (tk+1)] 63)=W3:=⟨_,rfl⟩;have b3:Below W0.heap.size W0 W3:=by rw [<- hW3];exact(Below.refl _ _).alloc (Nat.le_refl _) _
     have z3:W3.heap.size=w.heap.size+3:=by rw [<- hW3];simp;omega
     have d0:W3.cell? ⟨w.heap.size+2,0,none⟩=some (.int .i64 rep):=by rw [<- hW3,<- zW];simp
     have d1:W3.cell? ⟨w.heap.size+2,1,none⟩=some (.int .i64 (tk+1)):=by rw [<- hW3,<- zW];simp
     have B03:=bW.trans (b3.mono (by omega));have y0:=(b3.cell (p:=⟨w.heap.size+1,0,none⟩) (show w.heap.size+1<W0.heap.size by omega)).trans x0;have y1:=(b3.cell (p:=⟨w.heap.size+1,1,none⟩) (show w.heap.size+1<W0.heap.size by omega)).trans x1;have g0:=(b3.frozen (p:=⟨w.heap.size+1,0,none⟩) (show w.heap.size+1<W0.heap.size by omega)).trans f0;have g1:=(b3.frozen (p:=⟨w.heap.size+1,1,none⟩) (show w.heap.size+1<W0.heap.size by omega)).trans f1;have hbox3:=(b3.cell (p:=⟨w.heap.size,0,none⟩) (show w.heap.size<W0.heap.size by omega)).trans hbox;have h3:=h1.below b3;clear h1 b3 hW0;go_wp2_with fail;try rw [hW3]
     clear hW3 hbox hbox3 x0 x1 f0 f1;refine(specOk a k c R F T _ hn h3).mono ?_;rintro e w4 ⟨rfl,b4⟩;rw [hcx];have z4:=b4.size;have q0:=(b4.cell (p:=⟨w.heap.size+1,0,none⟩) (show w.heap.size+1<W3.heap.size by omega)).trans y0;have q1:=(b4.cell (p:=⟨w.heap.size+1,1,none⟩) (show w.heap.size+1<W3.heap.size by omega)).trans y1;have p0:=(b4.frozen (p:=⟨w.heap.size+1,0,none⟩) (show w.heap.size+1<W3.heap.size by omega)).trans g0;have p1:=(b4.frozen (p:=⟨w.heap.size+1,1,none⟩) (show w.heap.size+1<W3.heap.size by omega)).trans g1;have dd0:=(b4.cell (p:=⟨w.heap.size+2,0,none⟩) (show w.heap.size+2<W3.heap.size by omega)).trans d0;have dd1:=(b4.cell (p:=⟨w.heap.size+2,1,none⟩) (show w.heap.size+2<W3.heap.size by omega)).trans d1;have HB4:=hid (keepS B03 b4);clear y0 y1 g0 g1 d0 d1 h3 b4 B03 hcx;go_wp2_with fail;refine(dotOk rep (tk+1) _).mono ?_;rintro e w5 ⟨rfl,b5⟩;rw [hdo];have q0':=(b5.cell (p:=⟨w.heap.size+1,0,none⟩) (show w.heap.size+1<w4.heap.size by omega)).trans q0;have q1':=(b5.cell (p:=⟨w.heap.size+1,1,none⟩) (show w.heap.size+1<w4.heap.size by omega)).trans q1;have p0':=(b5.frozen (p:=⟨w.heap.size+1,0,none⟩) (show w.heap.size+1<w4.heap.size by omega)).trans p0;have p1':=(b5.frozen (p:=⟨w.heap.size+1,1,none⟩) (show w.heap.size+1<w4.heap.size by omega)).trans p1;have dd0':=(b5.cell (p:=⟨w.heap.size+2,0,none⟩) (show w.heap.size+2<w4.heap.size by omega)).trans dd0;have dd1':=(b5.cell (p:=⟨w.heap.size+2,1,none⟩) (show w.heap.size+2<w4.heap.size by omega)).trans dd1;have HB5:=hid (keepS HB4.out b5);clear q0 q1 p0 p1 b5 hdo dd0 dd1;go_wp2_with fail;refine bodyPost_ret (v:=.tuple #[.agg #[.int .i64 rep,.int .i64 (tk+1)],.bool true]) (by simp [results,Tryz.results122,go_sem,q0',q1']) rfl ⟨(fun _=>by rw [HT.out]),(fun h=>by have:=HN.out.symm.trans h;cases this),?_⟩;exact(HB5.out.setCell (by simp) _).setCell (by simp) _
noncomputable def chF (S D:Sx):Bool:=jnF S D && (decide (D.l.length<=1000) && decide (D.n<=1000))
noncomputable def chX (S D:Sx):Sx:=if chF S D then jnS S D else Sx.mt
noncomputable def chY (S D:Sx):Sx:=if chF S D then D else Sx.mt
noncomputable def chC (S D:Sx):Int:=if chF S D then 0 else 4
theorem ch_t {S D:Sx}(h:chF S D=true):chX S D=jnS S D/\ chY S D=D/\ chC S D=0:=by unfold chX chY chC;rw [if_pos h,if_pos h,if_pos h];exact⟨rfl,rfl,rfl⟩
theorem ch_f {S D:Sx}(h:chF S D=false):chX S D=Sx.mt/\ chY S D=Sx.mt/\ chC S D=4:=by unfold chX chY chC;rw [if_neg (by rw [h];simp),if_neg (by rw [h];simp),if_neg (by rw [h];simp)];exact⟨rfl,rfl,rfl⟩
noncomputable def ocC (S:Sx)(p:List ByteArray)(v:ByteArray):Int:=if stB S=true then(if yes (PthOk p/\ v.size<=200)=true then 0 else 2) else 1
theorem ocC_1 {S:Sx}{p:List ByteArray}{v:ByteArray}(h:stB S=false):ocC S p v=1:=by unfold ocC;rw [if_neg (by rw [h];simp)]
theorem ocC_2 {S:Sx}{p:List ByteArray}{v:ByteArray}(h:stB S=true)(hn:¬(PthOk p/\ v.size<=200)):ocC S p v=2:=by unfold ocC;rw [if_pos h,if_neg (by rw [yes_f hn];simp)]
theorem ocC_0 {S:Sx}{p:List ByteArray}{v:ByteArray}(h:stB S=true)(hn:PthOk p/\ v.size<=200):ocC S p v=0:=by unfold ocC;rw [if_pos h,if_pos (yes_t hn)]
theorem ocC_ok {S:Sx}{p:List ByteArray}{v:ByteArray}(h:ocC S p v=0):stB S=true/\ PthOk p/\ v.size<=200:=by
 cases hb:stB S with
 | false=>rw [ocC_1 hb] at h;cases h
 | true=>
  by_cases hn:PthOk p/\ v.size<=200
  ·exact⟨rfl,hn⟩
  ·rw [ocC_2 hb hn] at h;cases h
noncomputable def rmD (S:Sx)(p:List ByteArray):Sx:=dlS (gnR p) S.l []
noncomputable def rmX (S:Sx)(p:List ByteArray):Sx:=if ocC S p ⟨#[]⟩=0 then chX S (rmD S p) else Sx.mt
noncomputable def rmY (S:Sx)(p:List ByteArray):Sx:=if ocC S p ⟨#[]⟩=0 then chY S (rmD S p) else Sx.mt
noncomputable def rmC (S:Sx)(p:List ByteArray):Int:=if ocC S p ⟨#[]⟩=0 then chC S (rmD S p) else ocC S p ⟨#[]⟩
theorem rm_t {S:Sx}{p:List ByteArray}(h:ocC S p ⟨#[]⟩=0):rmX S p=chX S (rmD S p)/\ rmY S p=chY S (rmD S p)/\ rmC S p=chC S (rmD S p):=by unfold rmX rmY rmC;rw [if_pos h,if_pos h,if_pos h];exact⟨rfl,rfl,rfl⟩
theorem rm_f {S:Sx}{p:List ByteArray}(h:ocC S p ⟨#[]⟩≠0):rmX S p=Sx.mt/\ rmY S p=Sx.mt/\ rmC S p=ocC S p ⟨#[]⟩:=by unfold rmX rmY rmC;rw [if_neg h,if_neg h,if_neg h];exact⟨rfl,rfl,rfl⟩
theorem topK_ge {R T:Nat ->Int}{rep:Int}:∀{n k:Nat},k<n ->R k=rep ->T k<=topK R T rep n
 | 0,k,h,_=>by omega
 | n+1,k,h,e=>by
  have mono:topK R T rep n<=topK R T rep (n+1):=by
   show _<=(if R n=rep/\ topK R T rep n<T n then T n else topK R T rep n);split<;>omega
  by_cases ek:k=n
  ·subst ek;show _<=(if R k=rep/\ topK R T rep k<T k then T k else topK R T rep k);split
   ·omega
   ·next hn=>exact Int.not_lt.1 (fun hlt=>hn ⟨e,hlt⟩)
  ·exact Int.le_trans (topK_ge (by omega) e) mono
def nxOk (S:Sx)(rep:Int):Prop:=(0<=rep/\ rep<8)/\ topK S.R S.T rep S.n+1<=1000000000
def nxY (S:Sx)(rep:Int)(p:List ByteArray)(fl:Bool)(v:ByteArray):Lf:=⟨p,fl,rep,topK S.R S.T rep S.n+1,v⟩
theorem nx_pto {S:Sx}{rep:Int}{p:List ByteArray}{fl:Bool}{v:ByteArray}(hs:StOk S.R S.F S.T S.n S.l)(hp:PthOk p)(hv:v.size<=200)(hf:fl=true ->emB v=true)(h:nxOk S rep):PtO S [nxY S rep p fl v]:=by
 have hb:=topK_bd hs.1 rep;have h2:=h.2;have h1:=h.1;refine⟨by simp,fun y hy=> ?_,fun y hy=> ?_,fun y hy hx=> ?_⟩
 ·rw [List.mem_singleton.1 hy];exact⟨hp,hv,hf⟩
 ·rw [List.mem_singleton.1 hy];unfold Rok dtR nxY;simp only;omega
 ·rw [List.mem_singleton.1 hy] at hx;obtain⟨k,hk,e1,e2,e3⟩:=jhas_at S.R S.F S.T _ _ _ S.n hx;have:=topK_ge (R:=S.R) (T:=S.T) (rep:=rep) hk (by first|exact e1|exact e1.symm);unfold nxY at e3;simp only at e3;omega
section
variable {S : Sx} {rep : Int} {p : List ByteArray} {fl : Bool} {v : ByteArray}
end
end Go.Proofs.YtpfmeafmepgimaaGreat
namespace Go.Proofs.YtpfmeafmepgimaaGreat
open Go.ChangeShapes Go.WideShapes Go.ChangeAt Go.RowKit
def hgN (N N1:List Ky ->Option (Nat×Nat))(k:Ky):List Ky ->Option (Nat×Nat)
 | []=>N []
 | y::r=>if y=k then N1 r else N (y::r)
def hgM (M M1:List Ky ->Dt ->Option ByteArray)(k:Ky):List Ky ->Dt ->Option ByteArray
 | []=>M []
 | y::r=>if y=k then M1 r else M (y::r)
def ApN (N N1:List Ky ->Option (Nat×Nat)):Prop:=∀p q x y,N p=some x ->N1 q=some y ->x.1≠y.1/\ x.1≠y.2/\ x.2≠y.1/\ x.2≠y.2
section
variable {w w' : World} {B c : Nat} {N N1 : List Ky -> Option (Nat × Nat)} {M M1 : List Ky -> Dt -> Option ByteArray}
theorem Tre.hang {x0 x1:Nat×Nat}{k:Ky}(h:Tre w B N M c)(h1:Tre w B N1 M1 c)(hN:N []=some x0)(hN1:N1 []=some x1)(hap:ApN N N1)(hg:w.grownBy w' (some x0.1))(hm:MapF w' 102 keyV nodV x0.1 (c+1) (fun y=>if y=k then some x1 else N [y])):Tre w' B (hgN N N1 k) (hgM M M1 k) (c+1):=by
 have sameK:∀p x,N p=some x ->p≠[] ->w'.heap[x.1]? =w.heap[x.1]? :=fun p x hx hp=>hg.block _ (h.lt hx).1 (fun e=>hp ((h.apart p [] x x0 hx hN).2.1 (by injection e)));have sameM:∀p x,N p=some x ->w'.heap[x.2]? =w.heap[x.2]? :=fun p x hx=>hg.block _ (h.lt hx).2 (fun e=>(h.apart [] p x0 x hN hx).1 (by injection e with e;exact e.symm));have same1:∀p x,N1 p=some x ->w'.heap[x.1]? =w.heap[x.1]? /\ w'.heap[x.2]? =w.heap[x.2]? :=fun p x hx=>by
  have a:=hap [] p x0 x hN hx;exact⟨hg.block _ (h1.lt hx).1 (fun e=>a.1 (by injection e with e;exact e.symm)),hg.block _ (h1.lt hx).2 (fun e=>a.2.1 (by injection e with e;exact e.symm))⟩
 have cs:∀p x,hgN N N1 k p=some x ->(p=[]/\ x=x0) \/(∃r,p=k::r/\ N1 r=some x) \/(∃y r,p=y::r/\ y≠k/\ N (y::r)=some x):=fun p x hx=>by
  cases p with
  | nil=>exact .inl ⟨rfl,by simp only [hgN] at hx;rw [hN] at hx;exact(Option.some.inj hx).symm⟩
  | cons y r=>
   simp only [hgN] at hx;by_cases e:y=k
   ·rw [if_pos e] at hx;exact .inr (.inl ⟨r,by rw [e],hx⟩)
   ·rw [if_neg e] at hx;exact .inr (.inr ⟨y,r,rfl,e,hx⟩)
 refine⟨fun p x hx=> ?_,fun p x hx=> ?_,fun p q x y hx hy=> ?_,fun p x hx=> ?_,fun p hp=> ?_,fun p y hp=> ?_⟩
 ·rcases cs p x hx with ⟨rfl,rfl⟩|⟨r,rfl,h2⟩|⟨y,r,rfl,hne,h2⟩
  ·refine hm.ext fun y=> ?_;show (if y=k then some x1 else N [y])=hgN N N1 k [y];simp only [hgN];by_cases e:y=k
   ·rw [if_pos e,if_pos e,hN1]
   ·rw [if_neg e,if_neg e]
  ·refine(((h1.kids r x h2).same (same1 r x h2).1).mono (Nat.le_succ _)).ext fun z=> ?_;show N1 (r++[z])=hgN N N1 k (k::(r++[z]));simp [hgN]
  ·refine(((h.kids _ x h2).same (sameK _ x h2 (by simp))).mono (Nat.le_succ _)).ext fun z=> ?_;show N (y::r++[z])=hgN N N1 k (y::(r++[z]));simp [hgN,hne]
 ·rcases cs p x hx with ⟨rfl,rfl⟩|⟨r,rfl,h2⟩|⟨y,r,rfl,hne,h2⟩
  ·exact((h.marks [] x hN).same (sameM [] x hN)).mono (Nat.le_succ _)
  ·refine(((h1.marks r x h2).same (same1 r x h2).2).mono (Nat.le_succ _)).ext fun d=> ?_;simp [hgM]
  ·refine(((h.marks _ x h2).same (sameM _ x h2)).mono (Nat.le_succ _)).ext fun d=> ?_;simp [hgM,hne]
 ·rcases cs p x hx with ⟨rfl,rfl⟩|⟨r,rfl,h2⟩|⟨u,r,rfl,hne,h2⟩
  ·rcases cs q y hy with ⟨rfl,rfl⟩|⟨s,rfl,g2⟩|⟨v,s,rfl,gne,g2⟩
   ·exact h.apart [] [] _ _ hN hN
   ·have a:=hap [] s x y hN g2;exact⟨a.2.1,fun e=>absurd e a.1,fun e=>absurd e a.2.2.2⟩
   ·exact h.apart [] _ _ _ hN g2
  ·rcases cs q y hy with ⟨rfl,rfl⟩|⟨s,rfl,g2⟩|⟨v,s,rfl,gne,g2⟩
   ·have a:=hap [] r y x hN h2;exact⟨fun e=>a.2.2.1 e.symm,fun e=>absurd e.symm a.1,fun e=>absurd e.symm a.2.2.2⟩
   ·have a:=h1.apart r s x y h2 g2;exact⟨a.1,fun e=>by rw [a.2.1 e],fun e=>by rw [a.2.2 e]⟩
   ·have a:=hap _ r y x g2 h2;exact⟨fun e=>a.2.2.1 e.symm,fun e=>absurd e.symm a.1,fun e=>absurd e.symm a.2.2.2⟩
  ·rcases cs q y hy with ⟨rfl,rfl⟩|⟨s,rfl,g2⟩|⟨v,s,rfl,gne,g2⟩
   ·exact h.apart _ [] _ _ h2 hN
   ·have a:=hap _ s x y h2 g2;exact⟨a.2.1,fun e=>absurd e a.1,fun e=>absurd e a.2.2.2⟩
   ·exact h.apart _ _ _ _ h2 g2
 ·rcases cs p x hx with ⟨rfl,rfl⟩|⟨r,rfl,h2⟩|⟨y,r,rfl,hne,h2⟩
  ·exact h.lo [] _ hN
  ·exact h1.lo r x h2
  ·exact h.lo _ x h2
 ·cases p with
  | nil=>simp only [hgN] at hp;rw [hN] at hp;cases hp
  | cons y r=>
   simp only [hgN] at hp;by_cases e:y=k
   ·rw [if_pos e] at hp;show hgM M M1 k (y::r)=_;simp only [hgM];rw [if_pos e];exact h1.none' r hp
   ·rw [if_neg e] at hp;show hgM M M1 k (y::r)=_;simp only [hgM];rw [if_neg e];exact h.none' _ hp
 ·cases p with
  | nil=>simp only [hgN] at hp;rw [hN] at hp;cases hp
  | cons z r=>
   simp only [hgN,List.cons_append] at hp ⊢;by_cases e:z=k
   ·rw [if_pos e] at hp ⊢;exact h1.up r y hp
   ·rw [if_neg e] at hp ⊢;exact h.up (z::r) y hp
end
noncomputable def mJ (J:List Lf)(z:List Ky)(K:Ky ->Prop):List Ky ->Dt ->Option ByteArray
 | []=>Mk J J.length z
 | y::r=>if yes (K y)=true then Mk J J.length (z++y::r) else fun _=>none
def Ah (J:List Lf)(z:List Ky):Prop:=∃x∈J,z <+:Way x
structure JT (w:World)(B:Nat)(J:List Lf)(z:List Ky)(K:Ky ->Prop)(N:List Ky ->Option (Nat×Nat))(c:Nat)(x0:Nat×Nat):Prop where
 tre:Tre w B N (mJ J z K) c
 root:N []=some x0
 there:∀y r,(N (y::r)).isSome=true↔K y/\ Ah J (z++y::r)
structure JF (w:World)(B:Nat)(J:List Lf)(z:List Ky)(N:List Ky ->Option (Nat×Nat))(c:Nat)(x0:Nat×Nat):Prop where
 tre:Tre w B N (fun r=>Mk J J.length (z++r)) c
 root:N []=some x0
 there:∀y r,(N (y::r)).isSome=true↔Ah J (z++y::r)
theorem JT.full {w:World}{B:Nat}{J:List Lf}{z:List Ky}{K:Ky ->Prop}{N:List Ky ->Option (Nat×Nat)}{c:Nat}{x0:Nat×Nat}(h:JT w B J z K N c x0)(hK:∀y,Ah J (z++[y]) ->K y):JF w B J z N c x0:=by
 have up:∀y r,Ah J (z++y::r) ->Ah J (z++[y]):=fun y r ⟨x,hx,hp⟩=>⟨x,hx,List.IsPrefix.trans (by rw [show z++y::r=(z++[y])++r by simp];exact List.prefix_append _ _) hp⟩;have em:mJ J z K=fun r=>Mk J J.length (z++r):=by
  funext r;cases r with
  | nil=>simp [mJ]
  | cons y r=>
   simp only [mJ];by_cases e:K y
   ·rw [if_pos (yes_t e)]
   ·rw [if_neg (by rw [yes_f e];simp)];funext d;cases hv:Mk J J.length (z++y::r) d with
    | none=>rfl
    | some v=>
     obtain⟨j,hj,h2,_⟩:=Mk_ne.1 (show Mk J J.length (z++y::r) d≠none by rw [hv];simp);exact absurd (hK y (up y r ⟨gL J j,gL_mem.2 ⟨j,hj,rfl⟩,by rw [h2];exact List.prefix_refl _⟩)) e
 exact⟨by rw [<- em];exact h.tre,h.root,fun y r=>(h.there y r).trans ⟨fun g=>g.2,fun g=>⟨hK y (up y r g),g⟩⟩⟩
theorem JT.hang {w w':World}{B:Nat}{J:List Lf}{z:List Ky}{K:Ky ->Prop}{N N1:List Ky ->Option (Nat×Nat)}{c:Nat}{x0 x1:Nat×Nat}{y:Ky}(h:JT w B J z K N c x0)(h1:JF w B J (z++[y]) N1 c x1)(hy:¬K y)(ha:Ah J (z++[y]))(hap:ApN N N1)(hg:w.grownBy w' (some x0.1))(hm:MapF w' 102 keyV nodV x0.1 (c+1) (fun u=>if u=y then some x1 else N [u])):
  JT w' B J z (fun u=>K u \/u=y) (hgN N N1 y) (c+1) x0:=by
 have ht:=h.tre.hang h1.tre h.root h1.root hap hg hm;have em:hgM (mJ J z K) (fun r=>Mk J J.length ((z++[y])++r)) y=mJ J z (fun u=>K u \/u=y):=by
  funext r;cases r with
  | nil=>rfl
  | cons u r=>
   simp only [hgM,mJ];by_cases e:u=y
   ·rw [if_pos e,if_pos (yes_t (.inr e)),e];simp
   ·rw [if_neg e];by_cases e2:K u
    ·rw [if_pos (yes_t e2),if_pos (yes_t (.inl e2))]
    ·rw [if_neg (by rw [yes_f e2];simp),if_neg (by rw [yes_f (fun hh=>hh.elim e2 e)];simp)]
 rw [em] at ht;refine⟨ht,h.root,fun u r=> ?_⟩;simp only [hgN];by_cases e:u=y
 ·rw [if_pos e];cases r with
  | nil=>rw [h1.root,e];exact⟨fun _=>⟨.inr rfl,ha⟩,fun _=>rfl⟩
  | cons v r=>
   rw [h1.there v r,e];rw [show z++[y]++v::r=z++y::v::r by simp];exact⟨fun g=>⟨.inr rfl,g⟩,fun g=>g.2⟩
 ·rw [if_neg e,h.there u r];exact⟨fun g=>⟨.inl g.1,g.2⟩,fun g=>⟨g.1.resolve_right e,g.2⟩⟩
theorem JT.skip {w:World}{B:Nat}{J:List Lf}{z:List Ky}{K:Ky ->Prop}{N:List Ky ->Option (Nat×Nat)}{c:Nat}{x0:Nat×Nat}{y:Ky}(h:JT w B J z K N c x0)(hy:¬K y)(ha:¬Ah J (z++[y])):JT w B J z (fun u=>K u \/u=y) N c x0:=by
 have up:∀r,¬Ah J (z++y::r):=fun r ⟨x,hx,hp⟩=>ha ⟨x,hx,List.IsPrefix.trans (by rw [show z++y::r=(z++[y])++r by simp];exact List.prefix_append _ _) hp⟩;have em:mJ J z K=mJ J z (fun u=>K u \/u=y):=by
  funext r;cases r with
  | nil=>rfl
  | cons u r=>
   simp only [mJ];by_cases e2:K u
   ·rw [if_pos (yes_t e2),if_pos (yes_t (.inl e2))]
   ·rw [if_neg (by rw [yes_f e2];simp)];by_cases e:u=y
    ·rw [if_pos (yes_t (.inr e))];funext d;cases hv:Mk J J.length (z++u::r) d with
     | none=>rfl
     | some v=>
      obtain⟨j,hj,h2,_⟩:=Mk_ne.1 (show Mk J J.length (z++u::r) d≠none by rw [hv];simp);exact absurd ⟨gL J j,gL_mem.2 ⟨j,hj,rfl⟩,by rw [h2,e];exact List.prefix_refl _⟩ (up r)
    ·rw [if_neg (by rw [yes_f (fun hh=>hh.elim e2 e)];simp)]
 refine⟨by rw [<- em];exact h.tre,h.root,fun u r=> ?_⟩;rw [h.there u r];constructor
 ·exact fun g=>⟨.inl g.1,g.2⟩
 ·rintro⟨g1|g1,g2⟩
  ·exact⟨g1,g2⟩
  ·rw [g1] at g2;exact absurd g2 (up r)
theorem JF.bears {w:World}{B:Nat}{J:List Lf}{z:List Ky}{N:List Ky ->Option (Nat×Nat)}{c:Nat}{x0:Nat×Nat}(h:JF w B J z N c x0):Ah J z↔(∃y,N [y]≠none) \/∃d,Mk J J.length z d≠none:=by
 constructor
 ·rintro⟨x,hx,hp⟩;obtain⟨s,hs⟩:=hp;obtain⟨j,hj,e⟩:=gL_mem.1 hx;cases s with
  | nil=>exact .inr ⟨(x.r,x.q),Mk_ne.2 ⟨j,hj,by rw [e,<- hs];simp,by rw [e]⟩⟩
  | cons y s=>
   refine .inl ⟨y,fun hn=> ?_⟩;have:=(h.there y []).2 ⟨x,hx,by rw [<- hs,show z++y::s=(z++[y])++s by simp];exact List.prefix_append _ _⟩;rw [hn] at this;cases this
 ·rintro(⟨y,hy⟩|⟨d,hd⟩)
  ·have h1:(N [y]).isSome=true:=by
    cases hv:N [y] with
    | none=>exact absurd hv hy
    | some v=>rfl
   obtain⟨x,hx,hp⟩:=(h.there y []).1 h1;exact⟨x,hx,List.IsPrefix.trans (List.prefix_append _ _) hp⟩
  ·obtain⟨j,hj,h2,_⟩:=Mk_ne.1 hd;exact⟨gL J j,gL_mem.2 ⟨j,hj,rfl⟩,by rw [h2];exact List.prefix_refl _⟩
end Go.Proofs.YtpfmeafmepgimaaGreat
