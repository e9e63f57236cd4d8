import Derived.Test.YtpfmeafmepgimaaGreatFkg06
set_option linter.unusedVariables false
set_option linter.unusedSimpArgs false
set_option maxRecDepth 100000
set_option maxHeartbeats 40000000
namespace Go.Proofs.YtpfmeafmepgimaaGreat
open Go.ChangeShapes Go.WideShapes Go.ChangeAt Go.RowKit Go.Maps
def cmpI (x y:Int):Int:=if x<y then -1 else if y<x then 1 else 0
theorem compare (x y:Int)(w:World):Calls Tryz.prog 98 #[.int .i64 x,.int .i64 y] w fun e w'=>e=.returned (.int .i64 (cmpI x y))/\ w'=w:=by
 by_cases h1:x<y
 ·have HE:Hid (cmpI x y= -1):=if_pos h1;go_enter Tryz.func98,Tryz.ntmps98;go_wp2;go_ret;exact⟨ret_int HE.out.symm,rfl⟩
 ·by_cases h2:y<x
  ·have HE:Hid (cmpI x y=1):=by unfold Hid cmpI;rw [if_neg h1,if_pos h2]
   go_enter Tryz.func98,Tryz.ntmps98;go_wp2;go_ret;exact⟨ret_int HE.out.symm,rfl⟩
  ·have HE:Hid (cmpI x y=0):=by unfold Hid cmpI;rw [if_neg h1,if_neg h2]
   go_enter Tryz.func98,Tryz.ntmps98;go_wp2;go_ret;exact⟨ret_int HE.out.symm,rfl⟩
theorem holds1 (f t q:Int)(w:World):Calls Tryz.prog 125 #[.agg #[.int .i64 f,.int .i64 t],.int .i64 q] w fun e w'=>e=.returned (.int .i64 (cmpI t q))/\ Below w.heap.size w w':=by
 go_enter Tryz.func125,Tryz.ntmps125;go_wp2_with fail;refine(compare t q _).mono ?_;rintro e w1 ⟨rfl,rfl⟩;go_wp2_with fail;go_ret;exact⟨rfl,(Below.refl _ _).alloc (Nat.le_refl _) _⟩
theorem bsearch (a:Option Addr)(n c:Nat)(f t:Nat ->Int)(q:Int)(w:World)(hn:n<=1000000)(h:SS w a n f t)(hm:∀i j,i<j ->j<n ->t i<t j):
  Calls Tryz.prog 124 #[.slice a n c,.int .i64 q,.func (.func 125) #[] #[]] w fun e w'=>∃(i:Nat) (b:Bool),e=.returned (.tuple #[.int .i64 i,.bool b])/\ i<=n/\ (∀j,j<i ->t j<q)/\ (∀j,i<=j ->j<n ->q<=t j)/\ Below w.heap.size w w':=by
 go_enter Tryz.func124,Tryz.ntmps124;go_wp2_with fail;go_loopw [9,10] (fun vi vj wr=>∃i j:Nat,i<=j/\ j<=n/\ vi=.int .i64 i/\ vj=.int .i64 j/\ (∀k,k<i ->t k<q)/\ (∀k,j<=k ->k<n ->q<=t k)/\ Below w.heap.size w wr) (fun vi vj _=>(intOf vj).toNat - (intOf vi).toNat);case atStart=>exact⟨0,n,Nat.zero_le _,Nat.le_refl _,rfl,rfl,fun k hk=>by omega,fun k h1 h2=>by omega,Below.refl _ _⟩
 case round=>
  obtain⟨i,j,hij,hjn,rfl,rfl,hlo,hhi,hbel⟩:=hrel;have HL:=hid hlo;have HH:=hid hhi;have HM:=hid hm;have HB:=hid hbel;rcases h with h|⟨b,off,rfl,hb,hc⟩
  ·have hi0:i=0:=by omega
   have hj0:j=0:=by omega
   subst h hi0 hj0;clear hlo hhi hbel hm;go_wp2_with fail;go_ret2;exact⟨0,false,rfl,by omega,fun k hk=>by omega,fun k _ hk=>by omega,HB.out⟩
  by_cases hlt:i<j
  ·obtain⟨m,hmd⟩:∃m:Nat,m=(i+j)/2:=⟨_,rfl⟩;have hme:((i:Int)+(j:Int))/2=(m:Int):=by omega
   have c0:=(hbel.cell (p:=⟨b,off+m*2,none⟩) hb).trans (hc m (by omega)).1;have c1:=(hbel.cell (p:=⟨b,off+m*2+1,none⟩) hb).trans (hc m (by omega)).2;have hmi:i<=m:=by omega
   have hmj:m<j:=by omega
   clear hlo hhi hbel hm hc hmd;go_wp2_with fail;refine(holds1 (f m) (t m) q _).mono ?_;rintro e w2 ⟨rfl,b2⟩;have HZ:=hid (keepS HB.out b2);clear b2;by_cases htm:t m<q
   ·rw [show cmpI (t m) q= -1 from if_pos htm];have HX:Hid (∀k,k<m+1 ->t k<q):=fun k hk=>by
     by_cases e:k=m
     ·subst e;exact htm
     ·have:=HM.out k m (by omega) (by omega);omega
    clear c0 c1 htm hme;go_wp2_with fail;go_roundw;case rel=>exact⟨m+1,j,by omega,hjn,by go_num,rfl,HX.out,HH.out,HZ.out⟩
    case measure=>simp [intOf];omega
   ·have hcv:0<=cmpI (t m) q:=by unfold cmpI;rw [if_neg htm];split<;>omega
    generalize cmpI (t m) q=cv at hcv;have HX:Hid (∀k,m<=k ->k<n ->q<=t k):=fun k h1 h2=>by
     by_cases e:k=m
     ·subst e;omega
     ·have:=HM.out m k (by omega) (by omega);omega
    clear c0 c1 htm hme;go_wp2_with fail;go_roundw;case rel=>exact⟨i,m,by omega,by omega,rfl,rfl,HL.out,HX.out,HZ.out⟩
    case measure=>simp [intOf];omega
  ·obtain rfl:i=j:=by omega
   clear hlo hhi hm;by_cases hin:i<n
   ·have c0:=(hbel.cell (p:=⟨b,off+i*2,none⟩) hb).trans (hc i (by omega)).1;have c1:=(hbel.cell (p:=⟨b,off+i*2+1,none⟩) hb).trans (hc i (by omega)).2;clear hc hbel;go_wp2_with fail;refine(holds1 (f i) (t i) q _).mono ?_;rintro e w2 ⟨rfl,b2⟩;have HZ:=hid (keepS HB.out b2);clear b2 c0 c1;generalize cmpI (t i) q=cv;go_wp2_with fail;go_ret2;exact⟨i,cv==0,rfl,by omega,HL.out,HH.out,HZ.out⟩
   ·clear hc hbel;go_wp2_with fail;go_ret2;exact⟨i,false,rfl,by omega,HL.out,HH.out,HB.out⟩
def inB (l:List (Int×Int))(f t:Int):Bool:=l.any fun p=>decide (p.1<=f/\ t<=p.2)
theorem in_iff {l:List (Int×Int)}(h:Srt l)(f t:Int)(i:Nat)(hi:i<=l.length)(hlo:∀j,j<i ->(l.getD j (0,0)).2<t)(hhi:∀j,i<=j ->j<l.length ->t<=(l.getD j (0,0)).2):
  inB l f t=(decide (i<l.length) && decide ((l.getD i (0,0)).1<=f)):=by
 rw [Bool.eq_iff_iff];simp only [inB,List.any_eq_true,decide_eq_true_iff,Bool.and_eq_true];constructor
 ·rintro⟨p,hp,h1,h2⟩;obtain⟨j,hj,rfl⟩:=List.getElem_of_mem hp;have e2:l.getD j (0,0)=l[j]:=by simp [List.getD,hj]
  have hij:i<=j:=by
   by_cases hlt:j<i
   ·have:=hlo j hlt;rw [e2] at this;omega
   ·omega
  refine⟨by omega,?_⟩;by_cases e:i=j
  ·subst e;rw [e2];exact h1
  ·have:=srt_get h (show i<j by omega) hj;rw [e2] at this;omega
 ·rintro⟨h1,h2⟩;have e1:l.getD i (0,0)=l[i]:=by simp [List.getD,h1]
  refine⟨l[i],List.getElem_mem _,?_,?_⟩
  ·rw [<- e1];exact h2
  ·rw [<- e1];exact hhi i (Nat.le_refl _) h1
theorem holdsM {w:World}{bm n:Nat}{D:DataW Value}{G:Int ->Value}{L:Int ->List (Int×Int)}(h:GrpAt w bm n D G L)(r f t:Int)(hr:(Lit.int .i64 r).wf=true)(hs:Srt (L r))(hl:(L r).length<=1000000):
  Calls Tryz.prog 105 #[.map (some bm),.int .i64 r,.agg #[.int .i64 f,.int .i64 t]] w fun e w'=>e=.returned (.bool (inB (L r) f t))/\ Below w.heap.size w w':=by
 obtain⟨W0,hW0⟩:∃W0,w.alloc (.cells #[.int .i64 f,.int .i64 t] 121)=W0:=⟨_,rfl⟩;have b0:Below w.heap.size w W0:=by rw [<- hW0];exact(Below.refl _ _).alloc (Nat.le_refl _) _
 have z0:W0.heap.size=w.heap.size+1:=by rw [<- hW0];simp
 have x0:W0.cell? ⟨w.heap.size,0,none⟩=some (.int .i64 f):=by rw [<- hW0];simp
 have x1:W0.cell? ⟨w.heap.size,1,none⟩=some (.int .i64 t):=by rw [<- hW0];simp
 have h0:=h.below b0;have hlk:=h0.look r hr;have hrow:=h0.rows r;obtain⟨a,c,e,hss,hlen0⟩:∃a c,G r=.slice a (L r).length c/\ SS W0 a (L r).length (fun i=>((L r).getD i (0,0)).1) (fun i=>((L r).getD i (0,0)).2)/\ ((L r).length≠0 ->∃g,a=some ⟨g,0,none⟩):=by
  rcases hrow.2 with ⟨e,e0⟩|⟨g,cap,cur,e,_⟩
  ·exact⟨none,0,by rw [e,e0],.inl e0,fun h=>absurd e0 h⟩
  ·exact⟨_,cap,e,by rw [e] at hrow;exact ss_own hrow rfl,fun _=>⟨g,rfl⟩⟩
 rw [e] at hlk;have HSS:=hid hss;have HI:=hid (in_iff hs f t);have HM:Hid (∀i j,i<j ->j<(L r).length ->(fun i=>((L r).getD i (0,0)).2) i<(fun i=>((L r).getD i (0,0)).2) j):=fun i j hij hj=>by
  have:=srt_get hs hij hj;show ((L r).getD i (0,0)).2<((L r).getD j (0,0)).2;omega
 clear e hrow h0 h hs hss;generalize hlen:(L r).length=m at*;go_enter Tryz.func105,Tryz.ntmps105;go_wp2_with fail;try rw [hW0]
 refine(bsearch a m c _ _ t _ (by omega) HSS.out HM.out).mono ?_;rintro e w2 ⟨i,fb,rfl,hi,hlo,hhi,b2⟩;clear hW0;have HE:=hid (HI.out i hi hlo hhi);have y0:=(b2.cell (p:=⟨w.heap.size,0,none⟩) (show w.heap.size<W0.heap.size by omega)).trans x0;have HB:=hid (keepS b0 b2);by_cases him:i<m
 ·have hcell:∃g off,a=some ⟨g,off,none⟩/\ g<w2.heap.size/\ w2.cell? ⟨g,off+i*2,none⟩=some (.int .i64 ((L r).getD i (0,0)).1):=by
   rcases HSS.out with h|⟨g,off,rfl,hg,hc⟩
   ·omega
   ·exact⟨g,off,rfl,Nat.lt_of_lt_of_le hg b2.size,(b2.cell (p:=⟨g,off+i*2,none⟩) hg).trans (hc i him).1⟩
  obtain⟨g,off,rfl,hg,hcl⟩:=hcell;have hk0:(0:Int)<=(i:Int):=Int.natCast_nonneg _;have hk1:(i:Int)<(m:Int):=by omega
  generalize hfi:((L r).getD i (0,0)).1=fi at*;clear hlo hhi b2 x0 x1 hlk HSS HM HI b0;cases hle:decide (fi<=f) with
  | false=>
   have HF:Hid (inB (L r) f t=false):=by unfold Hid;rw [HE.out,hle];simp
   go_wp2_with fail;refine wp_region_held_drew (S:=fun w'=>w'.cell? ⟨w.heap.size,0,none⟩=some (.int .i64 f)/\ w'.cell? ⟨g,off+i*2,none⟩=some (.int .i64 fi)) (by kernel_rfl) ⟨y0,hcl⟩ (fun hHeld=> ?_);refine tZ 0 20 ?_;refine tZ 1 21 ?_;refine tZ 2 22 ?_;refine tZ 3 23 ?_;refine tZ 4 24 ?_;refine tZ 5 25 ?_;refine tZ 6 26 ?_;refine tZ 7 27 ?_;refine tZ 8 28 ?_;refine tZ 9 29 ?_;refine tZ 10 30 ?_;refine tZ 11 31 ?_;refine tZ 12 32 ?_;refine tZ 13 33 ?_;refine tZ 14 6 ?_;refine wpAnyH_done (by kernel_rfl) ?_ _;go_wp2_with fail;go_ret;exact⟨retB HF.out.symm,HB.out.drew⟩
  | true=>
   have HF:Hid (inB (L r) f t=true):=by unfold Hid;rw [HE.out,hle];simp [him]
   go_wp2_with fail;refine wp_region_held_drew (S:=fun w'=>w'.cell? ⟨w.heap.size,0,none⟩=some (.int .i64 f)/\ w'.cell? ⟨g,off+i*2,none⟩=some (.int .i64 fi)) (by kernel_rfl) ⟨y0,hcl⟩ (fun hHeld=> ?_);refine tZ 0 20 ?_;refine tZ 1 21 ?_;refine tZ 2 22 ?_;refine tZ 3 23 ?_;refine tZ 4 24 ?_;refine tZ 5 25 ?_;refine tZ 6 26 ?_;refine tZ 7 27 ?_;refine tZ 8 28 ?_;refine tZ 9 29 ?_;refine tZ 10 30 ?_;refine tZ 11 31 ?_;refine tZ 12 32 ?_;refine tZ 13 33 ?_;refine tZ 14 6 ?_;refine wpAnyH_done (by kernel_rfl) ?_ _;go_wp2_with fail;go_ret;exact⟨retB HF.out.symm,HB.out.drew⟩
 ·have HF:Hid (inB (L r) f t=false):=by unfold Hid;rw [HE.out];simp [him]
  have hk2:decide ((i:Int)<(m:Int))=false:=by simp;omega
  have hk3:decide (i<m)=false:=by simp;omega
  clear hlo hhi b2 x0 x1 hlk HSS HM HI b0;go_wp2_with fail;refine wp_region_held_drew (S:=fun w'=>w'.cell? ⟨w.heap.size,0,none⟩=some (.int .i64 f)) (by kernel_rfl) y0 (fun hHeld=> ?_);refine tZ 0 20 ?_;refine tZ 1 21 ?_;refine tZ 2 22 ?_;refine tZ 3 23 ?_;refine tZ 4 24 ?_;refine uZ 5 25 ?_;refine uZ 6 26 ?_;refine uZ 7 27 ?_;refine uZ 8 28 ?_;refine uZ 9 29 ?_;refine uZ 10 30 ?_;refine uZ 11 31 ?_;refine uZ 12 32 ?_;refine tZ 13 33 ?_;refine tZ 14 6 ?_;refine wpAnyH_done (by kernel_rfl) ?_ _;go_wp2_with fail;go_ret;exact⟨retB HF.out.symm,HB.out.drew⟩
theorem hasM {w:World}{bm n:Nat}{D:DataW Value}{G:Int ->Value}{L:Int ->List (Int×Int)}(h:GrpAt w bm n D G L)(r q:Int)(hr:(Lit.int .i64 r).wf=true)(hs:Srt (L r))(hl:(L r).length<=1000000):
  Calls Tryz.prog 83 #[.map (some bm),.agg #[.int .i64 r,.int .i64 q]] w fun e w'=>e=.returned (.bool (inB (L r) q q))/\ Below w.heap.size w w':=by
 have b0:Below w.heap.size w (w.alloc (.cells #[.int .i64 r,.int .i64 q] 63)):=(Below.refl _ _).alloc (Nat.le_refl _) _;have HC:=hid (holdsM (h.below b0) r q q hr hs hl);have HB:=hid b0;clear b0 h hs;go_enter Tryz.func83,Tryz.ntmps83;go_wp2_with fail;refine HC.out.mono ?_;rintro e w1 ⟨rfl,b1⟩;have HZ:=hid (keepS HB.out b1);clear b1 HC;go_wp2_with fail;go_ret;exact⟨rfl,HZ.out⟩
def hasK (R F T:Nat ->Int)(r f t:Int):Nat ->Bool
 | 0=>false
 | k+1=>hasK R F T r f t k||decide (R k=r/\ F k<=f/\ t<=T k)
theorem in_hasK (R F T:Nat ->Int)(r f t:Int)(k:Nat):inB (Lk R F T k r) f t=hasK R F T r f t k:=by
 induction k with
 | zero=>rfl
 | succ k ih=>
  show inB (upd (Lk R F T k) (R k) (Lk R F T k (R k)++[(F k,T k)]) r) f t=(hasK R F T r f t k||decide (R k=r/\ F k<=f/\ t<=T k));by_cases e:r=R k
  ·subst e;rw [upd_same,<- ih];simp [inB]
  ·rw [upd_other _ _ e,ih];have:decide (R k=r/\ F k<=f/\ t<=T k)=false:=by simp;intro h;exact absurd h.symm e
   rw [this];simp
theorem hasK_yes {R F T:Nat ->Int}{r f t:Int}{k n:Nat}(hk:k<n)(h:R k=r/\ F k<=f/\ t<=T k):hasK R F T r f t n=true:=by
 induction n with
 | zero=>omega
 | succ n ih=>
  simp only [hasK,Bool.or_eq_true,decide_eq_true_iff];by_cases e:k=n
  ·subst e;exact .inr h
  ·exact .inl (ih (by omega))
theorem hasK_step {R F T:Nat ->Int}{r f t:Int}{k:Nat}(h:hasK R F T r f t k=false)(h2:¬(R k=r/\ F k<=f/\ t<=T k)):hasK R F T r f t (k+1)=false:=by
 simp only [hasK,h,Bool.false_or,decide_eq_false_iff_not];exact h2
theorem l2Has (a:Option Addr)(n c:Nat)(R F T:Nat ->Int)(r q:Int)(w:World)(hn:n<=1048576)(h:RSeg w a n R F T):
  Calls Tryz.prog 30 #[.agg #[.slice a n c],.agg #[.int .i64 r,.int .i64 q]] w fun e w'=>e=.returned (.bool (hasK R F T r q q n))/\ Below w.heap.size w w':=by
 obtain⟨W0,hW0⟩:∃W0,(w.alloc (.cells #[.slice a n c] 26)).alloc (.cells #[.int .i64 r,.int .i64 q] 63)=W0:=⟨_,rfl⟩;have bW:Below w.heap.size w W0:=by rw [<- hW0];exact below2 _ _ _
 have hbox:W0.cell? ⟨w.heap.size,0,none⟩=some (.slice a n c):=by rw [<- hW0];simp
 have x0:W0.cell? ⟨w.heap.size+1,0,none⟩=some (.int .i64 r):=by rw [<- hW0];simp
 have x1:W0.cell? ⟨w.heap.size+1,1,none⟩=some (.int .i64 q):=by rw [<- hW0];simp
 have zW:W0.heap.size=w.heap.size+2:=by rw [<- hW0];simp
 have h1:=h.below bW;clear h;go_enter Tryz.func30,Tryz.ntmps30;go_wp2_with fail;try rw [hW0]
 clear hW0;go_loopw [5] (fun i wr=>∃k:Nat,k<=n/\ i=.int .i64 k/\ hasK R F T r q q k=false/\ Below W0.heap.size W0 wr) (fun i _=>n - (intOf i).toNat);case atStart=>exact⟨0,Nat.zero_le _,rfl,rfl,Below.refl _ _⟩
 case round=>
  obtain⟨k,hk,rfl,hno,hbel⟩:=hrel;have b0:=(hbel.cell (p:=⟨w.heap.size,0,none⟩) (show w.heap.size<W0.heap.size by omega)).trans hbox;have y0:=(hbel.cell (p:=⟨w.heap.size+1,0,none⟩) (show w.heap.size+1<W0.heap.size by omega)).trans x0;have y1:=(hbel.cell (p:=⟨w.heap.size+1,1,none⟩) (show w.heap.size+1<W0.heap.size by omega)).trans x1;have HB:=hid hbel;have HN:=hid hno;by_cases hlt:k<n
  ·rcases h1 with h1|⟨b,off,rfl,hb,hc⟩
   ·omega
   have c0:=(hbel.cell (p:=⟨b,off+k*3,none⟩) hb).trans (hc k hlt).1;have c1:=(hbel.cell (p:=⟨b,off+k*3+1,none⟩) hb).trans (hc k hlt).2.1;have c2:=(hbel.cell (p:=⟨b,off+k*3+2,none⟩) hb).trans (hc k hlt).2.2;have hk0:(0:Int)<=(k:Int):=Int.natCast_nonneg _;have hk1:(k:Int)<(n:Int):=by omega
   clear hc hbel hno hbox x0 x1;by_cases e1:R k=r
   ·have t1:(R k==r)=true:=by simp;exact e1
    have H1:=hid e1;clear e1;by_cases e2:F k<=q
    ·have t2:decide (F k<=q)=true:=by simp;exact e2
     have H2:=hid e2;clear e2;by_cases e3:q<=T k
     ·have t3:decide (q<=T k)=true:=by simp;exact e3
      have H3:=hid (hasK_yes (n:=n) hlt ⟨H1.out,H2.out,e3⟩);clear e3;go_wp2_with fail;refine wp_region_held_drew (S:=fun w'=>w'.cell? ⟨w.heap.size,0,none⟩=some (.slice (some ⟨b,off,none⟩) n c)/\ w'.cell? ⟨w.heap.size+1,0,none⟩=some (.int .i64 r)/\ w'.cell? ⟨w.heap.size+1,1,none⟩=some (.int .i64 q)/\ w'.cell? ⟨b,off+k*3,none⟩=some (.int .i64 (R k))/\ w'.cell? ⟨b,off+k*3+1,none⟩=some (.int .i64 (F k))/\ w'.cell? ⟨b,off+k*3+2,none⟩=some (.int .i64 (T k))) (by kernel_rfl) ⟨b0,y0,y1,c0,c1,c2⟩ (fun hHeld=> ?_);refine tZ 0 13 ?_;refine tZ 1 14 ?_;refine tZ 2 15 ?_;refine tZ 3 16 ?_;refine tZ 4 17 ?_;refine tZ 5 18 ?_;refine tZ 6 19 ?_;refine tZ 7 20 ?_;refine tZ 8 21 ?_;refine tZ 9 22 ?_;refine tZ 10 23 ?_;refine tZ 11 24 ?_;refine tZ 12 25 ?_;refine tZ 13 26 ?_;refine tZ 14 27 ?_;refine tZ 15 28 ?_;refine tZ 16 29 ?_;refine tZ 17 30 ?_;refine tZ 18 31 ?_;refine tZ 19 32 ?_;refine tZ 20 33 ?_;refine tZ 21 34 ?_;refine tZ 22 35 ?_;refine tZ 23 36 ?_;refine tZ 24 37 ?_;refine tZ 25 38 ?_;refine tZ 26 39 ?_;refine tZ 27 40 ?_;refine tZ 28 41 ?_;refine tZ 29 42 ?_;refine tZ 30 43 ?_;refine wpAnyH_done (by kernel_rfl) ?_ _;go_wp2_with fail;go_ret;exact⟨retB H3.out.symm,(bW.trans (HB.out.mono (by omega))).drew⟩
     ·have t3:decide (q<=T k)=false:=by simp;omega
      have H3:=hid (hasK_step HN.out (fun hh=>e3 hh.2.2));clear e3;go_wp2_with fail;refine wp_region_held_drew (S:=fun w'=>w'.cell? ⟨w.heap.size,0,none⟩=some (.slice (some ⟨b,off,none⟩) n c)/\ w'.cell? ⟨w.heap.size+1,0,none⟩=some (.int .i64 r)/\ w'.cell? ⟨w.heap.size+1,1,none⟩=some (.int .i64 q)/\ w'.cell? ⟨b,off+k*3,none⟩=some (.int .i64 (R k))/\ w'.cell? ⟨b,off+k*3+1,none⟩=some (.int .i64 (F k))/\ w'.cell? ⟨b,off+k*3+2,none⟩=some (.int .i64 (T k))) (by kernel_rfl) ⟨b0,y0,y1,c0,c1,c2⟩ (fun hHeld=> ?_);refine tZ 0 13 ?_;refine tZ 1 14 ?_;refine tZ 2 15 ?_;refine tZ 3 16 ?_;refine tZ 4 17 ?_;refine tZ 5 18 ?_;refine tZ 6 19 ?_;refine tZ 7 20 ?_;refine tZ 8 21 ?_;refine tZ 9 22 ?_;refine tZ 10 23 ?_;refine tZ 11 24 ?_;refine tZ 12 25 ?_;refine tZ 13 26 ?_;refine tZ 14 27 ?_;refine tZ 15 28 ?_;refine tZ 16 29 ?_;refine tZ 17 30 ?_;refine tZ 18 31 ?_;refine tZ 19 32 ?_;refine tZ 20 33 ?_;refine tZ 21 34 ?_;refine tZ 22 35 ?_;refine tZ 23 36 ?_;refine tZ 24 37 ?_;refine tZ 25 38 ?_;refine tZ 26 39 ?_;refine tZ 27 40 ?_;refine tZ 28 41 ?_;refine tZ 29 42 ?_;refine tZ 30 43 ?_;refine wpAnyH_done (by kernel_rfl) ?_ _;go_wp2_with fail;go_roundw;case rel=>exact⟨k+1,hlt,by go_num,H3.out,HB.out.drew⟩
      case measure=>simp [intOf];omega
    ·have t2:decide (F k<=q)=false:=by simp;omega
     have H3:=hid (hasK_step HN.out (fun hh=>e2 hh.2.1));clear e2;go_wp2_with fail;refine wp_region_held_drew (S:=fun w'=>w'.cell? ⟨w.heap.size,0,none⟩=some (.slice (some ⟨b,off,none⟩) n c)/\ w'.cell? ⟨w.heap.size+1,0,none⟩=some (.int .i64 r)/\ w'.cell? ⟨w.heap.size+1,1,none⟩=some (.int .i64 q)/\ w'.cell? ⟨b,off+k*3,none⟩=some (.int .i64 (R k))/\ w'.cell? ⟨b,off+k*3+1,none⟩=some (.int .i64 (F k))/\ w'.cell? ⟨b,off+k*3+2,none⟩=some (.int .i64 (T k))) (by kernel_rfl) ⟨b0,y0,y1,c0,c1,c2⟩ (fun hHeld=> ?_);refine tZ 0 13 ?_;refine tZ 1 14 ?_;refine tZ 2 15 ?_;refine tZ 3 16 ?_;refine tZ 4 17 ?_;refine tZ 5 18 ?_;refine tZ 6 19 ?_;refine tZ 7 20 ?_;refine tZ 8 21 ?_;refine tZ 9 22 ?_;refine tZ 10 23 ?_;refine tZ 11 24 ?_;refine tZ 12 25 ?_;refine tZ 13 26 ?_;refine tZ 14 27 ?_;refine tZ 15 28 ?_;refine tZ 16 29 ?_;refine tZ 17 30 ?_;refine tZ 18 31 ?_;refine tZ 19 32 ?_;refine tZ 20 33 ?_;refine uZ 21 34 ?_;refine uZ 22 35 ?_;refine uZ 23 36 ?_;refine uZ 24 37 ?_;refine uZ 25 38 ?_;refine uZ 26 39 ?_;refine uZ 27 40 ?_;refine uZ 28 41 ?_;refine uZ 29 42 ?_;refine tZ 30 43 ?_;refine wpAnyH_done (by kernel_rfl) ?_ _;go_wp2_with fail;go_roundw;case rel=>exact⟨k+1,hlt,by go_num,H3.out,HB.out.drew⟩
     case measure=>simp [intOf];omega
   ·have t1:(R k==r)=false:=by simp;exact e1
    have H3:=hid (hasK_step HN.out (fun hh=>e1 hh.1));clear e1;go_wp2_with fail;refine wp_region_held_drew (S:=fun w'=>w'.cell? ⟨w.heap.size,0,none⟩=some (.slice (some ⟨b,off,none⟩) n c)/\ w'.cell? ⟨w.heap.size+1,0,none⟩=some (.int .i64 r)/\ w'.cell? ⟨w.heap.size+1,1,none⟩=some (.int .i64 q)/\ w'.cell? ⟨b,off+k*3,none⟩=some (.int .i64 (R k))/\ w'.cell? ⟨b,off+k*3+1,none⟩=some (.int .i64 (F k))/\ w'.cell? ⟨b,off+k*3+2,none⟩=some (.int .i64 (T k))) (by kernel_rfl) ⟨b0,y0,y1,c0,c1,c2⟩ (fun hHeld=> ?_);refine tZ 0 13 ?_;refine tZ 1 14 ?_;refine tZ 2 15 ?_;refine tZ 3 16 ?_;refine tZ 4 17 ?_;refine tZ 5 18 ?_;refine tZ 6 19 ?_;refine tZ 7 20 ?_;refine tZ 8 21 ?_;refine tZ 9 22 ?_;refine uZ 10 23 ?_;refine uZ 11 24 ?_;refine uZ 12 25 ?_;refine uZ 13 26 ?_;refine uZ 14 27 ?_;refine uZ 15 28 ?_;refine uZ 16 29 ?_;refine uZ 17 30 ?_;refine uZ 18 31 ?_;refine tZ 19 32 ?_;refine tZ 20 33 ?_;refine uZ 21 34 ?_;refine uZ 22 35 ?_;refine uZ 23 36 ?_;refine uZ 24 37 ?_;refine uZ 25 38 ?_;refine uZ 26 39 ?_;refine uZ 27 40 ?_;refine uZ 28 41 ?_;refine uZ 29 42 ?_;refine tZ 30 43 ?_;refine wpAnyH_done (by kernel_rfl) ?_ _;go_wp2_with fail;go_roundw;case rel=>exact⟨k+1,hlt,by go_num,H3.out,HB.out.drew⟩
    case measure=>simp [intOf];omega
  ·obtain rfl:k=n:=by omega
   clear hbel hno hbox x0 x1 h1;go_wp2_with fail;go_ret;exact⟨retB HN.out.symm,bW.trans (HB.out.mono (by omega))⟩
end Go.Proofs.YtpfmeafmepgimaaGreat
