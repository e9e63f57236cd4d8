import Derived.Test.YtpfmeafmepgimaaGreatFkg17
set_option linter.unusedVariables false
set_option linter.unusedSimpArgs false
set_option maxRecDepth 100000
set_option maxHeartbeats 40000000
namespace Go.Proofs.YtpfmeafmepgimaaGreat
open Go.ChangeShapes Go.WideShapes Go.ChangeAt Go.RowKit
theorem openRunsC (a:Option Addr)(c:Nat)(l:List Lf)(x:Option Addr)(n d:Nat)(R F T:Nat ->Int)(w:World)(hn:l.length<=1048576)(hp:LBd l)(hi:∀i,LfI (gL l i))(hm:n<=1048576)(h:LSeg w a l)(h':RSeg w x n R F T):
  Calls Tryz.prog 36 #[.agg #[.slice a l.length c,.slice x n d]] w fun e w'=>(∃M,e=.returned (.tuple #[M,.bool (yes (StOk R F T n l))]))/\ Below w.heap.size w w':=by
 obtain⟨W,hW⟩:∃W,w.alloc (.cells #[.slice a l.length c,.slice x n d] 28)=W:=⟨_,rfl⟩;have b0:Below w.heap.size w W:=by rw [<- hW];exact(Below.refl _ _).alloc (Nat.le_refl _) _
 have zW:w.heap.size<W.heap.size:=by rw [<- hW];simp
 have k0:W.cell? ⟨w.heap.size,0,none⟩=some (.slice a l.length c):=by rw [<- hW];simp
 have k1:W.cell? ⟨w.heap.size,1,none⟩=some (.slice x n d):=by rw [<- hW];simp
 have HL:=hid (h.below b0);have HR:=hid (h'.below b0);have HB0:=hid b0;clear h h' b0;obtain⟨Y,hY⟩:∃Y,yes (StOk R F T n l)=Y:=⟨_,rfl⟩;have HY:=hid hY;rw [hY];clear hY;cases hcx:ctxB R F T n with
 | false=>
  have HF:Hid (Y=false):=hid (by rw [<- HY.out];exact yes_f (fun h=>by have:=h.1;rw [hcx] at this;cases this));have HO:=hid (openC_no x n d R F T W hm HR.out hcx);have eF:=HF.out;clear hcx HF HY;subst eF;go_enter Tryz.func36,Tryz.ntmps36;go_wp2_with fail;try rw [hW]
  clear hW;refine HO.out.mono ?_;rintro e w1 ⟨rfl,b1⟩;have m0:=(b1.cell (p:=⟨w.heap.size,0,none⟩) zW).trans k0;have HZ:=hid (keepS HB0.out b1);clear b1 HO k0 k1;go_wp2_with fail;go_ret2;exact⟨⟨_,rfl⟩,HZ.out⟩
 | true=>
  have hokT:=ctxB_iff.1 hcx;have HO:=hid (openC x n d R F T W hm HR.out hcx);have HS:Hid (∀r,Srt (Lk R F T n r)):=hid (fun r=>(Lk_srt n hokT.1 r).1);have HN:Hid (∀r,(Lk R F T n r).length<=1000000):=hid (fun r=>by have:=Lk_len R F T n r;have:=hokT.2;omega);have HE:Hid (Y=yes (LsOk R F T n l)):=hid (by
   rw [<- HY.out];by_cases e:LsOk R F T n l
   ·rw [yes_t e,yes_t ⟨hcx,e.1,e.2.1,e.2.2⟩]
   ·rw [yes_f e,yes_f (fun h=>e ⟨h.2.1,h.2.2.1,h.2.2.2⟩)])
  clear hokT hcx;go_enter Tryz.func36,Tryz.ntmps36;go_wp2_with fail;try rw [hW]
  clear hW;refine HO.out.mono ?_;rintro e w1 ⟨bm,D,G,rfl,hgrp,hbm,b1⟩;have m0:=(b1.cell (p:=⟨w.heap.size,0,none⟩) zW).trans k0;have HC:=hid (leavesOk a c l bm n D G R F T w1 hn hp hi (HL.out.below b1) hgrp HS.out HN.out);have HZ:=hid (keepS HB0.out b1);clear b1 HO k0 k1 hgrp hbm;go_wp2_with fail;refine HC.out.mono ?_;rintro e w2 ⟨rfl,b2⟩;have HZ2:=hid (keepS HZ.out b2);rw [<- HE.out];clear b2 HC HE;cases Y with
  | true=>
   go_wp2_with fail;go_ret2;exact⟨⟨_,rfl⟩,HZ2.out⟩
  | false=>
   go_wp2_with fail;go_ret2;exact⟨⟨_,rfl⟩,HZ2.out⟩
end Go.Proofs.YtpfmeafmepgimaaGreat
namespace Go.Proofs.YtpfmeafmepgimaaGreat
open Go.ChangeShapes Go.WideShapes Go.ChangeAt Go.RowKit Go.Maps
noncomputable def Mk (l:List Lf):Nat ->List Ky ->Dt ->Option ByteArray
 | 0=>fun _ _=>none
 | k+1=>updM (Mk l k) (wayOf (gL l k).p (kd (gL l k).fl)) ((gL l k).r,(gL l k).q) (gL l k).v
def Way (x:Lf):List Ky:=wayOf x.p (kd x.fl)
theorem Mk_ne {l:List Lf}{p:List Ky}{d:Dt}:∀{k:Nat},Mk l k p d≠none↔∃j,j<k/\ Way (gL l j)=p/\ ((gL l j).r,(gL l j).q)=d
 | 0=>⟨fun h=>absurd rfl h,fun⟨j,hj,_⟩=>by omega⟩
 | k+1=>by
  have ih:=Mk_ne (l:=l) (p:=p) (d:=d) (k:=k);simp only [Mk];by_cases e:p=wayOf (gL l k).p (kd (gL l k).fl)
  ·rw [e,updM_same,<- e];by_cases e2:d=((gL l k).r,(gL l k).q)
   ·rw [e2,updF_same];exact⟨fun _=>⟨k,by omega,e.symm,rfl⟩,fun _ h=>by cases h⟩
   ·rw [updF_other _ _ e2,ih];constructor
    ·rintro⟨j,hj,r⟩;exact⟨j,by omega,r⟩
    ·rintro⟨j,hj,r1,r2⟩;by_cases ej:j=k
     ·subst ej;exact absurd r2.symm e2
     ·exact⟨j,by omega,r1,r2⟩
  ·rw [updM_other _ _ _ e,ih];constructor
   ·rintro⟨j,hj,r⟩;exact⟨j,by omega,r⟩
   ·rintro⟨j,hj,r1,r2⟩;by_cases ej:j=k
    ·subst ej;exact absurd r1.symm e
    ·exact⟨j,by omega,r1,r2⟩
def NkI (l:List Lf)(k:Nat)(N:List Ky ->Option (Nat×Nat)):Prop:=∀z,(N z).isSome=true↔z=[] \/∃j,j<k/\ z <+:Way (gL l j)
theorem openRunsK (a:Option Addr)(c:Nat)(l:List Lf)(x:Option Addr)(n d:Nat)(R F T:Nat ->Int)(w:World)(hn:l.length<=1048576)(hp:LBd l)(hi:∀i,LfI (gL l i))(hm:n<=1048576)(h:LSeg w a l)(h':RSeg w x n R F T)(hok:StOk R F T n l):
  Calls Tryz.prog 36 #[.agg #[.slice a l.length c,.slice x n d]] w fun e w'=>(∃bm D G,e=.returned (.tuple #[.map (some bm),.bool true])/\ GrpAt w' bm n D G (Lk R F T n)/\ w.heap.size<=bm)/\ Below w.heap.size w w':=by
 obtain⟨W,hW⟩:∃W,w.alloc (.cells #[.slice a l.length c,.slice x n d] 28)=W:=⟨_,rfl⟩;have b0:Below w.heap.size w W:=by rw [<- hW];exact(Below.refl _ _).alloc (Nat.le_refl _) _
 have zW:w.heap.size<W.heap.size:=by rw [<- hW];simp
 have k0:W.cell? ⟨w.heap.size,0,none⟩=some (.slice a l.length c):=by rw [<- hW];simp
 have k1:W.cell? ⟨w.heap.size,1,none⟩=some (.slice x n d):=by rw [<- hW];simp
 have HL:=hid (h.below b0);have HR:=hid (h'.below b0);have HB0:=hid b0;clear h h' b0;have hcx:=hok.1;have hokT:=ctxB_iff.1 hcx;have HO:=hid (openC x n d R F T W hm HR.out hcx);have HS:Hid (∀r,Srt (Lk R F T n r)):=hid (fun r=>(Lk_srt n hokT.1 r).1);have HN:Hid (∀r,(Lk R F T n r).length<=1000000):=hid (fun r=>by have:=Lk_len R F T n r;have:=hokT.2;omega);have HE:Hid (yes (LsOk R F T n l)=true):=hid (yes_t ⟨hok.2.1,hok.2.2.1,hok.2.2.2⟩);have HZW:=hid zW;clear hokT hcx hok;go_enter Tryz.func36,Tryz.ntmps36;go_wp2_with fail;try rw [hW]
 clear hW;refine HO.out.mono ?_;rintro e w1 ⟨bm,D,G,rfl,hgrp,hbm,b1⟩;have m0:=(b1.cell (p:=⟨w.heap.size,0,none⟩) HZW.out).trans k0;have HC:=hid (leavesOk a c l bm n D G R F T w1 hn hp hi (HL.out.below b1) hgrp HS.out HN.out);have HZ:=hid (keepS HB0.out b1);have HGR:=hid hgrp;have HBM:=hid hbm;clear b1 HO k0 k1 hgrp hbm zW;go_wp2_with fail;refine HC.out.mono ?_;rintro e w2 ⟨rfl,b2⟩;have HZ2:=hid (keepS HZ.out b2);have HG2:=hid (HGR.out.below b2);rw [HE.out];clear b2 HC HE;go_wp2_with fail;go_ret2;exact⟨⟨bm,D,G,rfl,HG2.out,Nat.le_trans (Nat.le_of_lt HZW.out) HBM.out⟩,HZ2.out⟩
structure Bx3 (w:World)(b:Nat)(v0 v1 v2:Value):Prop where
 c0:w.cell? ⟨b,0,none⟩=some v0
 c1:w.cell? ⟨b,1,none⟩=some v1
 c2:w.cell? ⟨b,2,none⟩=some v2
 f:∀i,w.frozen? ⟨b,i,none⟩=false
 lt:b<w.heap.size
theorem Bx3.below {w w':World}{B b:Nat}{v0 v1 v2:Value}(h:Bx3 w b v0 v1 v2)(hb:Below B w w')(hB:b<B):Bx3 w' b v0 v1 v2:=
 ⟨(hb.cell (p:=⟨b,0,none⟩) hB).trans h.c0,(hb.cell (p:=⟨b,1,none⟩) hB).trans h.c1,(hb.cell (p:=⟨b,2,none⟩) hB).trans h.c2,fun i=>(hb.frozen (p:=⟨b,i,none⟩) hB).trans (h.f i),Nat.lt_of_lt_of_le h.lt hb.size⟩
theorem Bx3.gt {w w':World}{B b:Nat}{v0 v1 v2:Value}(h:Bx3 w b v0 v1 v2)(hg:Gt B w w'):Bx3 w' b v0 v1 v2:=
 ⟨hg.cell h.c0,hg.cell h.c1,hg.cell h.c2,fun i=>(hg.frozen (q:=⟨b,i,none⟩) h.c0 rfl).trans (h.f i),Nat.lt_of_lt_of_le h.lt hg.size⟩
theorem Bx3.made (w:World)(v0 v1 v2:Value)(t:TypeId):Bx3 (w.alloc (.cells #[v0,v1,v2] t)) w.heap.size v0 v1 v2:=⟨by simp,by simp,by simp,fun i=>by simp,by simp⟩
theorem Bx3.set0 {w:World}{b:Nat}{v0 v1 v2:Value}(h:Bx3 w b v0 v1 v2)(u:Value):Bx3 (w.setCell ⟨b,0,none⟩ u) b u v1 v2:=
 ⟨World.cell?_setCell_same _ _ _ h.c0,by simp [World.cell?_setCell_other,h.c1],by simp [World.cell?_setCell_other,h.c2],fun i=>by rw [World.frozen?_setCell];exact h.f i,by simp [World.setCell];exact h.lt⟩
theorem Bx3.set1 {w:World}{b:Nat}{v0 v1 v2:Value}(h:Bx3 w b v0 v1 v2)(u:Value):Bx3 (w.setCell ⟨b,1,none⟩ u) b v0 u v2:=
 ⟨by simp [World.cell?_setCell_other,h.c0],World.cell?_setCell_same _ _ _ h.c1,by simp [World.cell?_setCell_other,h.c2],fun i=>by rw [World.frozen?_setCell];exact h.f i,by simp [World.setCell];exact h.lt⟩
theorem Bx3.set2 {w:World}{b:Nat}{v0 v1 v2:Value}(h:Bx3 w b v0 v1 v2)(u:Value):Bx3 (w.setCell ⟨b,2,none⟩ u) b v0 v1 u:=
 ⟨by simp [World.cell?_setCell_other,h.c0],by simp [World.cell?_setCell_other,h.c1],World.cell?_setCell_same _ _ _ h.c2,fun i=>by rw [World.frozen?_setCell];exact h.f i,by simp [World.setCell];exact h.lt⟩
theorem Bx3.set {w:World}{b:Nat}{v0 v1 v2:Value}(h:Bx3 w b v0 v1 v2)(u0 u1 u2:Value):Bx3 (((w.setCell ⟨b,0,none⟩ u0).setCell ⟨b,1,none⟩ u1).setCell ⟨b,2,none⟩ u2) b u0 u1 u2:=((h.set0 u0).set1 u1).set2 u2
theorem NkI.step {l:List Lf}{k:Nat}{N N':List Ky ->Option (Nat×Nat)}(h:NkI l k N)(h':∀z,(N' z).isSome=true↔(N z).isSome=true \/z <+:Way (gL l k)):NkI l (k+1) N':=fun z=>by
 rw [h' z,h z];constructor
 ·rintro((e|⟨j,hj,e⟩)|e)
  ·exact .inl e
  ·exact .inr ⟨j,by omega,e⟩
  ·exact .inr ⟨k,by omega,e⟩
 ·rintro(e|⟨j,hj,e⟩)
  ·exact .inl (.inl e)
  ·by_cases ej:j=k
   ·subst ej;exact .inr e
   ·exact .inl (.inr ⟨j,by omega,e⟩)
theorem kd_wf (fl:Bool):(Lit.int .i64 (kd fl)).wf=true:=by cases fl<;>decide
theorem openStateNo (a:Option Addr)(c:Nat)(l:List Lf)(x:Option Addr)(n d:Nat)(R F T:Nat ->Int)(w:World)(hn:l.length<=1048576)(hp:LBd l)(hi:∀i,LfI (gL l i))(hm:n<=1048576)(h:LSeg w a l)(h':RSeg w x n R F T)(hok:¬StOk R F T n l):
  Calls Tryz.prog 16 #[.agg #[.slice a l.length c,.slice x n d]] w fun e w'=>e=.returned (.tuple #[.agg #[.map none,.map none,.map none],.bool false])/\ Below w.heap.size w w':=by
 obtain⟨W,hW⟩:∃W,(w.alloc (.cells #[.slice a l.length c,.slice x n d] 28)).alloc (.cells #[.map none,.map none,.map none] 49)=W:=⟨_,rfl⟩;have b0:Below w.heap.size w W:=by rw [<- hW];exact below2 _ _ _
 have B0:Bx3 W (w.heap.size+1) (.map none) (.map none) (.map none):=by rw [<- hW];simpa using Bx3.made (w.alloc (.cells #[.slice a l.length c,.slice x n d] 28)) (.map none) (.map none) (.map none) 49
 have k0:W.cell? ⟨w.heap.size,0,none⟩=some (.slice a l.length c):=by rw [<- hW];simp
 have k1:W.cell? ⟨w.heap.size,1,none⟩=some (.slice x n d):=by rw [<- hW];simp
 have HO:=hid (openRunsC a c l x n d R F T W hn hp hi hm (h.below b0) (h'.below b0));have HB0:=hid b0;have HBx:=hid B0;rw [yes_f hok] at HO;clear h h' b0 B0;go_enter Tryz.func16,Tryz.ntmps16;go_wp2_with fail;try rw [hW]
 clear hW;refine HO.out.mono ?_;rintro e w1 ⟨⟨M,rfl⟩,b1⟩;have B1:=HBx.out.below b1 HBx.out.lt;have c0:=B1.c0;have c1:=B1.c1;have c2:=B1.c2;have f0:=B1.f 0;have f1:=B1.f 1;have f2:=B1.f 2;have HZ:=hid (keepS HB0.out b1);have HC:=hid (B1.set (.map none) (.map none) (.map none));clear b1 HO k0 k1 B1;go_wp2_with fail;have r0:=HC.out.c0;have r1:=HC.out.c1;have r2:=HC.out.c2;refine bodyPost_ret (v:=.tuple #[.agg #[.map none,.map none,.map none],.bool false]) (by simp [results,Tryz.results16,go_sem,r0,r1,r2]) rfl ⟨rfl,?_⟩;exact((HZ.out.setCell (by simp) _).setCell (by simp) _).setCell (by simp) _
theorem GrpAt.set {w:World}{bm n:Nat}{D:DataW Value}{G:Int ->Value}{L:Int ->List (Int×Int)}(h:GrpAt w bm n D G L)(q:Addr)(u:Value)(hq:q.block<bm):GrpAt (w.setCell q u) bm n D G L:=by
 have hg:w.grownBy (w.setCell q u) (some q.block):=⟨rfl,rfl,rfl,by simp [World.setCell],fun k _ hk=>Below.heap_setCell _ _ _ _ (fun e=>hk (by rw [e]))⟩;refine⟨h.own.kept hg (fun e=>by injection e with e;omega),h.at',h.has',fun r=>(h.rows r).kept hg ?_,h.apart⟩;cases e:(G r).ownBlock with
 | none=>exact .inl rfl
 | some g=>exact .inr (fun e2=>by have:=((h.rows r).lt g e).1;injection e2 with e2;omega)
theorem openStateK (a:Option Addr)(c:Nat)(l:List Lf)(x:Option Addr)(n d:Nat)(R F T:Nat ->Int)(w:World)(hn:l.length<=1048576)(hp:LBd l)(hi:∀i,LfI (gL l i))(hm:n<=1048576)(h:LSeg w a l)(h':RSeg w x n R F T)(hok:StOk R F T n l):
  Calls Tryz.prog 16 #[.agg #[.slice a l.length c,.slice x n d]] w fun e w'=>(∃x0 bm D G N B,e=.returned (.tuple #[.agg #[.map (some x0.1),.map (some x0.2),.map (some bm)],.bool true])/\ GrpAt w' bm n D G (Lk R F T n)/\ w.heap.size<=bm/\ w.heap.size<=B/\ bm<B/\ Tre w' B N (Mk l l.length) (9*l.length)/\ N []=some x0/\ NkI l l.length N)/\ Below w.heap.size w w':=by
 obtain⟨W,hW⟩:∃W,(w.alloc (.cells #[.slice a l.length c,.slice x n d] 28)).alloc (.cells #[.map none,.map none,.map none] 49)=W:=⟨_,rfl⟩;have b0:Below w.heap.size w W:=by rw [<- hW];exact below2 _ _ _
 have B0:Bx3 W (w.heap.size+1) (.map none) (.map none) (.map none):=by rw [<- hW];simpa using Bx3.made (w.alloc (.cells #[.slice a l.length c,.slice x n d] 28)) (.map none) (.map none) (.map none) 49
 have k0:W.cell? ⟨w.heap.size,0,none⟩=some (.slice a l.length c):=by rw [<- hW];simp
 have k1:W.cell? ⟨w.heap.size,1,none⟩=some (.slice x n d):=by rw [<- hW];simp
 have HO:=hid (openRunsK a c l x n d R F T W hn hp hi hm (h.below b0) (h'.below b0) hok);have HB0:=hid b0;have HBx:=hid B0;have HOK:=hid hok;have HL:=hid (h.below b0);have hlen:=hok.2.1;clear h h' b0 B0 hok;go_enter Tryz.func16,Tryz.ntmps16;go_wp2_with fail;try rw [hW]
 clear hW;refine HO.out.mono ?_;rintro e w1 ⟨⟨bm,D,G,rfl,hgrp,hbm⟩,b1⟩;have B1:=HBx.out.below b1 HBx.out.lt;have HB1:=hid B1;have HZ:=hid (keepS HB0.out b1);have k2:=(b1.cell (p:=⟨w.heap.size,0,none⟩) (show w.heap.size<W.heap.size by have:=HBx.out.lt;omega)).trans k0;have HL1:=hid (HL.out.below b1);have HGR:=hid hgrp;have HBM:=hid (show w.heap.size+1<bm from by have:=HBx.out.lt;omega);clear b1 HO k0 k1 B1 hgrp hbm HL HBx;go_wp2_with fail;refine(newNode w1).mono ?_;rintro e w2 ⟨s1,s2,rfl,hss,hs1,hs2,m1,m2,b2⟩;obtain⟨w3,hw3⟩:∃w3,w2.alloc (.cells #[.map (some s1),.map (some s2)] 45)=w3:=⟨_,rfl⟩;have b3:Below w1.heap.size w1 w3:=by rw [<- hw3];exact b2.alloc b2.size _
 have NB:Bx2 w3 w2.heap.size (.map (some s1)) (.map (some s2)):=by rw [<- hw3];exact Bx2.made _ _ _ _
 have HNB:=hid NB;have T0:Tre w3 w1.heap.size (fun z=>if z=[] then some (s1,s2) else none) (Mk l 0) 0:=by
  have e1:w3.heap[s1]? =w2.heap[s1]? :=by rw [<- hw3];exact Below.heap_alloc _ _ _ m1.lt
  have e2:w3.heap[s2]? =w2.heap[s2]? :=by rw [<- hw3];exact Below.heap_alloc _ _ _ m2.lt
  refine⟨fun p x hx=> ?_,fun p x hx=> ?_,fun p q x y hx hy=> ?_,fun p x hx=> ?_,fun p hp=>rfl,fun p y hp=>by simp⟩
  ·split at hx
   ·injection hx with hx;subst hx;exact(m1.same e1).ext (fun y=>by simp)
   ·cases hx
  ·split at hx
   ·injection hx with hx;subst hx;exact m2.same e2
   ·cases hx
  ·split at hx
   ·rename_i ep;split at hy
    ·rename_i eq;injection hx with hx;injection hy with hy;subst hx;subst hy;exact⟨hss,fun _=>by rw [ep,eq],fun _=>by rw [ep,eq]⟩
    ·cases hy
   ·cases hx
  ·split at hx
   ·injection hx with hx;subst hx;exact⟨hs1,hs2⟩
   ·cases hx
 have HT0:=hid T0;have HB3:=hid (HB1.out.below b3 HB1.out.lt);have HZ3:=hid (keepS HZ.out b3);have k3:=(b3.cell (p:=⟨w.heap.size,0,none⟩) (show w.heap.size<w1.heap.size by have:=HB1.out.lt;omega)).trans k2;have HL3:=hid (HL1.out.below b3);have Hb3:=hid b3;have HW:=hid (show w.heap.size<=w1.heap.size/\ w.heap.size+1<w1.heap.size/\ bm<w1.heap.size/\ w1.heap.size<=w3.heap.size from⟨HZ.out.size,HB1.out.lt,HGR.out.own.lt,b3.size⟩);clear m1 m2 b2 b3 NB T0 hss hs1 hs2 HB1 HL1 k2;go_wp2_with fail;try rw [hw3]
 clear hw3 k3;go_loopw [21] (fun i wr=>∃k:Nat,k<=l.length/\ i=.int .i64 k/\ Hid (Gt w1.heap.size w3 wr)/\ (∃N,Hid (Tre wr w1.heap.size N (Mk l k) (9*k))/\ Hid (N []=some (s1,s2))/\ Hid (NkI l k N))) (fun i _=>l.length - (intOf i).toNat);case atStart=>
  refine⟨0,Nat.zero_le _,rfl,hid (Gt.refl _ _),_,HT0,hid (if_pos rfl),hid (fun z=> ?_)⟩;show ((if z=[] then some (s1,s2) else none:Option (Nat×Nat)).isSome=true↔_);by_cases e:z=[]
  ·rw [if_pos e];exact⟨fun _=> .inl e,fun _=>rfl⟩
  ·rw [if_neg e];exact⟨fun h=>by simp at h,fun h=>by rcases h with h|⟨j,hj,_⟩;exact absurd h e;omega⟩
 case round=>
  clear HT0;obtain⟨k,hk,rfl,HG,N,HT,HN,HI⟩:=hrel;by_cases hlt:k<l.length
  ·rcases (HL3.out.gt HG.out) with h|⟨b,off,rfl,hb,hc⟩
   ·omega
   obtain⟨pa,pc,x0,s,x1,x2,x3,x4⟩:=hc k hlt;have hlk:=HOK.out.2.2.1 k hlt;have hwf:=hi k;have hpk:=hp k;have i1:(0:Int)<=(k:Int):=Int.natCast_nonneg _;have i2:(k:Int)<(l.length:Int):=by omega
   obtain⟨y,hy⟩:∃y,gL l k=y:=⟨_,rfl⟩;rw [hy] at s x0 x1 x2 x3 x4 hpk hwf hlk;have HS:=hid s;have HE:=hid hy;obtain⟨p,fl,r,q,v⟩:=y;dsimp only [LfI] at HS x0 x1 x2 x3 x4 hpk hwf;have HPO:=hid hlk.1.1;have HNB3:=hid (HNB.out.gt HG.out);clear hc s hy hlk;obtain⟨W2,hW2⟩:∃W2,wr.alloc (.cells #[.slice pa p.length pc,.bool fl,.int .i64 r,.int .i64 q,.string v] 65)=W2:=⟨_,rfl⟩;have b4:Below wr.heap.size wr W2:=by rw [<- hW2];exact(Below.refl _ _).alloc (Nat.le_refl _) _
   have B5:Bx5 W2 wr.heap.size (.slice pa p.length pc) (.bool fl) (.int .i64 r) (.int .i64 q) (.string v):=by rw [<- hW2];exact⟨by simp,by simp,by simp,by simp,by simp,fun i=>by simp,by simp⟩
   have N5:=HNB3.out.below b4 HNB3.out.lt;have y0:=B5.c0;have y1:=B5.c1;have y2:=B5.c2;have y3:=B5.c3;have y4:=B5.c4;have n0:=N5.c0;have n1:=N5.c1;have HS4:=hid (HS.out.below b4);have HT4:=hid (HT.out.below b4);have HG4:=hid (HG.out.keep b4);clear b4 B5 N5 HS HT HG HNB3;go_wp2_with fail;have HCS:Hid (∀w',Gt w1.heap.size W2 w' ->(Gt w1.heap.size W2 w'/\ w'.cell? ⟨w2.heap.size,0,none⟩=some (.map (some s1))/\ w'.cell? ⟨w2.heap.size,1,none⟩=some (.map (some s2))/\ w'.cell? ⟨wr.heap.size,0,none⟩=some (.slice pa p.length pc)/\ w'.cell? ⟨wr.heap.size,1,none⟩=some (.bool fl)/\ w'.cell? ⟨wr.heap.size,2,none⟩=some (.int .i64 r)/\ w'.cell? ⟨wr.heap.size,3,none⟩=some (.int .i64 q)/\ w'.cell? ⟨wr.heap.size,4,none⟩=some (.string v))):=hid (fun w' hB=>⟨hB,hB.cell n0,hB.cell n1,hB.cell y0,hB.cell y1,hB.cell y2,hB.cell y3,hB.cell y4⟩);refine wp_region_held_drew (S:=fun w'=>Gt w1.heap.size W2 w'/\ w'.cell? ⟨w2.heap.size,0,none⟩=some (.map (some s1))/\ w'.cell? ⟨w2.heap.size,1,none⟩=some (.map (some s2))/\ w'.cell? ⟨wr.heap.size,0,none⟩=some (.slice pa p.length pc)/\ w'.cell? ⟨wr.heap.size,1,none⟩=some (.bool fl)/\ w'.cell? ⟨wr.heap.size,2,none⟩=some (.int .i64 r)/\ w'.cell? ⟨wr.heap.size,3,none⟩=some (.int .i64 q)/\ w'.cell? ⟨wr.heap.size,4,none⟩=some (.string v)) (by kernel_rfl) (HCS.out _ (Gt.of_below (Below.refl _ _).drew)) (fun hHeld=> ?_);refine tZ 0 25 ?_;refine tZ 1 26 ?_;refine tZ 2 27 ?_;refine tZ 3 28 ?_;refine tZ 5 30 ?_;refine tZ 6 31 ?_;refine tZ 7 32 ?_;refine tZ 8 33 ?_;refine tZ 9 34 ?_;refine cZ 4 ?_;intro K hK;go_simp;refine(leafKind _ fl _ _ _ _).mono ?_;rintro e w5 ⟨rfl,b5⟩;have b5':Below W2.heap.size W2 w5:=⟨b5.os,b5.tape,b5.output,b5.size,b5.block⟩;refine hK.out _ _ (HCS.out _ (Gt.of_below b5')) (fun hHeld=> ?_);clear hK K;try simp only [Act.put,sZa,sZb,sZc]
   refine cZ 10 ?_;intro K hK;go_simp;refine(putC p pa pc (kd fl) r q v w1.heap.size (9*k) N (Mk l k) (s1,s2) w5 hpk (fun i=> ?_) (kd_wf fl) hwf.1 hwf.2 (by omega) ?_ (HS4.out.below b5') (HT4.out.below b5') HN.out).mono ?_
   ·by_cases hi':i<p.length
    ·have:=(HPO.out.2.2 i hi').2;omega
    ·rw [gS_far (by omega)];simp
   ·have h1:=HW.out.2.2.2;have h2:=HG4.out.size;have h3:=b5'.size;omega
   rintro e w6 ⟨rfl,g6,N',T6,hN',hI'⟩;have HG6:=hid ((HG4.out.keep b5').trans g6);have HT6:=hid T6;have HI6:=hid hI';have HN6:=hid hN';refine hK.out _ _ (HCS.out _ ((Gt.of_below b5').trans g6)) (fun hHeld=> ?_);clear hK K;try simp only [Act.put,sZa,sZb,sZc]
   refine wpAnyH_done (by kernel_rfl) ?_ _;clear hHeld b5 b5' g6 T6 hN' hI';go_wp2_with fail;go_roundw;case rel=>
    have hp8:=HPO.out.2.1;refine⟨k+1,hlt,by go_num,HG6,N',hid ?_,HN6,hid (HI.out.step ?_)⟩
    ·have e:Mk l (k+1)=updM (Mk l k) (wayOf p (kd fl)) (r,q) v:=by simp only [Mk];rw [HE.out]
     rw [e];exact HT6.out.mono (by omega)
    ·rw [HE.out];exact HI6.out
   case measure=>simp [intOf];omega
  ·obtain rfl:k=l.length:=by omega
   have N5:=HNB.out.gt HG.out;have n0:=N5.c0;have n1:=N5.c1;have B5:=HB3.out.gt HG.out;have c0:=B5.c0;have c1:=B5.c1;have c2:=B5.c2;have f0:=B5.f 0;have f1:=B5.f 1;have f2:=B5.f 2;have HC:=hid (B5.set (.map (some s1)) (.map (some s2)) (.map (some bm)));have hG5:Below w1.heap.size w3 wr:=HG.out.below HW.out.2.2.2;have HGx:=hid (HGR.out.below (Hb3.out.trans hG5));have HZ5:=hid (HZ3.out.trans (hG5.mono HW.out.1));clear N5 B5 hG5;go_wp2_with fail;have r0:=HC.out.c0;have r1:=HC.out.c1;have r2:=HC.out.c2;refine bodyPost_ret (v:=.tuple #[.agg #[.map (some s1),.map (some s2),.map (some bm)],.bool true]) (by simp [results,Tryz.results16,go_sem,r0,r1,r2]) rfl ⟨⟨(s1,s2),bm,D,G,N,w1.heap.size,rfl,?_,by have:=HBM.out;omega,HW.out.1,HW.out.2.2.1,?_,HN.out,HI.out⟩,?_⟩
   ·exact((HGx.out.set _ _ HBM.out).set _ _ HBM.out).set _ _ HBM.out
   ·exact((HT.out.set _ c0).set _ (HB3.out.gt HG.out|>.set0 _).c1).set _ ((HB3.out.gt HG.out|>.set0 _).set1 _).c2
   ·exact((HZ5.out.setCell (by simp) _).setCell (by simp) _).setCell (by simp) _
theorem ready2t {P:Program}{ops:Array Oper}{Q:Exit ->Act ->World ->Prop}{md:Region.Mode}{S:World ->Prop}{i j:Nat}{d d':Option Tmp}{fuel:Nat}{listed:Array Bool}{a:Act}{w:World}
  (hd:ops[i]?.map (fun o=>o.dst)=some d) (hd':ops[j]?.map (fun o=>o.dst)=some d') (hr:Region.ready md ops listed=[i,j])
  (h:∀o,ops[i]? =some o ->o.dst=d ->∀K':Act ->World ->Prop,Shut (∀a w,S w ->(S w ->wpAnyH P md ops Q S fuel (listed.setIfInBounds i true) a w) ->K' a w) ->if Region.wanted o (yielded ops a.tmps)=true then Oper.wp P o a w K' Q else K' (a.put o.dst undef) w)
  (h':∀o,ops[j]? =some o ->o.dst=d' ->∀K':Act ->World ->Prop,Shut (∀a w,S w ->(S w ->wpAnyH P md ops Q S fuel (listed.setIfInBounds j true) a w) ->K' a w) ->if Region.wanted o (yielded ops a.tmps)=true then Oper.wp P o a w K' Q else K' (a.put o.dst undef) w):
  wpAnyH P md ops Q S (fuel+1) listed a w:=by
 obtain⟨o,ho,hod⟩:=Option.map_eq_some_iff.1 hd;obtain⟨o',ho',hod'⟩:=Option.map_eq_some_iff.1 hd';exact wpAnyH_ready hr (by simp) (AllReadyH.cons ho (h o ho hod) (AllReadyH.cons ho' (h' o' ho' hod') AllReadyH.nil))
def mF (o:Option (Nat×Nat)):Option Nat:=o.map Prod.fst
def mS (o:Option (Nat×Nat)):Option Nat:=o.map Prod.snd
theorem nodV_eq (o:Option (Nat×Nat)):nodV o=.agg #[.map (mF o),.map (mS o)]:=by cases o<;>rfl
theorem Tre.look {w:World}{B c:Nat}{N:List Ky ->Option (Nat×Nat)}{M:List Ky ->Dt ->Option ByteArray}(h:Tre w B N M c)(p:List Ky)(y:Ky){kl:Lit}(hk:keyOf Tryz.prog 102 (keyV y)=some kl):
  (Instr.lookup 42 (.map (mF (N p))) (keyV y) false).run Tryz.prog w=.ok (.agg #[.map (mF (N (p++[y]))),.map (mS (N (p++[y])))]) w:=by
 rw [<- nodV_eq];cases e:N p with
 | some x=>exact(h.kids p x e).look keyKeyed Tryz.underlying42 (zeroNode w) hk
 | none=>
  rw [h.up p y e];exact Maps.look_nil false keyKeyed Tryz.underlying42 (zeroNode w) hk
end Go.Proofs.YtpfmeafmepgimaaGreat
