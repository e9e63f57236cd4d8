import Derived.Test.YtpfmeafmepgimaaGreatFkg29
import Derived.Test.YtpfmeafmepgimaaGreatFkg37
set_option linter.unusedVariables false
set_option linter.unusedSimpArgs false
set_option maxRecDepth 100000
set_option maxHeartbeats 40000000
namespace Go.Proofs.YtpfmeafmepgimaaGreat
open Go.ChangeShapes Go.WideShapes Go.ChangeAt Go.RowKit Go.Maps
theorem LB.low {w:World}{lo lo':Nat}{v:Value}{l:List Lf}(h:LB w lo v l)(hl:lo'<=lo):LB w lo' v l:=by
 obtain⟨P,Q,h1,h2⟩:=h;exact⟨P,Q,h1.low hl,h2⟩
theorem LB.set {w:World}{lo:Nat}{v:Value}{l:List Lf}(h:LB w lo v l)(q:Addr)(u:Value)(hq:q.block<lo):LB (w.setCell q u) lo v l:=
 h.move (by simp [World.setCell]) (fun b h1 h2=>Below.heap_setCell _ _ _ _ (by omega))
theorem FR.setLow {w:World}{B:Nat}{v:Value}{l:List Rn}(h:FR w B v l)(q:Addr)(u:Value)(hq:q.block<B):FR (w.setCell q u) B v l:=
 h.setFar q u (fun e=>by have:=(World.ownsRow.lt h _ e).1;omega)
theorem SOw.of {w:World}{lo:Nat}{a x:Option Addr}{c d:Nat}{S:Sx}{ul:List Rn}(h:LB w lo (.slice a S.l.length c) S.l)(hf:FR w lo (.slice x S.n d) ul)(hn:S.n=ul.length)(hR:S.R=fun i=>(gR ul i).1)(hF:S.F=fun i=>(gR ul i).2.1)(hT:S.T=fun i=>(gR ul i).2.2)(hlo:lo<=w.heap.size):SOw w lo w.heap.size a x d S:=by
 obtain⟨P,Q,h1,h2⟩:=h;refine⟨fun w' k1 k2=>⟨?_,?_⟩,hlo,Nat.le_refl _⟩
 ·have hL:=h1.move k1 k2;rcases hL.row.2 with ⟨e,e0⟩|⟨g,cap,cur,e,_⟩
  ·exact .inl e0
  ·have hL2:=hL;rw [e] at hL2;injection e with e1 e2 e3;rw [e1];exact hL2.lcap rfl
 ·have hF':FR w' lo (.slice x S.n d) ul:=own_at5 hf (fun q hq=>k2 q (World.ownsRow.lt hf q hq).1 (World.ownsRow.lt hf q hq).2);obtain⟨a',c',e,s,_,_⟩:=hF'.fs;injection e with e1 e2 e3;subst e1;rw [hn,hR,hF,hT];exact s.rseg
theorem SOw.emp (w:World)(a x:Option Addr)(d lo:Nat)(hlo:lo<=w.heap.size):SOw w lo w.heap.size a x d Sx.mt:=SOw.mt w Sx.mt rfl rfl lo _ ⟨hlo,Nat.le_refl _⟩ a x d
theorem stateC {z0:Nat×Nat}{bd:Nat}{J:List Lf}{ul:List Rn}{R F T:Nat ->Int}{m:Nat}(w:World)(h:LvJ w z0 bd J ul)(hlv:LvOk R F T m J J.length)(hbd:LvB J):
  Calls Tryz.prog 19 #[.agg #[.map (some z0.1),.map (some z0.2),.map (some bd)]] w fun e w'=>(∃a c x d,e=.returned (.agg #[.slice a J.length c,.slice x ul.length d])/\ LB w' (w.heap.size+2) (.slice a J.length c) J/\ FR w' (w.heap.size+2) (.slice x ul.length d) ul/\ w.heap.size+2<=w'.heap.size)/\ Below w.heap.size w w':=by
 obtain⟨W,hW⟩:∃W,(w.alloc (.cells #[.map (some z0.1),.map (some z0.2),.map (some bd)] 49)).alloc (.cells #[.slice none 0 0,.slice none 0 0] 28)=W:=⟨_,rfl⟩;have b0:Below w.heap.size w W:=by rw [<- hW];exact below2 _ _ _
 have X0:Bx3 W w.heap.size (.map (some z0.1)) (.map (some z0.2)) (.map (some bd)):=by rw [<- hW];exact(Bx3.made _ _ _ _ _).below ((Below.refl _ _).alloc (Nat.le_refl _) _) (Bx3.made _ _ _ _ _).lt
 have R0:Bx2 W (w.heap.size+1) (.slice none 0 0) (.slice none 0 0):=by rw [<- hW];simpa using Bx2.made (w.alloc (.cells #[.map (some z0.1),.map (some z0.2),.map (some bd)] 49)) (.slice none 0 0) (.slice none 0 0) 28
 have zW:W.heap.size=w.heap.size+2:=by rw [<- hW];simp
 obtain⟨N,B,c,n,D,G,L,h1,h2,h3,h4,h5,h6⟩:=h.below b0;have hTJ:=h1.tj hbd.dis;have HAL:Hid (∀w1,Below W.heap.size W w1 ->Calls Tryz.prog 44 #[.agg #[.map (some z0.1),.map (some z0.2)],.slice none 0 0,.slice none 0 0] w1 fun e w'=>(∃a c,e=.returned (.slice a J.length c)/\ LB w' W.heap.size (.slice a J.length c) J)/\ Below w1.heap.size w1 w'):=hid (fun w1 b1=>by
  have:=appendLeavesN J W B c N (by simpa using h1.tre) (hTJ.nki (by rw [h1.root];simp)) h2 hlv hbd 8 [] rfl (by omega) (.slice none 0 0) [] (.slice none 0 0) w1 b1 (LB.nil w1 _) (.inl ⟨rfl,rfl⟩) (fun g hg=>by cases hg) (by rw [wL_all hlv];have:=hbd.len;simp;omega);rw [show wayOf [] 3=([]:List Ky) from rfl,h1.root] at this;refine this.mono ?_;rintro e w' ⟨v,rfl,lb,g⟩;rw [wL_all hlv,List.nil_append] at lb;obtain⟨a,c,rfl⟩:=lb.form;exact⟨⟨a,c,rfl,lb⟩,g.below (Nat.le_refl _) (fun k hk=>by cases hk)⟩)
 have HCX:Hid (∀w1,Below W.heap.size W w1 ->Calls Tryz.prog 45 #[.map (some bd)] w1 fun e w'=>(∃x d,e=.returned (.agg #[.slice x ul.length d])/\ FR w' W.heap.size (.slice x ul.length d) ul)/\ Below w1.heap.size w1 w'):=hid (fun w1 b1=>by
  have:=contextM2 (h3.below b1) h5 h6;rw [h4] at this;refine this.mono ?_;rintro e w' ⟨v,rfl,hf,b⟩;obtain⟨a,c,rfl,_⟩:=hf.fs;exact⟨⟨a,c,rfl,hf.weak b1.size⟩,b⟩)
 have HX:=hid X0;have HR:=hid R0;have HB0:=hid b0;have HZW:=hid zW;have HSE:Hid (∀w',Below W.heap.size W w' ->(w'.cell? ⟨w.heap.size,0,none⟩=some (.map (some z0.1))/\ w'.cell? ⟨w.heap.size,1,none⟩=some (.map (some z0.2))/\ w'.cell? ⟨w.heap.size,2,none⟩=some (.map (some bd)))):=hid (fun w' b=>by
  have A1:=HX.out.below b HX.out.lt;exact⟨A1.c0,A1.c1,A1.c2⟩)
 clear b0 X0 R0 zW h h1 h2 h3 h4 h5 h6 hTJ hlv hbd;go_enter Tryz.func19,Tryz.ntmps19;go_wp2_with fail;try rw [hW]
 clear hW;refine wp_region_held_drew (S:=fun w'=>w'.cell? ⟨w.heap.size,0,none⟩=some (.map (some z0.1))/\ w'.cell? ⟨w.heap.size,1,none⟩=some (.map (some z0.2))/\ w'.cell? ⟨w.heap.size,2,none⟩=some (.map (some bd))) (by kernel_rfl) (HSE.out _ (Below.refl _ _).drew) (fun hHeld=> ?_);refine tZ 0 3 ?_;refine tZ 1 4 ?_;refine tZ 3 6 ?_;refine tZ 4 7 ?_;refine cZ 2 ?_;intro K hK;go_simp;refine(HAL.out _ (Below.refl _ _).drew).mono ?_;rintro e w1 ⟨⟨a,c,rfl,lb⟩,b1⟩;have b1':Below W.heap.size W w1:=⟨b1.os,b1.tape,b1.output,b1.size,b1.block⟩;have HLB:=hid lb;clear lb;refine hK.out _ _ (HSE.out _ b1') (fun hHeld=> ?_);clear hK K;try simp only [Act.put,sZa,sZb,sZc]
 refine cZ 5 ?_;intro K hK;go_simp;refine(HCX.out _ b1').mono ?_;rintro e w2 ⟨⟨x,d,rfl,hf⟩,b2⟩;have b2':=keepS b1' b2;have HFR:=hid hf;have HL2:=hid (HLB.out.below b2);have R2:=HR.out.below b2' HR.out.lt;clear hf;refine hK.out _ _ (HSE.out _ b2') (fun hHeld=> ?_);clear hK K;try simp only [Act.put,sZa,sZb,sZc]
 refine tZ 6 9 ?_;have t0:=R2.c0;have t1:=R2.c1;have tf:=R2.f;have HR3:=hid (R2.set (.slice a J.length c) (.slice x ul.length d));have HX3:=hid (((HX.out.below b2' HX.out.lt).far (grownSet w2 ⟨w.heap.size+1,0,none⟩ (.slice a J.length c)) (by show w.heap.size≠w.heap.size+1;omega)).far (grownSet _ ⟨w.heap.size+1,1,none⟩ (.slice x ul.length d)) (by show w.heap.size≠w.heap.size+1;omega));have HB9:=hid (keepS HB0.out b2');have HZ2:Hid (w.heap.size+2<=w2.heap.size):=hid (by have h1:=HZW.out;have h2:=b2'.size;omega);have HL9:Hid (LB ((w2.setCell ⟨w.heap.size+1,0,none⟩ (.slice a J.length c)).setCell ⟨w.heap.size+1,1,none⟩ (.slice x ul.length d)) (w.heap.size+2) (.slice a J.length c) J):=hid (by
  have h1:=HL2.out;rw [HZW.out] at h1;exact(h1.set _ _ (by show w.heap.size+1<w.heap.size+2;omega)).set _ _ (by show w.heap.size+1<w.heap.size+2;omega))
 have HF9:Hid (FR ((w2.setCell ⟨w.heap.size+1,0,none⟩ (.slice a J.length c)).setCell ⟨w.heap.size+1,1,none⟩ (.slice x ul.length d)) (w.heap.size+2) (.slice x ul.length d) ul):=hid (by
  have h1:=HFR.out;rw [HZW.out] at h1;exact(h1.setLow _ _ (by show w.heap.size+1<w.heap.size+2;omega)).setLow _ _ (by show w.heap.size+1<w.heap.size+2;omega))
 refine cZ 7 ?_;intro K hK;go_simp;refine hK.out _ _ ⟨HX3.out.c0,HX3.out.c1,HX3.out.c2⟩ (fun hHeld=> ?_);clear hK K;try simp only [Act.put,sZa,sZb,sZc]
 refine wpAnyH_done (by kernel_rfl) ?_ _;clear hHeld b1 b1' b2 b2' R2 t0 t1 tf HSE HAL HCX;go_wp2_with fail;have s0:=HR3.out.c0;have s1:=HR3.out.c1;refine bodyPost_ret (v:=.agg #[.slice a J.length c,.slice x ul.length d]) (by simp [results,Tryz.results19,go_sem,s0,s1]) rfl ⟨⟨a,c,x,d,rfl,HL9.out,HF9.out,by simp [World.setCell];have:=HZ2.out;omega⟩,?_⟩;exact(HB9.out.setCell (by simp) _).setCell (by simp) _
theorem openB (a x:Option Addr)(c d:Nat)(S:Sx)(w:World)(hm:S.Sm)(hi:∀i,LfI (gL S.l i))(h:SAt w a x S):
  Calls Tryz.prog 16 #[.agg #[.slice a S.l.length c,.slice x S.n d]] w fun e w'=>(∃u0 u1 u2,e=.returned (.tuple #[.agg #[.map u0,.map u1,.map u2],.bool (stB S)])/\ (stB S=true ->∃x0 bm,u0=some (Prod.fst x0)/\ u1=some (Prod.snd x0)/\ u2=some bm/\ OpA w' x0 bm S))/\ Below w.heap.size w w':=by
 cases hb:stB S with
 | true=>
  refine(openStateK a c S.l x S.n d S.R S.F S.T w hm.l1 hm.p1 hi hm.n1 h.lf h.rn (stB_t hb)).mono ?_;rintro e w' ⟨⟨x0,bm,D,G,N,B,rfl,h1,_,_,_,h2,h3,h4⟩,b⟩;exact⟨⟨_,_,_,rfl,fun _=>⟨x0,bm,rfl,rfl,rfl,S.n,D,G,N,B,(stB_t hb).w.1.2,h1,h2,h3,h4⟩⟩,b⟩
 | false=>
  refine(openStateNo a c S.l x S.n d S.R S.F S.T w hm.l1 hm.p1 hi hm.n1 h.lf h.rn (stB_f hb)).mono ?_;rintro e w' ⟨rfl,b⟩;exact⟨⟨_,_,_,rfl,fun h=>by cases h⟩,b⟩
theorem implJoinC (a x a' x':Option Addr)(c d c' d':Nat)(S S':Sx)(w:World)(hm:S.Sm)(hm':S'.Sm)(hi:∀i,LfI (gL S.l i))(hi':∀i,LfI (gL S'.l i))(h:SAt w a x S)(h':SAt w a' x' S'):
  Calls Tryz.prog 6 #[.agg #[.slice a S.l.length c,.slice x S.n d],.agg #[.slice a' S'.l.length c',.slice x' S'.n d']] w fun e w'=>∃ja jc jx jd,e=.returned (.tuple #[.agg #[.slice ja (jnZ S S').l.length jc,.slice jx (jnZ S S').n jd],.bool (jnB S S')])/\ SOw w' w.heap.size w'.heap.size ja jx jd (jnZ S S')/\ Below w.heap.size w w':=by
 obtain⟨W,hW⟩:∃W,((w.alloc (.cells #[.slice a S.l.length c,.slice x S.n d] 28)).alloc (.cells #[.slice a' S'.l.length c',.slice x' S'.n d'] 28)).alloc (.cells #[.slice none 0 0,.slice none 0 0] 28)=W:=⟨_,rfl⟩;have b0:Below w.heap.size w W:=by rw [<- hW];exact(below2 _ _ _).alloc (by simp;omega) _
 have A0:Bx2 W w.heap.size (.slice a S.l.length c) (.slice x S.n d):=by rw [<- hW];exact((Bx2.made w _ _ _).allocs _).allocs _
 have B0:Bx2 W (w.heap.size+1) (.slice a' S'.l.length c') (.slice x' S'.n d'):=by
  rw [<- hW];have:=Bx2.made (w.alloc (.cells #[.slice a S.l.length c,.slice x S.n d] 28)) (.slice a' S'.l.length c') (.slice x' S'.n d') 28;exact(by simpa using this:Bx2 _ (w.heap.size+1) _ _).allocs _
 have R0:Bx2 W (w.heap.size+1+1) (.slice none 0 0) (.slice none 0 0):=by
  rw [<- hW];simpa using Bx2.made ((w.alloc (.cells #[.slice a S.l.length c,.slice x S.n d] 28)).alloc (.cells #[.slice a' S'.l.length c',.slice x' S'.n d'] 28)) (.slice none 0 0) (.slice none 0 0) 28
 have zW:W.heap.size=w.heap.size+3:=by rw [<- hW];simp
 have HOP:=hid (openB a x c d S W hm hi (h.below b0));have HOP':=hid (fun w1 (b1:Below W.heap.size W w1)=>openB a' x' c' d' S' w1 hm' hi' ((h'.below b0).below b1));have HBB:=hid B0;have HR0:=hid R0;have HB0:=hid b0;have HZW:=hid zW;have k0:=A0.c0;have k1:=A0.c1;obtain⟨V,hV⟩:∃V,stB S=V:=⟨_,rfl⟩;obtain⟨V',hV'⟩:∃V,stB S'=V:=⟨_,rfl⟩;have HSB:=hid hV;have HSB':=hid hV';rw [hV] at HOP;rw [hV'] at HOP';clear b0 A0 B0 R0 zW h h' hV hV' hi hi';go_enter Tryz.func6,Tryz.ntmps6;go_wp2_with fail;try rw [hW]
 clear hW;refine HOP.out.mono ?_;rintro e w1 ⟨⟨u0,u1,u2,rfl,ho⟩,b1⟩;have HO1:=hid ho;obtain⟨w2,hw2⟩:∃w2,w1.alloc (.cells #[.map u0,.map u1,.map u2] 49)=w2:=⟨_,rfl⟩;have b2:Below w1.heap.size w1 w2:=by rw [<- hw2];exact(Below.refl _ _).alloc (Nat.le_refl _) _
 have HX2:Hid (Bx3 w2 w1.heap.size (.map u0) (.map u1) (.map u2)):=hid (by rw [<- hw2];exact Bx3.made _ _ _ _ _);have HW2:=hid (keepS b1 b2);have HB12:=hid b2;have HB2:=hid (HB0.out.trans (HW2.out.mono HB0.out.size));have l0:=(HBB.out.below HW2.out HBB.out.lt).c0;have l1:=(HBB.out.below HW2.out HBB.out.lt).c1;clear b1 b2 ho k0 k1 HOP;go_wp2_with fail;try rw [hw2]
 clear hw2;refine(HOP'.out w2 HW2.out).mono ?_;rintro e w3 ⟨⟨v0,v1,v2,rfl,ho⟩,b3⟩;have HO3:=hid ho;obtain⟨w4,hw4⟩:∃w4,w3.alloc (.cells #[.map v0,.map v1,.map v2] 49)=w4:=⟨_,rfl⟩;have b4:Below w3.heap.size w3 w4:=by rw [<- hw4];exact(Below.refl _ _).alloc (Nat.le_refl _) _
 have HX4:Hid (Bx3 w4 w3.heap.size (.map v0) (.map v1) (.map v2)):=hid (by rw [<- hw4];exact Bx3.made _ _ _ _ _);have HB34:=hid b4;have HB24:=hid (keepS b3 b4);have HW4:=hid (keepS HW2.out HB24.out);have HB4:=hid (HB0.out.trans (HW4.out.mono HB0.out.size));have HR4:=hid (HR0.out.below HW4.out HR0.out.lt);clear b3 b4 ho l0 l1 HOP';cases V with
 | false=>
  have HZ:Hid (jnB S S'=false/\ jnZ S S'=Sx.mt):=hid (by
   have e:jnB S S'=false:=by unfold jnB;rw [HSB.out];rfl
   exact⟨e,jnZ_f e⟩)
  have r0:=HR4.out.c0;have r1:=HR4.out.c1;have f0:=HR4.out.f 0;have f1:=HR4.out.f 1;have HC:=hid (HR4.out.set (.slice none 0 0) (.slice none 0 0));go_wp2_with fail;have s0:=HC.out.c0;have s1:=HC.out.c1;refine bodyPost_ret (v:=.tuple #[.agg #[.slice none 0 0,.slice none 0 0],.bool false]) (by simp [results,Tryz.results6,go_sem,s0,s1]) rfl ⟨none,0,none,0,by rw [HZ.out.1,HZ.out.2];rfl,?_,?_⟩
  ·rw [HZ.out.2];exact SOw.emp _ _ _ _ _ (by simp [World.setCell];exact HB4.out.size)
  ·exact(HB4.out.setCell (by simp;omega) _).setCell (by simp;omega) _
 | true=>
  cases V' with
  | false=>
   have HZ:Hid (jnB S S'=false/\ jnZ S S'=Sx.mt):=hid (by
    have e:jnB S S'=false:=by unfold jnB;rw [HSB'.out];simp
    exact⟨e,jnZ_f e⟩)
   have r0:=HR4.out.c0;have r1:=HR4.out.c1;have f0:=HR4.out.f 0;have f1:=HR4.out.f 1;have HC:=hid (HR4.out.set (.slice none 0 0) (.slice none 0 0));go_wp2_with fail;have s0:=HC.out.c0;have s1:=HC.out.c1;refine bodyPost_ret (v:=.tuple #[.agg #[.slice none 0 0,.slice none 0 0],.bool false]) (by simp [results,Tryz.results6,go_sem,s0,s1]) rfl ⟨none,0,none,0,by rw [HZ.out.1,HZ.out.2];rfl,?_,?_⟩
   ·rw [HZ.out.2];exact SOw.emp _ _ _ _ _ (by simp [World.setCell];exact HB4.out.size)
   ·exact(HB4.out.setCell (by simp;omega) _).setCell (by simp;omega) _
  | true=>
   obtain⟨x0,bm,rfl,rfl,rfl,o1⟩:=HO1.out rfl;obtain⟨y0,bm',rfl,rfl,rfl,o3⟩:=HO3.out rfl;have hs:=stB_t HSB.out;have hs':=stB_t HSB'.out;have HJL:=hid (joinLiveC w4 ((o1.below HB12.out).below HB24.out) (o3.below HB34.out) hs.w hs'.w);have HLE:Hid ((jnS S S').l.length<=2000/\ (jnU S S').length<=4000):=hid (jn_len hs.w hs'.w);have HDI:=hid (And.intro (jn_dis hs.w hs'.w) (And.intro (fun x hx=>(jn_bd hs.w hs'.w x hx).2.2.2) (And.intro (jn_lv hs.w hs'.w) (fun hl=>jn_lvB hs.w hs'.w hl))));have X2:=HX2.out.below HB24.out HX2.out.lt;have p0:=X2.c0;have p1:=X2.c1;have p2:=X2.c2;have q0:=HX4.out.c0;have q1:=HX4.out.c1;have q2:=HX4.out.c2;clear o1 o3 hs hs' X2 HO1 HO3;go_wp2_with fail;try rw [hw4]
   clear hw4;refine HJL.out.mono ?_;rintro e w5 ⟨⟨z0,bd,rfl,lv⟩,b5⟩;obtain⟨w6,hw6⟩:∃w6,w5.alloc (.cells #[.map (some z0.1),.map (some z0.2),.map (some bd)] 49)=w6:=⟨_,rfl⟩;have b6:Below w5.heap.size w5 w6:=by rw [<- hw6];exact(Below.refl _ _).alloc (Nat.le_refl _) _
   have X6:Bx3 w6 w5.heap.size (.map (some z0.1)) (.map (some z0.2)) (.map (some bd)):=by rw [<- hw6];exact Bx3.made _ _ _ _ _
   have HX6:=hid X6;have HLV:=hid (lv.below b6);have HB46:=hid (keepS b5 b6);have HB6:=hid (HB4.out.trans (HB46.out.mono HB4.out.size));have HR6:=hid (HR4.out.below HB46.out HR4.out.lt);have HWI:=hid (withinC w6 HLV.out HDI.out.1 HDI.out.2.1 (by have:=HLE.out;omega) (by have:=HLE.out;omega));have HFE:Hid ((decide ((jnS S S').l.length<=1000) && decide ((jnU S S').length<=1000))=jnF S S'):=hid rfl;rw [HFE.out] at HWI;obtain⟨B,hB⟩:∃B,jnF S S'=B:=⟨_,rfl⟩;have HJF:=hid hB;rw [hB] at HWI;have e0:=X6.c0;have e1:=X6.c1;have e2:=X6.c2;clear lv b5 b6 X6 hB HFE p0 p1 p2 q0 q1 q2 HJL;go_wp2_with fail;try rw [hw6]
   clear hw6;refine HWI.out.mono ?_;rintro e w7 ⟨rfl,b7⟩;have HB7:=hid (HB6.out.trans (b7.mono HB6.out.size));have HR7:=hid (HR6.out.below b7 HR6.out.lt);have X7:=HX6.out.below b7 HX6.out.lt;have HLV7:=hid (HLV.out.below b7);have g0:=X7.c0;have g1:=X7.c1;have g2:=X7.c2;clear b7 X7 e0 e1 e2 HWI;cases B with
   | false=>
    have HZ:Hid (jnB S S'=false/\ jnZ S S'=Sx.mt):=hid (by
     have e:jnB S S'=false:=by unfold jnB;rw [HJF.out];simp
     exact⟨e,jnZ_f e⟩)
    have r0:=HR7.out.c0;have r1:=HR7.out.c1;have f0:=HR7.out.f 0;have f1:=HR7.out.f 1;have HC:=hid (HR7.out.set (.slice none 0 0) (.slice none 0 0));go_wp2_with fail;have s0:=HC.out.c0;have s1:=HC.out.c1;refine bodyPost_ret (v:=.tuple #[.agg #[.slice none 0 0,.slice none 0 0],.bool false]) (by simp [results,Tryz.results6,go_sem,s0,s1]) rfl ⟨none,0,none,0,by rw [HZ.out.1,HZ.out.2];rfl,?_,?_⟩
    ·rw [HZ.out.2];exact SOw.emp _ _ _ _ _ (by simp [World.setCell];exact HB7.out.size)
    ·exact(HB7.out.setCell (by simp;omega) _).setCell (by simp;omega) _
   | true=>
    have HZ:Hid (jnB S S'=true/\ jnZ S S'=jnS S S'):=hid (by
     have e:jnB S S'=true:=by unfold jnB;rw [HJF.out,HSB.out,HSB'.out];rfl
     exact⟨e,jnZ_t e⟩)
    have HST:=hid (stateC w7 HLV7.out HDI.out.2.2.1 (HDI.out.2.2.2 (by have:=HJF.out;unfold jnF at this;simp at this;exact this.1)));obtain⟨JL,hJL⟩:∃JL,(jnS S S').l.length=JL:=⟨_,rfl⟩;obtain⟨JU,hJU⟩:∃JU,(jnU S S').length=JU:=⟨_,rfl⟩;rw [hJL,hJU] at HST;have HJL:=hid hJL;have HJU:=hid hJU;clear hJL hJU;go_wp2_with fail;refine HST.out.mono ?_;rintro e w8 ⟨⟨ja,jc,jx,jd,rfl,lb,fr,hz⟩,b8⟩;have R8:=HR7.out.below b8 HR7.out.lt;have r0:=R8.c0;have r1:=R8.c1;have f0:=R8.f 0;have f1:=R8.f 1;have HC:=hid (R8.set (.slice ja JL jc) (.slice jx JU jd));have HB8:=hid (HB7.out.trans (b8.mono HB7.out.size));have HZ7:Hid (w.heap.size+1+1<w7.heap.size):=hid HR7.out.lt;have HLB:=hid lb;have HFR:=hid fr;have HHZ:=hid hz;clear lb fr hz b8 R8 g0 g1 g2;go_wp2_with fail;have s0:=HC.out.c0;have s1:=HC.out.c1;refine bodyPost_ret (v:=.tuple #[.agg #[.slice ja JL jc,.slice jx JU jd],.bool true]) (by simp [results,Tryz.results6,go_sem,s0,s1]) rfl ⟨ja,jc,jx,jd,by rw [HZ.out.1,HZ.out.2,HJL.out,show (jnS S S').n=JU from HJU.out],?_,?_⟩
    ·rw [HZ.out.2];have hz7:=HZ7.out;have hb8:=HB8.out.size;have l9:=((HLB.out.set ⟨w.heap.size+1+1,0,none⟩ (.slice ja JL jc) (by show w.heap.size+1+1<w7.heap.size+2;omega)).set ⟨w.heap.size+1+1,1,none⟩ (.slice jx JU jd) (by show w.heap.size+1+1<w7.heap.size+2;omega)).low (show w.heap.size<=w7.heap.size+2 by omega);have f9:=((HFR.out.setLow ⟨w.heap.size+1+1,0,none⟩ (.slice ja JL jc) (by show w.heap.size+1+1<w7.heap.size+2;omega)).setLow ⟨w.heap.size+1+1,1,none⟩ (.slice jx JU jd) (by show w.heap.size+1+1<w7.heap.size+2;omega)).weak (show w.heap.size<=w7.heap.size+2 by omega);exact SOw.of (ul:=jnU S S') (by rw [HJL.out];exact l9) (by rw [show (jnS S S').n=JU from HJU.out];exact f9) rfl rfl rfl rfl (by simp [World.setCell];exact hb8)
    ·exact(HB8.out.setCell (by simp;omega) _).setCell (by simp;omega) _
theorem lf_eq {x y:Lf}:x=y↔cmpL x y=0/\ x.v=y.v:=by
 rw [cmpL_z];constructor
 ·rintro rfl;exact⟨rfl,rfl⟩
 ·rintro⟨h1,h2⟩;obtain⟨e1,e2,e3,e4⟩:=lfK_way h1;obtain⟨x1,x2,x3,x4,x5⟩:=x;obtain⟨y1,y2,y3,y4,y5⟩:=y;dsimp only at e1 e2 e3 e4 h2;subst e1;subst e2;subst e3;subst e4;subst h2;rfl
theorem gL_all {l m:List Lf}(hl:l.length=m.length)(h:∀i,i<l.length ->gL l i=gL m i):l=m:=by
 refine List.ext_getElem hl fun i h1 h2=> ?_;have:=h i h1;simpa [gL,List.getD,h1,h2] using this
theorem sameLeafC (a a':Option Addr)(c c':Nat)(p p':List ByteArray)(fl fl':Bool)(r q r' q':Int)(v v':ByteArray)(w:World)(hn:p.length<=1048576)(hn':p'.length<=1048576)(h:SSeg w a p)(h':SSeg w a' p'):
  Calls Tryz.prog 49 #[.agg #[.slice a p.length c,.bool fl,.int .i64 r,.int .i64 q,.string v],.agg #[.slice a' p'.length c',.bool fl',.int .i64 r',.int .i64 q',.string v']] w fun e w'=>e=.returned (.bool (yes ((⟨p,fl,r,q,v⟩:Lf)=⟨p',fl',r',q',v'⟩)))/\ Below w.heap.size w w':=by
 obtain⟨W,hW⟩:∃W,(w.alloc (.cells #[.slice a p.length c,.bool fl,.int .i64 r,.int .i64 q,.string v] 65)).alloc (.cells #[.slice a' p'.length c',.bool fl',.int .i64 r',.int .i64 q',.string v'] 65)=W:=⟨_,rfl⟩;have b0:Below w.heap.size w W:=by rw [<- hW];exact below2 _ _ _
 have X0:Bx5 W w.heap.size (.slice a p.length c) (.bool fl) (.int .i64 r) (.int .i64 q) (.string v):=by rw [<- hW];exact(Bx5.new _ _ _ _ _ _ _).up _
 have Y0:Bx5 W (w.heap.size+1) (.slice a' p'.length c') (.bool fl') (.int .i64 r') (.int .i64 q') (.string v'):=by
  rw [<- hW];simpa using Bx5.new (w.alloc (.cells #[.slice a p.length c,.bool fl,.int .i64 r,.int .i64 q,.string v] 65)) (.slice a' p'.length c') (.bool fl') (.int .i64 r') (.int .i64 q') (.string v') 65
 have HS:=hid (compareLeaves a a' c c' p p' fl fl' r q r' q' v v' W hn hn' (h.below b0) (h'.below b0));have HB0:=hid b0;have HX:=hid X0;have HY:=hid Y0;have k0:=X0.c0;have k1:=X0.c1;have k2:=X0.c2;have k3:=X0.c3;have k4:=X0.c4;have l0:=Y0.c0;have l1:=Y0.c1;have l2:=Y0.c2;have l3:=Y0.c3;have l4:=Y0.c4;have HE:Hid (yes ((⟨p,fl,r,q,v⟩:Lf)=⟨p',fl',r',q',v'⟩)=true↔cmpL ⟨p,fl,r,q,v⟩ ⟨p',fl',r',q',v'⟩=0/\ v=v'):=hid (by
  rw [<- show ((⟨p,fl,r,q,v⟩:Lf)=⟨p',fl',r',q',v'⟩↔cmpL ⟨p,fl,r,q,v⟩ ⟨p',fl',r',q',v'⟩=0/\ v=v') from lf_eq];exact⟨fun e=>Classical.byContradiction (fun hn=>by rw [yes_f hn] at e;cases e),fun e=>yes_t e⟩)
 obtain⟨B,hB⟩:∃B,yes ((⟨p,fl,r,q,v⟩:Lf)=⟨p',fl',r',q',v'⟩)=B:=⟨_,rfl⟩;obtain⟨x,hx⟩:∃x,cmpL ⟨p,fl,r,q,v⟩ ⟨p',fl',r',q',v'⟩=x:=⟨_,rfl⟩;rw [hB,hx] at HE;rw [hx] at HS;rw [hB];clear b0 h h' hB hx X0 Y0;go_enter Tryz.func49,Tryz.ntmps49;go_wp2_with fail;try rw [hW]
 clear hW;refine HS.out.mono ?_;rintro e w1 ⟨rfl,b1⟩;have HB1:=hid (keepS HB0.out b1);have m4:=(HX.out.below b1 HX.out.lt).c4;have n4:=(HY.out.below b1 HY.out.lt).c4;have hno:¬(x=0/\ v=v') ->Hid (B=false):=fun hn=>hid (by
  cases hb:B with
  | false=>rfl
  | true=>exact absurd (HE.out.1 hb) hn)
 clear b1 k0 k1 k2 k3 k4 l0 l1 l2 l3 l4 HS HB0;by_cases h0:x=0
 ·have e0:(x==0)=true:=by simp [h0]
  by_cases h3:v=v'
  ·have e3:(v.toList==v'.toList)=true:=by simp [h3]
   have HG:Hid (B=true):=hid (HE.out.2 ⟨h0,h3⟩);clear HE hno h0 h3;go_wp2_with fail;go_ret;exact⟨ret_b HG.out.symm,HB1.out⟩
  ·have e3:(v.toList==v'.toList)=false:=by simpa using fun h=>h3 (toList_inj h)
   have HG:=hno (fun h=>h3 h.2);clear HE hno h0 h3;go_wp2_with fail;go_ret;exact⟨ret_b HG.out.symm,HB1.out⟩
 ·have e0:(x==0)=false:=by simpa using h0
  have HG:=hno (fun h=>h0 h.1);clear HE hno h0;go_wp2_with fail;go_ret;exact⟨ret_b HG.out.symm,HB1.out⟩
theorem eqFuncX (a a':Option Addr)(c c':Nat)(l l':List Lf)(w:World)(hl:l.length<=1048576)(hl':l'.length<=1048576)(hp:LBd l)(hp':LBd l')(h:LSeg w a l)(h':LSeg w a' l'):
  Calls Tryz.prog 48 #[.slice a l.length c,.slice a' l'.length c',.func (.func 49) #[] #[]] w fun e w'=>e=.returned (.bool (yes (l=l')))/\ Below w.heap.size w w':=by
 obtain⟨B,hB⟩:∃B,yes (l=l')=B:=⟨_,rfl⟩;have HBV:=hid hB;rw [hB];clear hB;by_cases hlen:l.length=l'.length
 ·obtain⟨n,hn1⟩:∃n,l.length=n:=⟨_,rfl⟩;have hn2:l'.length=n:=by omega
  rw [hn1,hn2];have hnn:n<=1048576:=by omega
  have d0:((n:Int) !=(n:Int))=false:=by simp
  have HNN:=hid (And.intro hn1 hn2);have HL:=hid h;have HL':=hid h';have HP:=hid hp;have HP':=hid hp';clear h h' hp hp' hlen hn1 hn2 hl hl';go_enter Tryz.func48,Tryz.ntmps48;go_wp2_with fail;go_loopw [17] (fun i wr=>∃j:Nat,j<=n/\ i=.int .i64 j/\ Hid (Below w.heap.size w wr)/\ Hid (∀t,t<j ->gL l t=gL l' t)) (fun i _=>n - (intOf i).toNat);case atStart=>exact⟨0,Nat.zero_le _,rfl,hid (Below.refl _ _),hid (fun t ht=>by omega)⟩
  case round=>
   obtain⟨j,hj,rfl,HB,HN⟩:=hrel;by_cases hlt:j<n
   ·have i1:(0:Int)<=(j:Int):=Int.natCast_nonneg _;have i2:(j:Int)<(n:Int):=by omega
    obtain⟨b,off,rfl,hb,hcs⟩:=(HL.out.below HB.out).resolve_left (by have:=HNN.out;omega);obtain⟨pa,pc,c0,sg,c1,c2,c3,c4⟩:=hcs j (by have:=HNN.out;omega);obtain⟨b',off',rfl,hb',hcs'⟩:=(HL'.out.below HB.out).resolve_left (by have:=HNN.out;omega);obtain⟨pa',pc',e0,sg',e1,e2,e3,e4⟩:=hcs' j (by have:=HNN.out;omega);have HCA:=hid (fun w1 (b1:Below wr.heap.size wr w1)=>sameLeafC pa pa' pc pc' (gL l j).p (gL l' j).p (gL l j).fl (gL l' j).fl (gL l j).r (gL l j).q (gL l' j).r (gL l' j).q (gL l j).v (gL l' j).v w1 (HP.out j) (HP'.out j) (sg.below b1) (sg'.below b1));obtain⟨y,hy⟩:∃y,gL l j=y:=⟨_,rfl⟩;obtain⟨z,hz⟩:∃z,gL l' j=z:=⟨_,rfl⟩;rw [hy] at c0 c1 c2 c3 c4;rw [hz] at e0 e1 e2 e3 e4;rw [hy,hz] at HCA;have HYZ:=hid (And.intro hy hz);obtain⟨yp,yf,yr,yq,yv⟩:=y;obtain⟨zp,zf,zr,zq,zv⟩:=z;dsimp only at c0 c1 c2 c3 c4 e0 e1 e2 e3 e4 HCA;obtain⟨C,hC⟩:∃C,yes ((⟨yp,yf,yr,yq,yv⟩:Lf)=⟨zp,zf,zr,zq,zv⟩)=C:=⟨_,rfl⟩;have HCV:=hid hC;rw [hC] at HCA;obtain⟨w1,hw1⟩:∃w1,wr.alloc (.cells #[.slice pa yp.length pc,.bool yf,.int .i64 yr,.int .i64 yq,.string yv] 65)=w1:=⟨_,rfl⟩;have b1:Below wr.heap.size wr w1:=by rw [<- hw1];exact(Below.refl _ _).alloc (Nat.le_refl _) _
    have HX1:Hid (Bx5 w1 wr.heap.size (.slice pa yp.length pc) (.bool yf) (.int .i64 yr) (.int .i64 yq) (.string yv)):=hid (by rw [<- hw1];exact Bx5.new _ _ _ _ _ _ _);have q:=fun o=>b1.cell (p:=⟨b',o,none⟩) hb';have g0:=(q (off'+j*5)).trans e0;have g1:=(q (off'+j*5+1)).trans e1;have g2:=(q (off'+j*5+2)).trans e2;have g3:=(q (off'+j*5+3)).trans e3;have g4:=(q (off'+j*5+4)).trans e4;obtain⟨w2,hw2⟩:∃w2,w1.alloc (.cells #[.slice pa' zp.length pc',.bool zf,.int .i64 zr,.int .i64 zq,.string zv] 65)=w2:=⟨_,rfl⟩;have b2:Below w1.heap.size w1 w2:=by rw [<- hw2];exact(Below.refl _ _).alloc (Nat.le_refl _) _
    have X2:=HX1.out.below b2 HX1.out.lt;have Y2:Bx5 w2 w1.heap.size (.slice pa' zp.length pc') (.bool zf) (.int .i64 zr) (.int .i64 zq) (.string zv):=by rw [<- hw2];exact Bx5.new _ _ _ _ _ _ _
    have HB2:=hid (keepS b1 b2);have x0:=X2.c0;have x1:=X2.c1;have x2:=X2.c2;have x3:=X2.c3;have x4:=X2.c4;have y0:=Y2.c0;have y1:=Y2.c1;have y2:=Y2.c2;have y3:=Y2.c3;have y4:=Y2.c4;clear hy hz hC hcs hcs' sg sg' q e0 e1 e2 e3 e4 b1 b2 X2 Y2;go_wp2_with fail;refine(HCA.out w2 HB2.out).mono ?_;rintro e w3 ⟨rfl,b3⟩;have HB3:=hid (HB.out.trans ((keepS HB2.out b3).mono HB.out.size));clear x0 x1 x2 x3 x4 y0 y1 y2 y3 y4 g0 g1 g2 g3 g4 c0 c1 c2 c3 c4 b3 HCA hw1 hw2;cases C with
    | true=>
     have HN1:Hid (∀t,t<j+1 ->gL l t=gL l' t):=hid (fun t ht=>by
      by_cases e:t=j
      ·rw [e,HYZ.out.1,HYZ.out.2];exact Classical.byContradiction fun hn=>by have:=HCV.out;rw [yes_f hn] at this;cases this
      ·exact HN.out t (by omega))
     clear HN HB;go_wp2_with fail;go_roundw;case rel=>exact⟨j+1,hlt,by go_num,HB3,HN1⟩
     case measure=>simp [intOf];omega
    | false=>
     have HG:Hid (B=false):=hid (by
      rw [<- HBV.out];refine yes_f fun e=> ?_;have:=HCV.out;rw [yes_t (by rw [<- HYZ.out.1,<- HYZ.out.2,e])] at this;cases this)
     go_wp2_with fail;go_ret;exact⟨ret_b HG.out.symm,HB3.out⟩
   ·obtain rfl:j=n:=by omega
    have HG:Hid (B=true):=hid (by rw [<- HBV.out];exact yes_t (gL_all (by have:=HNN.out;omega) (fun i hi=>HN.out i (by have:=HNN.out;omega))));go_wp2_with fail;go_ret;exact⟨ret_b HG.out.symm,HB.out⟩
 ·have d0:((l.length:Int) !=(l'.length:Int))=true:=by simp;omega
  have HG:Hid (B=false):=hid (by rw [<- HBV.out];exact yes_f (fun e=>hlen (by rw [e])));go_enter Tryz.func48,Tryz.ntmps48;go_wp2_with fail;go_ret;exact⟨ret_b HG.out.symm,Below.refl _ _⟩
end Go.Proofs.YtpfmeafmepgimaaGreat
