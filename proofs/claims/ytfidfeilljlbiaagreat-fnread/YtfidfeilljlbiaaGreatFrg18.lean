import Derived.Test.YtfidfeilljlbiaaGreatFrg17
import Derived.Test.YtfidfeilljlbiaaGreatFrg12
import Derived.Test.YtfidfeilljlbiaaGreatFrg14
import Derived.Test.YtfidfeilljlbiaaGreatFrg09
import Derived.Test.YtfidfeilljlbiaaGreatFrg02
import Derived.Test.YtfidfeilljlbiaaGreatFrg11
import Derived.Test.YtfidfeilljlbiaaGreatFrg13
set_option linter.unusedVariables false
set_option linter.unusedSimpArgs false
set_option maxRecDepth 100000
set_option maxHeartbeats 40000000
namespace Go.Proofs.YtfidfeilljlbiaaGreat
open Go.ChangeShapes Go.WideShapes Go.ChangeAt Go.RowKit Go.Maps
theorem cW_cons (x:Lf)(J:List Lf)(z:List Ky):cW (x::J) z=cW J z+if yes (z <+:Way x)=true then 1 else 0:=by
 unfold cW;cases hp:yes (z <+:Way x) with
 | true=>simp [hp]
 | false=>simp [hp]
theorem cW3 {p:List ByteArray}(h0:0<p.length):∀J:List Lf,cW J (wayOf p 1)+cW J (wayOf p 2)+cW J (wayOf p 3)<=J.length
 | []=>by simp [cW]
 | x::J=>by
  have ih:=cW3 h0 J;rw [cW_cons,cW_cons,cW_cons,List.length_cons];have Ha:∀k k':Int,k≠k' ->¬(wayOf p k <+:Way x/\ wayOf p k' <+:Way x):=fun k k' hne ⟨h1,h2⟩=>by
   rw [way_pre h0] at h1 h2;rcases h1 with ⟨e1,_,l1⟩|⟨e1,l1⟩
   ·rcases h2 with ⟨e2,_⟩|⟨e2,_⟩
    ·exact hne (e1.trans e2.symm)
    ·rw [e2] at l1;omega
   ·rcases h2 with ⟨e2,_,l2⟩|⟨e2,l2⟩
    ·rw [e1] at l2;omega
    ·exact hne (l1.trans l2.symm)
  have Hb:=Ha 1 2 (by decide);have Hc:=Ha 1 3 (by decide);have Hd:=Ha 2 3 (by decide);by_cases a1:wayOf p 1 <+:Way x
  ·have a2:¬wayOf p 2 <+:Way x:=fun h=>Hb ⟨a1,h⟩;have a3:¬wayOf p 3 <+:Way x:=fun h=>Hc ⟨a1,h⟩;rw [if_pos (yes_t a1),if_neg (by rw [yes_f a2];simp),if_neg (by rw [yes_f a3];simp)];omega
  ·rw [if_neg (by rw [yes_f a1];simp)];by_cases a2:wayOf p 2 <+:Way x
   ·have a3:¬wayOf p 3 <+:Way x:=fun h=>Hd ⟨a2,h⟩;rw [if_pos (yes_t a2),if_neg (by rw [yes_f a3];simp)];omega
   ·rw [if_neg (by rw [yes_f a2];simp)];split<;>omega
theorem nki_jf {w:World}{B c:Nat}{J:List Lf}{N:List Ky ->Option (Nat×Nat)}{x0:Nat×Nat}(h:Tre w B N (Mk J J.length) c)(hr:N []=some x0)(hn:NkI J J.length N):JF w B J [] N c x0:=by
 refine⟨by simpa using h,hr,fun y r=> ?_⟩;rw [hn];constructor
 ·rintro(e|⟨j,hj,hp⟩)
  ·cases e
  ·exact⟨gL J j,gL_mem.2 ⟨j,hj,rfl⟩,by simpa using hp⟩
 ·rintro⟨x,hx,hp⟩;obtain⟨j,hj,e⟩:=gL_mem.1 hx;exact .inr ⟨j,hj,by rw [e];simpa using hp⟩
theorem GrpAt.r {w:World}{bm n:Nat}{D:DataW Value}{G:Int ->Value}{L:Int ->List (Int×Int)}(h:GrpAt w bm n D G L):GrpR w bm n D G L:=⟨h.own,h.at',h.has',fun r=>row_zero (h.rows r)⟩
theorem dl_open {g:Lf ->Prop}{S:Sx}{P:List Lf}(h:StOk S.R S.F S.T S.n S.l)(hp:PtO S P){w:World}{bm n:Nat}{D:DataW Value}{G:Int ->Value}{L:Int ->List (Int×Int)}{ds:List Dt}(hn:n<=2000)(hG:GrpAt w bm n D G L)(hs:∀r,Srt (L r))(hi:∀r x,In (L r) x↔(r,x)∈ds)(hl:∀r,(L r).length<=2000)
  (hd:∀d:Dt,d∈ds↔(∃y,(y∈S.l/\ g y)/\ y.r=d.1/\ y.q=d.2) \/∃y∈P,y.r=d.1/\ y.q=d.2) {x0:Nat×Nat} {N:List Ky ->Option (Nat×Nat)} {B:Nat} (hT:Tre w B N (Mk P P.length) (9*P.length)) (hr:N []=some x0) (hk:NkI P P.length N):
  OpA w x0 bm (dlS g S.l P)/\ LvJ w x0 bm (dlS g S.l P).l (dlU g S.l P):=by
 have e1:=dl_out h hp hs hi hd;have e2:=dl_Lk (g:=g) h hp hs hi hd;refine⟨⟨n,D,G,N,B,hn,by rw [<- e2];exact hG,hT,hr,hk⟩,N,B,9*P.length,n,D,G,L,nki_jf hT hr hk,by have:=hp.one;omega,hG.r,e1,fun r hne=> ?_,fun r=>Nat.le_trans (hl r) (by omega)⟩;obtain⟨x,hx⟩:=(hs r).inh hne;rcases (hd (r,x)).1 ((hi r x).1 hx) with ⟨y,⟨hy,_⟩,k1,_⟩|⟨y,hy,k1,_⟩
 ·have:=has_rok (ok_okTo h) (ok_has h y hy);unfold Rok dtR at this;simp only at this k1;omega
 ·have:=hp.dot y hy;unfold Rok dtR at this;simp only at this k1;omega
theorem tre_none {w:World}{s s' B:Nat}(hk:MapF w 114 (α:=Ky) keyV nodV s 0 (fun _=>none))(hm:MapF w 58 (α:=Dt) dtV mrkV s' 0 (fun _=>none))(hne:s≠s')(hB:B<=s/\ B<=s'):Tre w B (fun z=>if z=[] then some (s,s') else none) (Mk [] 0) (9*0)/\ NkI [] 0 (fun z=>if z=[] then some (s,s') else none):=by
 refine⟨Tre.new (x0:=(s,s')) hk hm hne hB,fun z=> ?_⟩;by_cases e:z=[]
 ·simp [e]
 ·simp [e]
theorem dots_ok {S:Sx}(h:StOk S.R S.F S.T S.n S.l){ds:List Dt}(hd:∀d∈ds,∃y∈S.l,y.r=d.1/\ y.q=d.2):∀d∈ds,(0<=d.1/\ d.1<8)/\ 1<=d.2/\ d.2<=1000000000:=fun d hm=>by
 obtain⟨y,hy,e1,e2⟩:=hd d hm;have:=has_rok (ok_okTo h) (ok_has h y hy);unfold Rok dtR at this;simp only at this;omega
theorem mkS_eta (l:List Lf)(u:List Rn):mkS l u=mkS (mkS l u).l u:=rfl
theorem takeBackC {x0:Nat×Nat}{bm:Nat}{S:Sx}(gn:Lf ->Prop)(p:List ByteArray)(a:Option Addr)(cp g kc:Nat)(ks:List Int)(w:World)(h:OpA w x0 bm S)(hs:StOk S.R S.F S.T S.n S.l)
  (hp:p.length<=1048576) (hps:∀i,(gS p i).size<=1048576) (hk:∀k∈ks,(Lit.int .i64 k).wf=true) (hkl:ks.length<=3) (hsum:(ks.map fun k=>cW S.l (wayOf p k)).sum<=1000) (hgn:∀x∈S.l,gn x↔∃k∈ks,wayOf p k <+:Way x) (hseg:SSeg w a p) (hks:ISeg w g ks):
  Calls Tryz.prog 31 #[.agg #[.map (some x0.1),.map (some x0.2),.map (some bm)],.slice a p.length cp,.slice (some ⟨g,0,none⟩) ks.length kc] w fun e w'=>∃a c x d a' c' x' d' Hc,e=.returned (.tuple #[.agg #[.slice a (chX S (dlS gn S.l [])).l.length c,.slice x (chX S (dlS gn S.l [])).n d],.agg #[.slice a' (chY S (dlS gn S.l [])).l.length c',.slice x' (chY S (dlS gn S.l [])).n d'],.int .i64 (chC S (dlS gn S.l []))])/\ SOw w' w.heap.size Hc a x d (chX S (dlS gn S.l []))/\ SOw w' Hc w'.heap.size a' x' d' (chY S (dlS gn S.l []))/\ Below w.heap.size w w':=by
 obtain⟨W,hW⟩:∃W,((w.alloc (.cells #[.map (some x0.1),.map (some x0.2),.map (some bm)] 69)).alloc (.cells #[.slice none 0 0,.slice none 0 0] 28)).alloc (.cells #[.slice none 0 0,.slice none 0 0] 28)=W:=⟨_,rfl⟩;have b0:Below w.heap.size w W:=by rw [<- hW];exact(below2 _ _ _).alloc (by simp;omega) _
 have zW:W.heap.size=w.heap.size+3:=by rw [<- hW];simp
 have al:∀(v:World) (o:Obj),Below v.heap.size v (v.alloc o):=fun v o=>zO _ _;have A0:Bx3 W w.heap.size (.map (some x0.1)) (.map (some x0.2)) (.map (some bm)):=by
  rw [<- hW];exact((Bx3.made w _ _ _ _).below (al _ _) (by simp)).below (al _ _) (by simp;try omega)
 have R0:Bx2 W (w.heap.size+1) (.slice none 0 0) (.slice none 0 0):=by
  rw [<- hW];have:=Bx2.made (w.alloc (.cells #[.map (some x0.1),.map (some x0.2),.map (some bm)] 69)) (.slice none 0 0) (.slice none 0 0) 28;exact(by simpa using this:Bx2 _ (w.heap.size+1) _ _).allocs _
 have Q0:Bx2 W (w.heap.size+1+1) (.slice none 0 0) (.slice none 0 0):=by
  rw [<- hW];simpa using Bx2.made ((w.alloc (.cells #[.map (some x0.1),.map (some x0.2),.map (some bm)] 69)).alloc (.cells #[.slice none 0 0,.slice none 0 0] 28)) (.slice none 0 0) (.slice none 0 0) 28
 obtain⟨N,B,hT,He⟩:=(h.below b0).tj hs.2.2.2;have h8:∀x∈S.l,(Way x).length<=8:=fun x hx=>way8 (st_bd hs.w x hx).2.2.2;have H1:=hid (dotsAtC hT He (by have:=hs.2.1;omega) hs.2.1 h8 p a cp bm g kc ks hp hps hk hkl W zI (hseg.below b0) (hks.below b0));have HO:=hid (h.below b0);have HS:=hid hs;have H2:=hid hgn;have Hw:=hid hsum;have Hp:=hid A0;have H7:=hid R0;have H4:=hid Q0;have Gk:=hid b0;have Gq:=hid zW;have k0:=A0.c0;have k1:=A0.c1;have k2:=A0.c2;clear b0 zW A0 R0 Q0 al h hs hgn hsum hT He h8 hseg hks hk hps;go_enter Tryz.func31,Tryz.ntmps31;go_wp2_with fail;try rw [hW]
 clear hW;refine H1.out.mono ?_;rintro e w1 ⟨⟨v1,ts,rfl,Gd,Gg,Gf⟩,b1⟩;obtain⟨ta,tc,rfl,Hf,_,_⟩:=own_dseg Gd;have Hy:∀d:Dt,d∈ts↔(∃y,(y∈S.l/\ gn y)/\ y.r=d.1/\ y.q=d.2) \/∃y∈([]:List Lf),y.r=d.1/\ y.q=d.2:=fun d=>by
  rw [Gg d];constructor
  ·rintro⟨k,hk,x,hx,Hg,e⟩;exact .inl ⟨x,⟨hx,(H2.out x hx).2 ⟨k,hk,Hg⟩⟩,congrArg Prod.fst e,congrArg Prod.snd e⟩
  ·rintro(⟨y,⟨hy,hg⟩,e1,e2⟩|⟨y,hy,_⟩)
   ·obtain⟨k,hk,Hg⟩:=(H2.out y hy).1 hg;exact⟨k,hk,y,hy,Hg,Prod.ext e1 e2⟩
   ·cases hy
 have Gm:=hid Hy;have Go:=hid Hf;have Ht:=hid b1;have Gn:Hid (DOk ts):=hid (dots_ok HS.out (fun d hd=>by
  rcases (Hy d).1 hd with ⟨y,⟨hy,_⟩,e⟩|⟨y,hy,_⟩
  ·exact⟨y,hy,e⟩
  ·cases hy))
 have Gp:Hid (ts.length<=1000):=hid (by rw [Gf];exact Hw.out);have X1:=Hp.out.below b1 Hp.out.lt;have j0:=X1.c0;have j1:=X1.c1;have j2:=X1.c2;clear Gd Gg Gf Hy Hf b1 X1 k0 k1 k2 H1;have Hl:=hid (Hp.out.below Ht.out Hp.out.lt);have Hm:Hid (∀w',Below w1.heap.size w1 w' ->(w'.cell? ⟨w.heap.size,0,none⟩=some (.map (some x0.1))/\ w'.cell? ⟨w.heap.size,1,none⟩=some (.map (some x0.2))/\ w'.cell? ⟨w.heap.size,2,none⟩=some (.map (some bm)))):=hid (fun w' b=>by
  have A1:=Hl.out.below b Hl.out.lt;exact⟨A1.c0,A1.c1,A1.c2⟩)
 clear j0 j1 j2;go_wp2_with fail;refine zR (S:=fun w'=>w'.cell? ⟨w.heap.size,0,none⟩=some (.map (some x0.1))/\ w'.cell? ⟨w.heap.size,1,none⟩=some (.map (some x0.2))/\ w'.cell? ⟨w.heap.size,2,none⟩=some (.map (some bm))) (Hm.out _ zI.drew) (fun qh=> ?_);refine tZ 0 14 ?_;refine tZ 2 16 ?_;refine cZ 1 ?_;intro K hK;go_simp;refine(newNode _).mono ?_;rintro e w2 ⟨s1,s2,rfl,Gj,Gh,Gi,m1,m2,b2⟩;have Hs:Below w1.heap.size w1 w2:=⟨b2.os,b2.tape,b2.output,b2.size,b2.block⟩;have Ga:=hid (tre_none (B:=w1.heap.size) m1 m2 Gj ⟨Gh,Gi⟩);have H9:=hid (runsOfC ta tc ts w2 (by have:=Gp.out;omega) Gn.out (Go.out.below Hs));clear Gj Gh Gi m1 m2 b2;refine hK.out _ _ (Hm.out _ Hs) (fun qh=> ?_);clear hK K;try simp only [zP]
 refine cZ 3 ?_;intro K hK;go_simp;refine H9.out.mono ?_;rintro e w3 ⟨⟨bd,n,D,G,L,rfl,hn,hG,Ho,Ge,Hn,_⟩,b3⟩;have Hd:=keepS Hs b3;have Hz:=dl_open (g:=gn) (P:=[]) HS.out (PtO.nil S) hn hG Ho Ge Hn Gm.out (x0:=(s1,s2)) (Ga.out.1.below b3) (if_pos rfl) Ga.out.2;have Hu:=hid (changeC w3 ((HO.out.below Ht.out).below Hd) Hz.1 Hz.2 (mkS_eta _ _) HS.out.w (dl_w HS.out (PtO.nil S)));have Gs:=hid Hd;have Hb:=hid (keepS Ht.out Hd);have H8:=hid (H7.out.below Hb.out H7.out.lt);have H5:=hid (H4.out.below Hb.out H4.out.lt);clear hn hG Ho Ge Hn b3 Hz H9;obtain⟨X,hX⟩:∃X,chX S (dlS gn S.l [])=X:=⟨_,rfl⟩;obtain⟨Y,hY⟩:∃Y,chY S (dlS gn S.l [])=Y:=⟨_,rfl⟩;obtain⟨C,hC⟩:∃C,chC S (dlS gn S.l [])=C:=⟨_,rfl⟩;rw [hX,hY,hC] at Hu;have Ha:=hid (And.intro hX (And.intro hY hC));clear hX hY hC;refine hK.out _ _ (Hm.out _ Hd) (fun qh=> ?_);clear hK K;try simp only [zP]
 refine tZ 4 18 ?_;refine cZ 5 ?_;intro K hK;go_simp;refine Hu.out.mono ?_;rintro e w4 ⟨ra,rc,rx,rd,Hh,Hi,Hk,Hj,Hc,rfl,ox,oy,b4⟩;have R4:=H8.out.below b4 H8.out.lt;have Q4:=H5.out.below b4 H5.out.lt;have X4:=(Hl.out.below Hd Hl.out.lt).below b4 (Hl.out.below Hd Hl.out.lt).lt;have Gl:=hid (keepS Gk.out (keepS Hb.out b4));have H3:=hid ox;have Hv:=hid oy;have Gb:Hid (w.heap.size+3<=w3.heap.size):=hid (by have h1:=Gq.out;have h2:=Hb.out.size;omega);have Gc:=keepS Hd b4;clear ox oy;refine hK.out _ _ (Hm.out _ Gc) (fun qh=> ?_);clear hK K;try simp only [zP]
 refine tZ 6 20 ?_;refine tZ 7 21 ?_;refine tZ 8 22 ?_;have r0:=R4.c0;have r1:=R4.c1;have rf:=R4.f;have HC:=hid (R4.set (.slice ra X.l.length rc) (.slice rx X.n rd));have Hr:=hid ((X4.far (grownSet w4 ⟨w.heap.size+1,0,none⟩ (.slice ra X.l.length rc)) (by show w.heap.size≠w.heap.size+1;omega)).far (grownSet _ ⟨w.heap.size+1,1,none⟩ (.slice rx X.n rd)) (by show w.heap.size≠w.heap.size+1;omega));have Hq:=hid ((Q4.setAt ⟨w.heap.size+1,0,none⟩ (.slice ra X.l.length rc) (by show w.heap.size+1≠w.heap.size+1+1;omega)).setAt ⟨w.heap.size+1,1,none⟩ (.slice rx X.n rd) (by show w.heap.size+1≠w.heap.size+1+1;omega));have Hx:=hid ((Hr.out.far (grownSet _ ⟨w.heap.size+1+1,0,none⟩ (.slice Hh Y.l.length Hi)) (by show w.heap.size≠w.heap.size+1+1;omega)).far (grownSet _ ⟨w.heap.size+1+1,1,none⟩ (.slice Hk Y.n Hj)) (by show w.heap.size≠w.heap.size+1+1;omega));have H6:=hid (Hq.out.set (.slice Hh Y.l.length Hi) (.slice Hk Y.n Hj));have H0:=hid ((HC.out.setAt ⟨w.heap.size+1+1,0,none⟩ (.slice Hh Y.l.length Hi) (by show w.heap.size+1+1≠w.heap.size+1;omega)).setAt ⟨w.heap.size+1+1,1,none⟩ (.slice Hk Y.n Hj) (by show w.heap.size+1+1≠w.heap.size+1;omega));refine cZ 9 ?_;intro K hK;go_simp;refine hK.out _ _ ⟨Hr.out.c0,Hr.out.c1,Hr.out.c2⟩ (fun qh=> ?_);clear hK K;try simp only [zP]
 clear r0 r1 rf;have r0:=Hq.out.c0;have r1:=Hq.out.c1;have rf:=Hq.out.f;refine cZ 10 ?_;intro K hK;go_simp;refine hK.out _ _ ⟨Hx.out.c0,Hx.out.c1,Hx.out.c2⟩ (fun qh=> ?_);clear hK K;try simp only [zP]
 refine tZ 11 8 ?_;refine zD ?_;clear qh Hs Hd b4 Gc R4 Q4 X4 r0 r1 rf Hu Hm;go_wp2_with fail;have s0:=H0.out.c0;have s1:=H0.out.c1;have s2:=H6.out.c0;have s3:=H6.out.c1;refine zF (v:=.tuple #[.agg #[.slice ra X.l.length rc,.slice rx X.n rd],.agg #[.slice Hh Y.l.length Hi,.slice Hk Y.n Hj],.int .i64 C]) (by simp [results,Tryz.results31,go_sem,s0,s1,s2,s3]) ?_;refine⟨ra,rc,rx,rd,Hh,Hi,Hk,Hj,?_⟩;first|refine⟨by rw [Ha.out.1,Ha.out.2.1,Ha.out.2.2],Hc,?_,?_,?_⟩|refine⟨Hc,by rw [Ha.out.1,Ha.out.2.1,Ha.out.2.2],?_,?_,?_⟩
 ·rw [Ha.out.1];have hz:=Gb.out;have h1:=H3.out;exact SOw.wide ((((h1.set ⟨w.heap.size+1,0,none⟩ (.slice ra X.l.length rc) (.inl (by show w.heap.size+1<w3.heap.size;omega))).set ⟨w.heap.size+1,1,none⟩ (.slice rx X.n rd) (.inl (by show w.heap.size+1<w3.heap.size;omega))).set ⟨w.heap.size+1+1,0,none⟩ (.slice Hh Y.l.length Hi) (.inl (by show w.heap.size+1+1<w3.heap.size;omega))).set ⟨w.heap.size+1+1,1,none⟩ (.slice Hk Y.n Hj) (.inl (by show w.heap.size+1+1<w3.heap.size;omega))) (by omega) zL (by simp [World.setCell];exact Nat.le_trans Hv.out.hl.1 Hv.out.hl.2)
 ·rw [Ha.out.2.1];have hz:=Gb.out;have Gr:w3.heap.size<=Hc:=H3.out.hl.1;have h1:=Hv.out;exact SOw.wide ((((h1.set ⟨w.heap.size+1,0,none⟩ (.slice ra X.l.length rc) (.inl (by show w.heap.size+1<Hc;omega))).set ⟨w.heap.size+1,1,none⟩ (.slice rx X.n rd) (.inl (by show w.heap.size+1<Hc;omega))).set ⟨w.heap.size+1+1,0,none⟩ (.slice Hh Y.l.length Hi) (.inl (by show w.heap.size+1+1<Hc;omega))).set ⟨w.heap.size+1+1,1,none⟩ (.slice Hk Y.n Hj) (.inl (by show w.heap.size+1+1<Hc;omega))) zL (by simp [World.setCell]) zL
 ·exact(((Gl.out.setCell (by simp) _).setCell (by simp) _).setCell (by simp;omega) _).setCell (by simp;omega) _
theorem OpA.far {w w':World}{x0:Nat×Nat}{bm:Nat}{S:Sx}(h:OpA w x0 bm S){t:Nat}{ty:TypeId}(ht:∃cs f,w.heap[t]? =some (.cells cs ty f))(hty:ty≠142)(hg:w.grownBy w' (some t)):OpA w' x0 bm S:=by
 obtain⟨n,D,G,N,B,h0,h1,h2,h3,h4⟩:=h;obtain⟨cs,f,ht⟩:=ht;refine⟨n,D,G,N,B,h0,⟨h1.own.kept hg (fun e=> ?_),h1.at',h1.has',fun r=>(h1.rows r).kept hg ?_,h1.apart⟩,h2.same fun p x hx=>⟨hg.block _ (h2.lt hx).1 (fun e=> ?_),hg.block _ (h2.lt hx).2 (fun e=> ?_)⟩,h3,h4⟩
 ·obtain⟨es,Hb,hb,_⟩:=h1.own;injection e with e;rw [e,ht] at hb;cases hb
 ·rcases (h1.rows r).2 with ⟨e0,_⟩|⟨g,Hc,Hd,hv,_,hb,_⟩
  ·rw [e0];exact .inl rfl
  ·refine .inr fun e=> ?_;rw [hv] at e;have e1:g=t:=by simpa [Value.ownBlock] using e
   rw [e1,ht] at hb;injection hb with hb;injection hb with _ hb;exact hty hb
 ·obtain⟨es,cl,Ha⟩:=(h2.kids p x hx).obj;injection e with e;rw [e,ht] at Ha;cases Ha
 ·obtain⟨es,cl,Ha⟩:=(h2.marks p x hx).obj;injection e with e;rw [e,ht] at Ha;cases Ha
theorem openToChangeC (a x pa:Option Addr)(c d pc:Nat)(S:Sx)(p:List ByteArray)(v:ByteArray)(w:World)(hm:S.Sm)(hi:∀i,LfI (gL S.l i))(h:SAt w a x S)(hp:p.length<=1048576)(hseg:SSeg w pa p)(hv:v.size<=1048576):
  Calls Tryz.prog 28 #[.agg #[.slice a S.l.length c,.slice x S.n d],.slice pa p.length pc,.string v] w fun e w'=>(∃u0 u1 u2,e=.returned (.tuple #[.agg #[.map u0,.map u1,.map u2],.int .i64 (ocC S p v)])/\ (ocC S p v=0 ->∃x0 bm,u0=some (Prod.fst x0)/\ u1=some (Prod.snd x0)/\ u2=some bm/\ OpA w' x0 bm S))/\ Below w.heap.size w w':=by
 obtain⟨W,hW⟩:∃W,(w.alloc (.cells #[.slice a S.l.length c,.slice x S.n d] 28)).alloc (.cells #[.map none,.map none,.map none] 69)=W:=⟨_,rfl⟩;have b0:Below w.heap.size w W:=by rw [<- hW];exact below2 _ _ _
 have A0:Bx2 W w.heap.size (.slice a S.l.length c) (.slice x S.n d):=by rw [<- hW];exact(Bx2.made w _ _ _).allocs _
 have R0:Bx3 W (w.heap.size+1) (.map none) (.map none) (.map none):=by
  rw [<- hW];simpa using Bx3.made (w.alloc (.cells #[.slice a S.l.length c,.slice x S.n d] 28)) (.map none) (.map none) (.map none) 69
 have zW:W.heap.size=w.heap.size+2:=by rw [<- hW];simp
 have Hr:Hid (∃cs f,W.heap[w.heap.size+1]? =some (.cells cs 69 f)):=hid (by
  rw [<- hW];have:=heap_alloc_new (w.alloc (.cells #[.slice a S.l.length c,.slice x S.n d] 28)) (.cells #[.map none,.map none,.map none] 69);exact⟨_,_,by simpa using this⟩)
 have Hk:=hid (openB a x c d S W hm hi (h.below b0));have Hq:=hid (hseg.below b0);have Hn:=hid b0;have Hm:=hid R0;have Hs:=hid zW;have k0:=A0.c0;have k1:=A0.c1;obtain⟨V,hV⟩:∃V,stB S=V:=⟨_,rfl⟩;have Hg:=hid hV;rw [hV] at Hk;clear b0 A0 R0 zW h hseg hV hi hm;go_enter Tryz.func28,Tryz.ntmps28;go_wp2_with fail;try rw [hW]
 clear hW;refine Hk.out.mono ?_;rintro e w1 ⟨⟨u0,u1,u2,rfl,ho⟩,b1⟩;have Ho:=hid ho;obtain⟨w2,Hb⟩:∃w2,w1.alloc (.cells #[.map u0,.map u1,.map u2] 69)=w2:=⟨_,rfl⟩;have b2:Below w1.heap.size w1 w2:=by rw [<- Hb];exact zO _ _
 have Hl:Hid (Bx3 w2 w1.heap.size (.map u0) (.map u1) (.map u2)):=hid (by rw [<- Hb];exact Bx3.made _ _ _ _ _);have Hh:=hid (keepS b1 b2);have Hj:=hid b2;have Hf:=hid (keepS Hn.out Hh.out);have Hc:=hid (Hm.out.below Hh.out Hm.out.lt);have Hp:=hid (Hq.out.below Hh.out);clear b1 b2 ho k0 k1 Hk;have t0:=Hc.out.c0;have t1:=Hc.out.c1;have t2:=Hc.out.c2;have tf:=Hc.out.f;cases V with
 | false=>
  have HE:=hid (ocC_1 (p:=p) (v:=v) Hg.out);have Ha:=hid (Hc.out.set (.map none) (.map none) (.map none));go_wp2_with fail;try rw [Hb]
  clear Hb;have s0:=Ha.out.c0;have s1:=Ha.out.c1;have s2:=Ha.out.c2;refine zF (v:=.tuple #[.agg #[.map none,.map none,.map none],.int .i64 1]) (by simp [results,Tryz.results28,go_sem,s0,s1,s2]) ⟨⟨none,none,none,by rw [HE.out],fun h0=>by rw [HE.out] at h0;cases h0⟩,?_⟩;exact((Hf.out.setCell (by simp) _).setCell (by simp) _).setCell (by simp) _
 | true=>
  have He:=hid (pathImpl p pa pc w2 hp Hp.out);by_cases Hd:PthOk p
  ·rw [yes_t Hd] at He;by_cases Hi:v.size<=200
   ·have i1:(v.size:Int)<=200:=by omega
    have i2:¬(200:Int)<(v.size:Int):=by omega
    have HE:=hid (ocC_0 Hg.out (And.intro Hd Hi));have Ha:=hid (Hc.out.set (.map u0) (.map u1) (.map u2));have x0:=Hl.out.c0;have x1:=Hl.out.c1;have x2:=Hl.out.c2;clear Hd Hi;go_wp2_with fail;try rw [Hb]
    clear Hb;refine He.out.mono ?_;rintro e w3 ⟨rfl,rfl⟩;go_wp2_with fail;have s0:=Ha.out.c0;have s1:=Ha.out.c1;have s2:=Ha.out.c2;refine zF (v:=.tuple #[.agg #[.map u0,.map u1,.map u2],.int .i64 0]) (by simp [results,Tryz.results28,go_sem,s0,s1,s2]) ⟨⟨u0,u1,u2,by rw [HE.out],fun _=> ?_⟩,?_⟩
    ·obtain⟨y0,bm,e0,e1,e2,o1⟩:=Ho.out (by trivial);refine⟨y0,bm,e0,e1,e2,?_⟩;obtain⟨cs,f,ht⟩:=Hr.out;have hb:=Hh.out.block (w.heap.size+1) (by have:=Hs.out;omega);exact(o1.below Hj.out).far ⟨cs,f,hb.trans ht⟩ (by decide) (far3 _ _ _ _ _)
    ·exact((Hf.out.setCell (by simp) _).setCell (by simp) _).setCell (by simp) _
   ·have i1:¬(v.size:Int)<=200:=by omega
    have i2:(200:Int)<(v.size:Int):=by omega
    have HE:=hid (ocC_2 Hg.out (show¬(PthOk p/\ v.size<=200) from fun hh=>Hi hh.2));have Ha:=hid (Hc.out.set (.map none) (.map none) (.map none));clear Hd Hi;go_wp2_with fail;try rw [Hb]
    clear Hb;refine He.out.mono ?_;rintro e w3 ⟨rfl,rfl⟩;go_wp2_with fail;have s0:=Ha.out.c0;have s1:=Ha.out.c1;have s2:=Ha.out.c2;refine zF (v:=.tuple #[.agg #[.map none,.map none,.map none],.int .i64 2]) (by simp [results,Tryz.results28,go_sem,s0,s1,s2]) ⟨⟨none,none,none,by rw [HE.out],fun h0=>by rw [HE.out] at h0;cases h0⟩,?_⟩;exact((Hf.out.setCell (by simp) _).setCell (by simp) _).setCell (by simp) _
  ·rw [yes_f Hd] at He;have HE:=hid (ocC_2 Hg.out (show¬(PthOk p/\ v.size<=200) from fun hh=>Hd hh.1));have Ha:=hid (Hc.out.set (.map none) (.map none) (.map none));clear Hd;go_wp2_with fail;try rw [Hb]
   clear Hb;refine He.out.mono ?_;rintro e w3 ⟨rfl,rfl⟩;go_wp2_with fail;have s0:=Ha.out.c0;have s1:=Ha.out.c1;have s2:=Ha.out.c2;refine zF (v:=.tuple #[.agg #[.map none,.map none,.map none],.int .i64 2]) (by simp [results,Tryz.results28,go_sem,s0,s1,s2]) ⟨⟨none,none,none,by rw [HE.out],fun h0=>by rw [HE.out] at h0;cases h0⟩,?_⟩;exact((Hf.out.setCell (by simp) _).setCell (by simp) _).setCell (by simp) _
theorem implRemove (a x pa:Option Addr)(c d pc:Nat)(S:Sx)(p:List ByteArray)(w:World)(hm:S.Sm)(hi:∀i,LfI (gL S.l i))(h:SAt w a x S)(hp:p.length<=1048576)(hseg:SSeg w pa p):
  Calls Tryz.prog 10 #[.agg #[.slice a S.l.length c,.slice x S.n d],.slice pa p.length pc] w fun e w'=>∃a c x d a' c' x' d' Ha,e=.returned (.tuple #[.agg #[.slice a (rmX S p).l.length c,.slice x (rmX S p).n d],.agg #[.slice a' (rmY S p).l.length c',.slice x' (rmY S p).n d'],.int .i64 (rmC S p)])/\ SOw w' w.heap.size Ha a x d (rmX S p)/\ SOw w' Ha w'.heap.size a' x' d' (rmY S p)/\ Below w.heap.size w w':=by
 obtain⟨W,hW⟩:∃W,((w.alloc (.cells #[.slice a S.l.length c,.slice x S.n d] 28)).alloc (.cells #[.slice none 0 0,.slice none 0 0] 28)).alloc (.cells #[.slice none 0 0,.slice none 0 0] 28)=W:=⟨_,rfl⟩;have b0:Below w.heap.size w W:=by rw [<- hW];exact(below2 _ _ _).alloc (by simp;omega) _
 have zW:W.heap.size=w.heap.size+3:=by rw [<- hW];simp
 have A0:Bx2 W w.heap.size (.slice a S.l.length c) (.slice x S.n d):=by rw [<- hW];exact((Bx2.made w _ _ _).allocs _).allocs _
 have R0:Bx2 W (w.heap.size+1) (.slice none 0 0) (.slice none 0 0):=by
  rw [<- hW];have:=Bx2.made (w.alloc (.cells #[.slice a S.l.length c,.slice x S.n d] 28)) (.slice none 0 0) (.slice none 0 0) 28;exact(by simpa using this:Bx2 _ (w.heap.size+1) _ _).allocs _
 have Q0:Bx2 W (w.heap.size+1+1) (.slice none 0 0) (.slice none 0 0):=by
  rw [<- hW];simpa using Bx2.made ((w.alloc (.cells #[.slice a S.l.length c,.slice x S.n d] 28)).alloc (.cells #[.slice none 0 0,.slice none 0 0] 28)) (.slice none 0 0) (.slice none 0 0) 28
 have Hp:=hid (openToChangeC a x pa c d pc S p ⟨#[]⟩ W hm hi (h.below b0) hp (hseg.below b0) (by decide));have H9:=hid (hseg.below b0);have H1:=hid R0;have Hz:=hid Q0;have H3:=hid b0;have Gc:=hid zW;have k0:=A0.c0;have k1:=A0.c1;obtain⟨C,hC⟩:∃C,ocC S p ⟨#[]⟩=C:=⟨_,rfl⟩;rw [hC] at Hp;have HC:=hid hC;clear b0 zW A0 R0 Q0 h hseg hi hm hC;go_enter Tryz.func10,Tryz.ntmps10;go_wp2_with fail;try rw [hW]
 clear hW;refine Hp.out.mono ?_;rintro e w1 ⟨⟨u0,u1,u2,rfl,ho⟩,b1⟩;have H7:=hid ho;obtain⟨w2,Hj⟩:∃w2,w1.alloc (.cells #[.map u0,.map u1,.map u2] 69)=w2:=⟨_,rfl⟩;have b2:Below w1.heap.size w1 w2:=by rw [<- Hj];exact zO _ _
 have Ga:Hid (Bx3 w2 w1.heap.size (.map u0) (.map u1) (.map u2)):=hid (by rw [<- Hj];exact Bx3.made _ _ _ _ _);have Hi:=hid (keepS b1 b2);have Ho:=hid b2;have Hk:=hid (keepS H3.out Hi.out);have Hg:=hid (H1.out.below Hi.out H1.out.lt);have Hr:=hid (Hz.out.below Hi.out Hz.out.lt);have H8:=hid (H9.out.below Hi.out);clear b1 b2 ho k0 k1 Hp;by_cases hz:C=0
 ·have HZ:=hid (rm_t (S:=S) (p:=p) (by rw [HC.out];exact hz));have Hu:=ocC_ok (S:=S) (p:=p) (v:=⟨#[]⟩) (by rw [HC.out];exact hz);obtain⟨x0,bm,rfl,rfl,rfl,o1⟩:=H7.out hz;have hs:=stB_t Hu.1;have Hm:=Hu.2.1;obtain⟨w3,Hn⟩:∃w3,w2.alloc (.cells #[.int .i64 1,.int .i64 2,.int .i64 3] 3)=w3:=⟨_,rfl⟩;have b3:Below w2.heap.size w2 w3:=by rw [<- Hn];exact zO _ _
  have H2:ISeg w3 w2.heap.size [1,2,3]:=by
   rw [<- Hn];refine⟨by simp,fun i hi=> ?_⟩;match i,hi with
   | 0,_=>simp [gI]
   | 1,_=>simp [gI]
   | 2,_=>simp [gI]
   | i+3,hi=>exfalso;simp at hi;omega
  have Hs:=hid (fun w4 (b4:Below w3.heap.size w3 w4)=>takeBackC (gnR p) p pa pc w2.heap.size 3 [1,2,3] w4 ((((o1.below Ho.out).below b3)).below b4) hs hp (pth_size Hm) (fun k hk=>by
   simp at hk;rcases hk with rfl|rfl|rfl<;>decide) (by simp) (by
    have h1:=cW3 (p:=p) (by have:=Hm.1;omega) S.l;have h2:=hs.2.1;simp;omega) (fun x hx=>by
    rw [<- way_gnR (p:=p) (x:=x) (by have:=Hm.1;omega)];constructor
    ·rintro(e|e|e)
     ·exact⟨1,by simp,e⟩
     ·exact⟨2,by simp,e⟩
     ·exact⟨3,by simp,e⟩
    ·rintro⟨k,hk,e⟩;simp at hk;rcases hk with rfl|rfl|rfl
     ·exact .inl e
     ·exact .inr (.inl e)
     ·exact .inr (.inr e)) ((H8.out.below b3).below b4) (H2.below b4))
  have Hv:=hid b3;have HX:=Ga.out;have Gf:=HX.c0;have Gg:=HX.c1;have Gh:=HX.c2;obtain⟨X,hX⟩:∃X,chX S (dlS (gnR p) S.l [])=X:=⟨_,rfl⟩;obtain⟨Y,hY⟩:∃Y,chY S (dlS (gnR p) S.l [])=Y:=⟨_,rfl⟩;obtain⟨Cc,Ht⟩:∃Cc,chC S (dlS (gnR p) S.l [])=Cc:=⟨_,rfl⟩;rw [hX,hY,Ht] at Hs;have Hf:Hid (rmX S p=X/\ rmY S p=Y/\ rmC S p=Cc):=hid ⟨HZ.out.1.trans hX,HZ.out.2.1.trans hY,HZ.out.2.2.trans Ht⟩;subst hz;clear o1 hs Hm Hu b3 H2 HX hX hY Ht;go_wp2_with fail;try rw [Hj]
  try rw [Hn]
  refine(Hs.out _ zI).mono ?_;rintro e w4 ⟨ra,rc,rx,rd,Hb,Hc,He,Hd,Ha,rfl,ox,oy,b4⟩;have Hl:=keepS Hv.out b4;have R4:=Hg.out.below Hl Hg.out.lt;have Q4:=Hr.out.below Hl Hr.out.lt;have H4:=hid (keepS Hk.out Hl);have Hy:=hid ox;have Hq:=hid oy;have Gb:Hid (w.heap.size+3<=w3.heap.size):=hid (by have h1:=Gc.out;have h2:=Hi.out.size;have h3:=Hv.out.size;omega);have r0:=R4.c0;have r1:=R4.c1;have rf:=R4.f;have H5:=hid (R4.set (.slice ra X.l.length rc) (.slice rx X.n rd));have Q5:=((Q4.setAt ⟨w.heap.size+1,0,none⟩ (.slice ra X.l.length rc) (by show w.heap.size+1≠w.heap.size+1+1;omega)).setAt ⟨w.heap.size+1,1,none⟩ (.slice rx X.n rd) (by show w.heap.size+1≠w.heap.size+1+1;omega));have q0:=Q5.c0;have q1:=Q5.c1;have qf:=Q5.f;have Hh:=hid (Q5.set (.slice Hb Y.l.length Hc) (.slice He Y.n Hd));have Hx:=hid ((H5.out.setAt ⟨w.heap.size+1+1,0,none⟩ (.slice Hb Y.l.length Hc) (by show w.heap.size+1+1≠w.heap.size+1;omega)).setAt ⟨w.heap.size+1+1,1,none⟩ (.slice He Y.n Hd) (by show w.heap.size+1+1≠w.heap.size+1;omega));clear ox oy b4 Hl R4 Q4 Q5 Hs Gf Gg Gh Hj Hn;go_wp2_with fail;have s0:=Hx.out.c0;have s1:=Hx.out.c1;have s2:=Hh.out.c0;have s3:=Hh.out.c1;refine zF (v:=.tuple #[.agg #[.slice ra X.l.length rc,.slice rx X.n rd],.agg #[.slice Hb Y.l.length Hc,.slice He Y.n Hd],.int .i64 Cc]) (by simp [results,Tryz.results10,go_sem,s0,s1,s2,s3]) ?_;have hz:=Gb.out;have Gd:w3.heap.size<=Ha:=Hy.out.hl.1;have G1:=SOw.wide ((((Hy.out.set ⟨w.heap.size+1,0,none⟩ (.slice ra X.l.length rc) (.inl (by show w.heap.size+1<w3.heap.size;omega))).set ⟨w.heap.size+1,1,none⟩ (.slice rx X.n rd) (.inl (by show w.heap.size+1<w3.heap.size;omega))).set ⟨w.heap.size+1+1,0,none⟩ (.slice Hb Y.l.length Hc) (.inl (by show w.heap.size+1+1<w3.heap.size;omega))).set ⟨w.heap.size+1+1,1,none⟩ (.slice He Y.n Hd) (.inl (by show w.heap.size+1+1<w3.heap.size;omega))) (lo':=w.heap.size) (hi':=Ha) (by omega) zL (by simp [World.setCell];exact Nat.le_trans Hq.out.hl.1 Hq.out.hl.2);have G2:=((((Hq.out.set ⟨w.heap.size+1,0,none⟩ (.slice ra X.l.length rc) (.inl (by show w.heap.size+1<Ha;omega))).set ⟨w.heap.size+1,1,none⟩ (.slice rx X.n rd) (.inl (by show w.heap.size+1<Ha;omega))).set ⟨w.heap.size+1+1,0,none⟩ (.slice Hb Y.l.length Hc) (.inl (by show w.heap.size+1+1<Ha;omega))).set ⟨w.heap.size+1+1,1,none⟩ (.slice He Y.n Hd) (.inl (by show w.heap.size+1+1<Ha;omega)));have G3:=(((H4.out.setCell (p:=⟨w.heap.size+1,0,none⟩) (by show w.heap.size<=w.heap.size+1;omega) (.slice ra X.l.length rc)).setCell (p:=⟨w.heap.size+1,1,none⟩) (by show w.heap.size<=w.heap.size+1;omega) (.slice rx X.n rd)).setCell (p:=⟨w.heap.size+1+1,0,none⟩) (by show w.heap.size<=w.heap.size+1+1;omega) (.slice Hb Y.l.length Hc)).setCell (p:=⟨w.heap.size+1+1,1,none⟩) (by show w.heap.size<=w.heap.size+1+1;omega) (.slice He Y.n Hd);rw [Hf.out.1,Hf.out.2.1,Hf.out.2.2];have Ge:((((w4.setCell ⟨w.heap.size+1,0,none⟩ (.slice ra X.l.length rc)).setCell ⟨w.heap.size+1,1,none⟩ (.slice rx X.n rd)).setCell ⟨w.heap.size+1+1,0,none⟩ (.slice Hb Y.l.length Hc)).setCell ⟨w.heap.size+1+1,1,none⟩ (.slice He Y.n Hd)).heap.size=w4.heap.size:=by simp [World.setCell]
  rw [Ge];first
   | exact⟨ra,rc,rx,rd,Hb,Hc,He,Hd,Ha,rfl,G1,G2,G3⟩
   | exact⟨ra,rc,rx,rd,Hb,Hc,He,Hd,rfl,Ha,G1,G2,G3⟩
 ·have HZ:=hid (rm_f (S:=S) (p:=p) (by rw [HC.out];exact hz));have Gi:(C==0)=false:=by simp [hz]
  have r0:=Hg.out.c0;have r1:=Hg.out.c1;have rf:=Hg.out.f;have H6:=hid (Hg.out.set (.slice none 0 0) (.slice none 0 0));have Q3:=(Hr.out.setAt ⟨w.heap.size+1,0,none⟩ (.slice none 0 0) (by show w.heap.size+1≠w.heap.size+1+1;omega)).setAt ⟨w.heap.size+1,1,none⟩ (.slice none 0 0) (by show w.heap.size+1≠w.heap.size+1+1;omega);have q0:=Q3.c0;have q1:=Q3.c1;have qf:=Q3.f;have H0:=hid (Q3.set (.slice none 0 0) (.slice none 0 0));have Hw:=hid ((H6.out.setAt ⟨w.heap.size+1+1,0,none⟩ (.slice none 0 0) (by show w.heap.size+1+1≠w.heap.size+1;omega)).setAt ⟨w.heap.size+1+1,1,none⟩ (.slice none 0 0) (by show w.heap.size+1+1≠w.heap.size+1;omega));clear Q3;go_wp2_with fail;try rw [Hj]
  have s0:=Hw.out.c0;have s1:=Hw.out.c1;have s2:=H0.out.c0;have s3:=H0.out.c1;refine zF (v:=.tuple #[.agg #[.slice none 0 0,.slice none 0 0],.agg #[.slice none 0 0,.slice none 0 0],.int .i64 C]) (by simp [results,Tryz.results10,go_sem,s0,s1,s2,s3]) ⟨none,0,none,0,none,0,none,0,w.heap.size,by rw [HZ.out.1,HZ.out.2.1,HZ.out.2.2,HC.out];rfl,?_,?_,?_⟩
  ·rw [HZ.out.1];exact SOw.mt _ Sx.mt rfl rfl _ _ ⟨Nat.le_refl _,by simp [World.setCell];exact Hk.out.size⟩ _ _ _
  ·rw [HZ.out.2.1];exact SOw.emp _ _ _ _ _ (by simp [World.setCell];exact Hk.out.size)
  ·exact(((Hk.out.setCell (by simp) _).setCell (by simp) _).setCell (by simp;omega) _).setCell (by simp;omega) _
theorem runNext {w:World}{bm n:Nat}{D:DataW Value}{G:Int ->Value}{L:Int ->List (Int×Int)}(h:GrpAt w bm n D G L)(r tk:Int)(hr:(Lit.int .i64 r).wf=true)(hl:(L r).length<=1000000)(ht:lastTo (L r)=tk)(h0:0<=tk)(h1:tk<=1000000000):
  Calls Tryz.prog 52 #[.map (some bm),.int .i64 r] w fun e w'=>
   ((0<=r/\ r<8)/\ tk+1<=1000000000 ->e=.returned (.tuple #[.agg #[.int .i64 r,.int .i64 (tk+1)],.bool true]))/\ (¬((0<=r/\ r<8)/\ tk+1<=1000000000) ->e=.returned (.tuple #[.agg #[.int .i64 0,.int .i64 0],.bool false]))/\ Below w.heap.size w w':=by
 obtain⟨W0,Ha⟩:∃W0,w.alloc (.cells #[.int .i64 0,.int .i64 0] 58)=W0:=⟨_,rfl⟩;have bW:Below w.heap.size w W0:=by rw [<- Ha];exact zO _ _
 have x0:W0.cell? ⟨w.heap.size,0,none⟩=some (.int .i64 0):=by rw [<- Ha];simp
 have x1:W0.cell? ⟨w.heap.size,1,none⟩=some (.int .i64 0):=by rw [<- Ha];simp
 have f0:W0.frozen? ⟨w.heap.size,0,none⟩=false:=by rw [<- Ha];simp
 have f1:W0.frozen? ⟨w.heap.size,1,none⟩=false:=by rw [<- Ha];simp
 have HG:=hid (greatest (h.below bW) r hr hl);have HB:=hid bW;rw [ht] at HG;clear h bW ht hl;go_enter Tryz.func52,Tryz.ntmps52;go_wp2_with fail;try rw [Ha]
 clear Ha;refine HG.out.mono ?_;rintro e w1 ⟨rfl,rfl⟩;clear HG;by_cases Hb:0<=r/\ r<8
 ·have HR:=hid (repOk_yes r w1 Hb.1 Hb.2);by_cases hs:tk+1<=1000000000
  ·go_wp2_with fail;refine HR.out.mono ?_;rintro e w5 ⟨rfl,rfl⟩;go_wp2_with fail;refine zF (v:=.tuple #[.agg #[.int .i64 r,.int .i64 (tk+1)],.bool true]) (by simp [results,Tryz.results52,go_sem,x0,x1]) ⟨(fun _=>rfl),(fun h=>by exfalso;omega),?_⟩;exact(HB.out.setCell (by simp) _).setCell (by simp) _
  ·go_wp2_with fail;refine HR.out.mono ?_;rintro e w5 ⟨rfl,rfl⟩;go_wp2_with fail;refine zF (v:=.tuple #[.agg #[.int .i64 0,.int .i64 0],.bool false]) (by simp [results,Tryz.results52,go_sem,x0,x1]) ⟨(fun h=>by exfalso;omega),(fun _=>rfl),?_⟩;exact(HB.out.setCell (by simp) _).setCell (by simp) _
 ·have HR:=hid (repOk_no r w1 Hb);go_wp2_with fail;refine HR.out.mono ?_;rintro e w5 ⟨rfl,rfl⟩;go_wp2_with fail;refine zF (v:=.tuple #[.agg #[.int .i64 0,.int .i64 0],.bool false]) (by simp [results,Tryz.results52,go_sem,x0,x1]) ⟨(fun h=>by exfalso;omega),(fun _=>rfl),?_⟩;exact(HB.out.setCell (by simp) _).setCell (by simp) _
theorem GrpAt.gtX {w w':World}{B bm n:Nat}{D:DataW Value}{G:Int ->Value}{L:Int ->List (Int×Int)}(h:GrpAt w bm n D G L)(hg:Gt B w w')(hX:w'.heap[bm]? =w.heap[bm]?):GrpAt w' bm n D G L:=by
 refine⟨?_,h.at',h.has',fun r=> ?_,h.apart⟩
 ·obtain⟨es,cl,e,k⟩:=h.own;exact⟨es,cl,hX.trans e,k⟩
 ·refine⟨(h.rows r).1,(h.rows r).2.imp id ?_⟩;rintro⟨g,Ha,Hb,e,hb,hh,k⟩;exact⟨g,Ha,Hb,e,hb,(hg.block g ((h.rows r).lt g (by rw [e];rfl)).2 (.inr fun es cl e2=>by rw [hh] at e2;cases e2)).trans hh,k⟩
theorem dr_one (w:World)(r q:Int):DR (w.alloc (.cells #[.int .i64 r,.int .i64 q] 58)) w.heap.size (.slice (some ⟨w.heap.size,0,none⟩) 1 1) [(r,q)]:=by
 have:=World.ownsRow_lit (base:=w.heap.size) (e:=58) (size:=2) w #[.int .i64 r,.int .i64 q] 1 zL (by unfold maxLen;omega) rfl;simpa [DR,Ds.kRow,Ds.kCells] using this
theorem iseg_one (w:World)(k:Int):ISeg (w.alloc (.cells #[.int .i64 k] 3)) w.heap.size [k]:=⟨by simp,fun i hi=>by
 obtain rfl:i=0:=by simpa using hi
 simp [gI]⟩
theorem cutW {G T:Prop}(h:Hid T ->G)(k:T):G:=h k
theorem writeC {x0:Nat×Nat}{bm:Nat}{S:Sx}(rep:Int)(p:List ByteArray)(a:Option Addr)(cp:Nat)(fl:Bool)(v:ByteArray)(w:World)(h:OpA w x0 bm S)(hs:StOk S.R S.F S.T S.n S.l)(hpo:PthOk p)(hv:v.size<=200)(hfv:fl=true ->emB v=true)(hrep:(Lit.int .i64 rep).wf=true)(hseg:SSeg w a p):
  Calls Tryz.prog 29 #[.agg #[.map (some x0.1),.map (some x0.2),.map (some bm)],.int .i64 rep,.slice a p.length cp,.int .i64 (kd fl),.agg #[.string v]] w fun e w'=>∃a c x d a' c' x' d' Hh,e=.returned (.tuple #[.agg #[.slice a (wrX S rep p fl v).l.length c,.slice x (wrX S rep p fl v).n d],.agg #[.slice a' (wrY S rep p fl v).l.length c',.slice x' (wrY S rep p fl v).n d'],.int .i64 (wrC S rep p fl v)])/\ SOw w' w.heap.size Hh a x d (wrX S rep p fl v)/\ SOw w' Hh w'.heap.size a' x' d' (wrY S rep p fl v)/\ Below w.heap.size w w':=by
 obtain⟨W,hW⟩:∃W,(((w.alloc (.cells #[.map (some x0.1),.map (some x0.2),.map (some bm)] 69)).alloc (.cells #[.string v] 74)).alloc (.cells #[.slice none 0 0,.slice none 0 0] 28)).alloc (.cells #[.slice none 0 0,.slice none 0 0] 28)=W:=⟨_,rfl⟩;have b0:Below w.heap.size w W:=by rw [<- hW];exact((below2 _ _ _).alloc (by simp;omega) _).alloc (by simp;omega) _
 have zW:W.heap.size=w.heap.size+4:=by rw [<- hW];simp
 have al:∀(v:World) (o:Obj),Below v.heap.size v (v.alloc o):=fun v o=>zO _ _;have A0:Bx3 W w.heap.size (.map (some x0.1)) (.map (some x0.2)) (.map (some bm)):=by
  rw [<- hW];exact(((Bx3.made w _ _ _ _).below (al _ _) (by simp)).below (al _ _) (by simp;try omega)).below (al _ _) (by simp;try omega)
 have M0:Bx1 W (w.heap.size+1) (.string v):=by
  rw [<- hW];have:=Bx1.made (w.alloc (.cells #[.map (some x0.1),.map (some x0.2),.map (some bm)] 69)) (.string v) 74;exact((by simpa using this:Bx1 _ (w.heap.size+1) _).below (al _ _) (by simp)).below (al _ _) (by simp;try omega)
 have R0:Bx2 W (w.heap.size+1+1) (.slice none 0 0) (.slice none 0 0):=by
  rw [<- hW];have:=Bx2.made ((w.alloc (.cells #[.map (some x0.1),.map (some x0.2),.map (some bm)] 69)).alloc (.cells #[.string v] 74)) (.slice none 0 0) (.slice none 0 0) 28;exact(by simpa using this:Bx2 _ (w.heap.size+1+1) _ _).allocs _
 have Q0:Bx2 W (w.heap.size+1+1+1) (.slice none 0 0) (.slice none 0 0):=by
  rw [<- hW];simpa using Bx2.made (((w.alloc (.cells #[.map (some x0.1),.map (some x0.2),.map (some bm)] 69)).alloc (.cells #[.string v] 74)).alloc (.cells #[.slice none 0 0,.slice none 0 0] 28)) (.slice none 0 0) (.slice none 0 0) 28
 have Gy:=ctxB_iff.1 hs.1;have K7:=(Lk_inv S.n Gy.1).2.2.1 rep;have Gx:=topK_bd hs.1 rep;obtain⟨tq,Gn⟩:∃tq,topK S.R S.T rep S.n=tq:=⟨_,rfl⟩;have Jr:=hid Gn;have Km:Hid (nxOk S rep↔(0<=rep/\ rep<8)/\ tq+1<=1000000000):=hid (by unfold nxOk;rw [Gn]);obtain⟨n0,D0,G0,N0,B0,J2,K2,_⟩:=h.below b0;have Kl:=hid (runNext K2 rep tq hrep (by have:=Lk_len S.R S.F S.T S.n rep;have:=Gy.2;omega) (K7.symm.trans Gn) (by omega) (by omega));have HO:=hid (h.below b0);have HS:=hid hs;have Ht:=hid hpo;have Kw:Hid (v.size<=200/\ (fl=true ->emB v=true)):=hid ⟨hv,hfv⟩;have Jo:=hid hrep;have Ku:=hid (hseg.below b0);have Ke:=hid A0;have Kk:=hid M0;have Gk:=hid R0;have Gi:=hid Q0;have Gr:=hid b0;have Jv:=hid zW;have k0:=A0.c0;have k1:=A0.c1;have k2:=A0.c2;obtain⟨kk,Gz⟩:∃kk,kd fl=kk:=⟨_,rfl⟩;have Hs:=hid Gz;rw [Gz];clear b0 zW A0 M0 R0 Q0 al h hs hseg Gy K7 Gx Gn K2 J2 hpo hv hfv hrep Gz;go_enter Tryz.func29,Tryz.ntmps29;go_wp2_with fail;try rw [hW]
 clear hW;refine Kl.out.mono ?_;rintro e w1 ⟨hy,G4,b1⟩;have Gs:=hid b1;have Gl:=hid (Gk.out.below b1 Gk.out.lt);have Gj:=hid (Gi.out.below b1 Gi.out.lt);have Gq:=hid (Ke.out.below b1 Ke.out.lt);clear b1 k0 k1 k2 Kl;by_cases hc:(0<=rep/\ rep<8)/\ tq+1<=1000000000
 ·have e1:=hy hc;clear hy G4;subst e1;have H7:Hid (nxOk S rep):=hid (Km.out.2 hc);have HZ:=hid (wr_t (S:=S) (rep:=rep) (p:=p) (fl:=fl) (v:=v) H7.out);obtain⟨q,hq⟩:∃q,tq+1=q:=⟨_,rfl⟩;have Kr:Hid (nxY S rep p fl v=⟨p,fl,rep,q,v⟩):=hid (by unfold nxY;rw [Jr.out,hq]);have Jn:Hid ((0<=rep/\ rep<8)/\ q<=1000000000):=hid (by rw [<- hq];exact hc);have Gh:Hid (PtO S [⟨p,fl,rep,q,v⟩]):=hid (by rw [<- Kr.out];exact nx_pto HS.out Ht.out Kw.out.1 Kw.out.2 H7.out);have Ju:Hid (wrD S rep p fl v=dlS (gnS p fl) S.l [⟨p,fl,rep,q,v⟩]):=hid (by unfold wrD;rw [Kr.out]);rw [hq];clear hc hq;obtain⟨w2,Hr⟩:∃w2,w1.alloc (.cells #[.int .i64 rep,.int .i64 q] 58)=w2:=⟨_,rfl⟩;have b2:Below w1.heap.size w1 w2:=by rw [<- Hr];exact zO _ _
  have H5:Hid (Bx2 w2 w1.heap.size (.int .i64 rep) (.int .i64 q)):=hid (by rw [<- Hr];exact Bx2.made _ _ _ _);have Hv:=hid (keepS Gs.out b2);have H3:=hid (Gq.out.below b2 Gq.out.lt);have Hd:Hid (∀w',Below w2.heap.size w2 w' ->(w'.cell? ⟨w.heap.size,0,none⟩=some (.map (some x0.1))/\ w'.cell? ⟨w.heap.size,1,none⟩=some (.map (some x0.2))/\ w'.cell? ⟨w.heap.size,2,none⟩=some (.map (some bm))/\ w'.cell? ⟨w1.heap.size,0,none⟩=some (.int .i64 rep)/\ w'.cell? ⟨w1.heap.size,1,none⟩=some (.int .i64 q))):=hid (fun w' b=>by
   have A1:=H3.out.below b H3.out.lt;have D1:=H5.out.below b H5.out.lt;exact⟨A1.c0,A1.c1,A1.c2,D1.c0,D1.c1⟩)
  have Gg:Hid (∀w' g,Below w2.heap.size w2 w' ->ISeg w' g [kk] ->Calls Tryz.prog 53 #[.agg #[.map (some x0.1),.map (some x0.2),.map (some bm)],.slice a p.length cp,.slice (some ⟨g,0,none⟩) 1 1] w' fun e Kd=>(∃v ts,e=.returned v/\ DR Kd w'.heap.size v ts/\ (∀d:Dt,d∈ts↔∃y,(y∈S.l/\ gnS p fl y)/\ y.r=d.1/\ y.q=d.2)/\ ts.length<=1000)/\ Below w'.heap.size w' Kd):=hid (fun w' g b hi=>by
   obtain⟨N,B,hT,Gd⟩:=(HO.out.below Hv.out).tj HS.out.2.2.2;have h8:∀x∈S.l,(Way x).length<=8:=fun x hx=>way8 (st_bd HS.out.w x hx).2.2.2;have La:=Ht.out.2.1;refine(dotsAtC hT Gd (by have:=HS.out.2.1;omega) HS.out.2.1 h8 p a cp bm g 1 [kk] (by omega) (pth_size Ht.out) (fun k hk=> ?_) (by simp) w' b ((Ku.out.below Hv.out).below b) hi).mono ?_
   ·rw [List.mem_singleton.1 hk,<- Hs.out];rcases kd_or fl with e|e<;>rw [e]<;>decide
   ·rintro e Kd ⟨⟨v1,ts,he,Jw,J0,Jx⟩,b1⟩;refine⟨⟨v1,ts,he,Jw,fun d=> ?_,?_⟩,b1⟩
    ·rw [J0 d];have h0:0<p.length:=Ht.out.1;constructor
     ·rintro⟨k,hk,x,hx,Gc,e⟩;rw [List.mem_singleton.1 hk,<- Hs.out] at Gc;exact⟨x,⟨hx,(way_gnS h0).1 Gc⟩,congrArg Prod.fst e,congrArg Prod.snd e⟩
     ·rintro⟨y,⟨hy,hg⟩,e1,e2⟩;exact⟨kk,List.mem_singleton.2 rfl,y,hy,by rw [<- Hs.out];exact(way_gnS h0).2 hg,Prod.ext e1 e2⟩
    ·rw [Jx];have h1:=cW3 (p:=p) Ht.out.1 S.l;have h2:=HS.out.2.1;rw [<- Hs.out];rcases kd_or fl with e|e<;>rw [e]<;>simp<;>omega)
  clear b2;go_wp2_with fail;try rw [Hr]
  clear Hr;apply cutW
  ·intro Ka;refine zR (S:=fun w'=>w'.cell? ⟨w.heap.size,0,none⟩=some (.map (some x0.1))/\ w'.cell? ⟨w.heap.size,1,none⟩=some (.map (some x0.2))/\ w'.cell? ⟨w.heap.size,2,none⟩=some (.map (some bm))/\ w'.cell? ⟨w1.heap.size,0,none⟩=some (.int .i64 rep)/\ w'.cell? ⟨w1.heap.size,1,none⟩=some (.int .i64 q)) (Hd.out _ zI.drew) (fun qh=> ?_);refine tZ 0 28 ?_;refine tZ 1 29 ?_;refine tZ 2 30 ?_;refine tZ 5 33 ?_;obtain⟨u0,G7⟩:∃u0,w2.drew=u0:=⟨_,rfl⟩;have c0:Below w2.heap.size w2 u0:=by rw [<- G7];exact zI.drew
   rw [G7];clear G7;refine ready2t (i:=3) (j:=6) (d:=some 31) (d':=some 34) (by kernel_rfl) (by kernel_rfl) (by kernel_rfl) ?_ ?_
   ·skip;intro o ho G5 K hK;simp only [gZa,gZb,gZc,gZd] at ho;subst ho;go_simp;obtain⟨u1,Hq⟩:∃u1,u0.alloc (.cells #[.int .i64 kk] 3)=u1:=⟨_,rfl⟩;have Jb:ISeg u1 u0.heap.size [kk]:=by rw [<- Hq];exact iseg_one _ _
    have Hz:Below u0.heap.size u0 u1:=by rw [<- Hq];exact zO _ _
    rw [Hq];clear Hq;have c1:=keepS c0 Hz;refine hK.out _ _ (Hd.out _ c1) (fun qh=> ?_);clear hK K;try simp only [zP]
    refine ready2t (i:=4) (j:=6) (d:=some 32) (d':=some 34) (by kernel_rfl) (by kernel_rfl) (by kernel_rfl) ?_ ?_
    ·skip;intro o ho G5 K hK;simp only [gZa,gZb,gZc,gZd] at ho;subst ho;go_simp;refine(Gg.out _ _ c1 Jb).mono ?_;rintro e u2 ⟨⟨v3,ts,rfl,Kc,J7,Lb⟩,Hm⟩;have c2:=keepS c1 Hm;refine hK.out _ _ (Hd.out _ c2) (fun qh=> ?_);clear hK K;try simp only [zP]
     refine cZ 6 ?_;intro K hK;go_simp;obtain⟨u3,Go⟩:∃u3,u2.alloc (.cells #[.int .i64 rep,.int .i64 q] 58)=u3:=⟨_,rfl⟩;have J6:DR u3 u2.heap.size (.slice (some ⟨u2.heap.size,0,none⟩) 1 1) [(rep,q)]:=by rw [<- Go];exact dr_one _ _ _
     have Hf:Below u2.heap.size u2 u3:=by rw [<- Go];exact zO _ _
     rw [Go];clear Go;have c3:=keepS c2 Hf;refine hK.out _ _ (Hd.out _ c3) (fun qh=> ?_);clear hK K;try simp only [zP]
     have z1:=Hm.size;have z2:=Hf.size;have z3:=Hz.size;have z4:=c0.size;have H1:u1.heap.size<=u3.heap.size:=by omega
     obtain⟨v6,w6,He,r6,g6⟩:=dotsApp u1.heap.size u2.heap.size v3 (.slice (some ⟨u2.heap.size,0,none⟩) 1 1) ts [(rep,q)] u3 103 (Kc.below Hf) J6 H1 (by simp;omega);have Ho:Below w2.heap.size w2 w6:=c3.grown g6.1 c3.size (fun k e=>by
      have h1:=(World.ownsRow.lt (Kc.below Hf) k e).1;omega)
     obtain⟨ds,Hb⟩:∃ds,ts++[(rep,q)]=ds:=⟨_,rfl⟩;rw [Hb] at r6;have Hp:ds.length<=1001:=by rw [<- Hb];simp;omega
     have Hn:∀d:Dt,d∈ds↔(∃y,(y∈S.l/\ gnS p fl y)/\ y.r=d.1/\ y.q=d.2) \/∃y∈[(⟨p,fl,rep,q,v⟩:Lf)],y.r=d.1/\ y.q=d.2:=fun d=>by
      rw [<- Hb,List.mem_append,J7 d,List.mem_singleton];constructor
      ·rintro(e|e)
       ·exact .inl e
       ·exact .inr ⟨_,List.mem_singleton.2 rfl,by rw [e],by rw [e]⟩
      ·rintro(e|⟨y,hy,e1,e2⟩)
       ·exact .inl e
       ·rw [List.mem_singleton.1 hy] at e1 e2;exact .inr (Prod.ext e1.symm e2.symm)
     obtain⟨ta,tc,rfl,Ha,G8,G9⟩:=own_dseg r6;clear Hb;refine cZ 7 ?_;intro K hK;refine wp_app2 _ _ _ _ rfl He (by rfl) (by rfl) rfl ?_;refine hK.out _ _ (Hd.out _ Ho) (fun qh=> ?_);clear hK K;try simp only [zP]
     refine tZ 8 15 ?_;refine zD ?_;have hP:DSeg w6 ta ds/\ (∀d:Dt,d∈ds↔(∃y,(y∈S.l/\ gnS p fl y)/\ y.r=d.1/\ y.q=d.2) \/∃y∈[(⟨p,fl,rep,q,v⟩:Lf)],y.r=d.1/\ y.q=d.2)/\ ds.length<=1001/\ Below w2.heap.size w2 w6:=⟨Ha,Hn,Hp,Ho⟩;generalize hK:u0.heap.size=aK;generalize hL:u2.heap.size=aL;clear hK hL qh He r6 g6 Ho Hp Hn Ha H1 G8 G9;try clear Kc
     try clear H2
     revert hP;revert w6;revert ds;revert tc;revert ta;revert v3;revert aL;revert aK;exact Ka.out
    ·skip;intro o ho G5 K hK;simp only [gZa,gZb,gZc,gZd] at ho;subst ho;go_simp;obtain⟨u2,Hg⟩:∃u2,u1.alloc (.cells #[.int .i64 rep,.int .i64 q] 58)=u2:=⟨_,rfl⟩;have J5:DR u2 u1.heap.size (.slice (some ⟨u1.heap.size,0,none⟩) 1 1) [(rep,q)]:=by rw [<- Hg];exact dr_one _ _ _
     have Hm:Below u1.heap.size u1 u2:=by rw [<- Hg];exact zO _ _
     rw [Hg];clear Hg;have c2:=keepS c1 Hm;refine hK.out _ _ (Hd.out _ c2) (fun qh=> ?_);clear hK K;try simp only [zP]
     refine cZ 4 ?_;intro K hK;go_simp;refine(Gg.out _ _ c2 (Jb.below Hm)).mono ?_;rintro e u3 ⟨⟨v3,ts,rfl,H2,Kb,J8⟩,Hf⟩;have c3:=keepS c2 Hf;refine hK.out _ _ (Hd.out _ c3) (fun qh=> ?_);clear hK K;try simp only [zP]
     have z1:=Hm.size;have z2:=Hf.size;have z3:=Hz.size;have z4:=c0.size;have H1:u2.heap.size<=u3.heap.size:=by omega
     obtain⟨v6,w6,He,r6,g6⟩:=dotsApp u2.heap.size u1.heap.size v3 (.slice (some ⟨u1.heap.size,0,none⟩) 1 1) ts [(rep,q)] u3 103 H2 (J5.below Hf) H1 (by simp;omega);have Ho:Below w2.heap.size w2 w6:=c3.grown g6.1 c3.size (fun k e=>by
      have h1:=(World.ownsRow.lt H2 k e).1;omega)
     obtain⟨ds,Hb⟩:∃ds,ts++[(rep,q)]=ds:=⟨_,rfl⟩;rw [Hb] at r6;have Hp:ds.length<=1001:=by rw [<- Hb];simp;omega
     have Hn:∀d:Dt,d∈ds↔(∃y,(y∈S.l/\ gnS p fl y)/\ y.r=d.1/\ y.q=d.2) \/∃y∈[(⟨p,fl,rep,q,v⟩:Lf)],y.r=d.1/\ y.q=d.2:=fun d=>by
      rw [<- Hb,List.mem_append,Kb d,List.mem_singleton];constructor
      ·rintro(e|e)
       ·exact .inl e
       ·exact .inr ⟨_,List.mem_singleton.2 rfl,by rw [e],by rw [e]⟩
      ·rintro(e|⟨y,hy,e1,e2⟩)
       ·exact .inl e
       ·rw [List.mem_singleton.1 hy] at e1 e2;exact .inr (Prod.ext e1.symm e2.symm)
     obtain⟨ta,tc,rfl,Ha,G8,G9⟩:=own_dseg r6;clear Hb;refine cZ 7 ?_;intro K hK;refine wp_app2 _ _ _ _ rfl He (by rfl) (by rfl) rfl ?_;refine hK.out _ _ (Hd.out _ Ho) (fun qh=> ?_);clear hK K;try simp only [zP]
     refine tZ 8 15 ?_;refine zD ?_;have hP:DSeg w6 ta ds/\ (∀d:Dt,d∈ds↔(∃y,(y∈S.l/\ gnS p fl y)/\ y.r=d.1/\ y.q=d.2) \/∃y∈[(⟨p,fl,rep,q,v⟩:Lf)],y.r=d.1/\ y.q=d.2)/\ ds.length<=1001/\ Below w2.heap.size w2 w6:=⟨Ha,Hn,Hp,Ho⟩;exact Ka.out u0.heap.size u1.heap.size v3 ta tc ds w6 hP
   ·skip;intro o ho G5 K hK;simp only [gZa,gZb,gZc,gZd] at ho;subst ho;go_simp;obtain⟨u1,Hq⟩:∃u1,u0.alloc (.cells #[.int .i64 rep,.int .i64 q] 58)=u1:=⟨_,rfl⟩;have J4:DR u1 u0.heap.size (.slice (some ⟨u0.heap.size,0,none⟩) 1 1) [(rep,q)]:=by rw [<- Hq];exact dr_one _ _ _
    have Hz:Below u0.heap.size u0 u1:=by rw [<- Hq];exact zO _ _
    rw [Hq];clear Hq;have c1:=keepS c0 Hz;refine hK.out _ _ (Hd.out _ c1) (fun qh=> ?_);clear hK K;try simp only [zP]
    refine cZ 3 ?_;intro K hK;go_simp;obtain⟨u2,Hg⟩:∃u2,u1.alloc (.cells #[.int .i64 kk] 3)=u2:=⟨_,rfl⟩;have J3:ISeg u2 u1.heap.size [kk]:=by rw [<- Hg];exact iseg_one _ _
    have Hm:Below u1.heap.size u1 u2:=by rw [<- Hg];exact zO _ _
    rw [Hg];clear Hg;have c2:=keepS c1 Hm;refine hK.out _ _ (Hd.out _ c2) (fun qh=> ?_);clear hK K;try simp only [zP]
    refine cZ 4 ?_;intro K hK;go_simp;refine(Gg.out _ _ c2 J3).mono ?_;rintro e u3 ⟨⟨v3,ts,rfl,H2,Kb,J8⟩,Hf⟩;have c3:=keepS c2 Hf;refine hK.out _ _ (Hd.out _ c3) (fun qh=> ?_);clear hK K;try simp only [zP]
    have z1:=Hm.size;have z2:=Hf.size;have z3:=Hz.size;have z4:=c0.size;have H1:u2.heap.size<=u3.heap.size:=by omega
    obtain⟨v6,w6,He,r6,g6⟩:=dotsApp u2.heap.size u0.heap.size v3 (.slice (some ⟨u0.heap.size,0,none⟩) 1 1) ts [(rep,q)] u3 103 H2 ((J4.below Hm).below Hf) H1 (by simp;omega);have Ho:Below w2.heap.size w2 w6:=c3.grown g6.1 c3.size (fun k e=>by
     have h1:=(World.ownsRow.lt H2 k e).1;omega)
    obtain⟨ds,Hb⟩:∃ds,ts++[(rep,q)]=ds:=⟨_,rfl⟩;rw [Hb] at r6;have Hp:ds.length<=1001:=by rw [<- Hb];simp;omega
    have Hn:∀d:Dt,d∈ds↔(∃y,(y∈S.l/\ gnS p fl y)/\ y.r=d.1/\ y.q=d.2) \/∃y∈[(⟨p,fl,rep,q,v⟩:Lf)],y.r=d.1/\ y.q=d.2:=fun d=>by
     rw [<- Hb,List.mem_append,Kb d,List.mem_singleton];constructor
     ·rintro(e|e)
      ·exact .inl e
      ·exact .inr ⟨_,List.mem_singleton.2 rfl,by rw [e],by rw [e]⟩
     ·rintro(e|⟨y,hy,e1,e2⟩)
      ·exact .inl e
      ·rw [List.mem_singleton.1 hy] at e1 e2;exact .inr (Prod.ext e1.symm e2.symm)
    obtain⟨ta,tc,rfl,Ha,G8,G9⟩:=own_dseg r6;clear Hb;refine cZ 7 ?_;intro K hK;refine wp_app2 _ _ _ _ rfl He (by rfl) (by rfl) rfl ?_;refine hK.out _ _ (Hd.out _ Ho) (fun qh=> ?_);clear hK K;try simp only [zP]
    refine tZ 8 15 ?_;refine zD ?_;have hP:DSeg w6 ta ds/\ (∀d:Dt,d∈ds↔(∃y,(y∈S.l/\ gnS p fl y)/\ y.r=d.1/\ y.q=d.2) \/∃y∈[(⟨p,fl,rep,q,v⟩:Lf)],y.r=d.1/\ y.q=d.2)/\ ds.length<=1001/\ Below w2.heap.size w2 w6:=⟨Ha,Hn,Hp,Ho⟩;exact Ka.out u1.heap.size u0.heap.size v3 ta tc ds w6 hP
  intro aK aL v3 ta tc ds w6 hP;obtain⟨Ha,Hn,Hp,b6⟩:=hP;have Gv:=hid Ha;have Jj:=hid Hn;have Ji:=hid Hp;have J9:=hid b6;have Kj:=hid (H5.out.below b6 H5.out.lt);have Jl:Hid (DOk ds):=hid (fun d hd=>by
   rcases (Hn d).1 hd with ⟨y,⟨hy,_⟩,e1,e2⟩|⟨y,hy,e1,e2⟩
   ·have:=has_rok (ok_okTo HS.out) (ok_has HS.out y hy);unfold Rok dtR at this;simp only at this;omega
   ·have:=Gh.out.dot y hy;unfold Rok dtR at this;simp only at this;omega)
  have Hc:=hid (keepS Hv.out b6);have Kf:=hid (H3.out.below b6 H3.out.lt);have H6:=hid (Kk.out.below Hc.out Kk.out.lt);have Ks:=hid (Gk.out.below Hc.out Gk.out.lt);have Kq:=hid (Gi.out.below Hc.out Gi.out.lt);have Jk:=hid (HO.out.below Hc.out);have Jp:=hid (Ku.out.below Hc.out);clear Ha Hn Hp b6 Gg Hd H5 Gl Gj Gq H3;go_wp2_with fail;refine(newNode _).mono ?_;rintro e w7 ⟨s1,s2,rfl,K6,K4,K5,m1,m2,b7⟩;have Kv:=hid (tre_none (B:=w6.heap.size) m1 m2 K6 ⟨K4,K5⟩);have Jq:Hid (s1<w7.heap.size/\ s2<w7.heap.size):=hid ⟨m1.lt,m2.lt⟩;have Kt:=hid (runsOfC ta tc ds w7 (by have:=Ji.out;omega) Jl.out (Gv.out.below b7));have Jg:=hid b7;clear K6 K4 K5 m1 m2 b7;go_wp2_with fail;refine Kt.out.mono ?_;rintro e w8 ⟨⟨bd,n,D,G,L,rfl,hn,hG,Ge,K3,Gb,Gx⟩,b8⟩;obtain⟨w9,Gp⟩:∃w9,w8.alloc (.cells #[.map (some s1),.map (some s2),.map (some bd)] 69)=w9:=⟨_,rfl⟩;have b9:Below w8.heap.size w8 w9:=by rw [<- Gp];exact zO _ _
  have Kx:Hid (Bx3 w9 w8.heap.size (.map (some s1)) (.map (some s2)) (.map (some bd))):=hid (by rw [<- Gp];exact Bx3.made _ _ _ _ _);have Gw:=keepS b8 b9;have Hy:=keepS Jg.out Gw;have H4:=hid Hy;have K0:∀(z:List Ky) (x:Nat×Nat),(if z=[] then some (s1,s2) else none)=some x ->x.1≠bd/\ x.2≠bd:=fun z x hx=>by
   have h1:=Jq.out;by_cases e:z=[]
   ·rw [if_pos e] at hx;injection hx with hx;subst hx;exact⟨by show s1≠bd;omega,by show s2≠bd;omega⟩
   ·rw [if_neg e] at hx;cases hx
  have K1:bd<w9.heap.size:=by
   obtain⟨es,cl,hb,_⟩:=(hG.below b9).own;exact(Array.getElem?_eq_some_iff.1 hb).1
  have K9:(Lit.int .i64 q).wf=true:=wfI (by have:=Gh.out.dot _ (List.mem_singleton.2 rfl);unfold Rok dtR at this;simp only at this;omega) (by have:=Jn.out;omega);have K8:(Lit.int .i64 kk).wf=true:=by rw [<- Hs.out];rcases kd_or fl with e|e<;>rw [e]<;>decide
  have Ko:=hid (putX bd p a cp kk rep q v w6.heap.size (9*0) (fun z=>if z=[] then some (s1,s2) else none) (Mk [] 0) (s1,s2) w9 (by have:=Ht.out.2.1;omega) (pth_size Ht.out) K8 Jo.out K9 (by omega) (by have:=Hy.size;omega) (Jp.out.below Hy) (Kv.out.1.below Gw) (if_pos rfl) K1 K0);have Hx:Hid (n<=2000/\ GrpAt w9 bd n D G L/\ (∀r,Srt (L r))/\ (∀r x,In (L r) x↔(r,x)∈ds)/\∀r,(L r).length<=2000):=hid ⟨hn,hG.below b9,Ge,K3,Gb⟩;have X9:=Kx.out;have y0:=X9.c0;have y1:=X9.c1;have y2:=X9.c2;have D9:=Kj.out.below Hy Kj.out.lt;have y3:=D9.c0;have y4:=D9.c1;have y5:=(H6.out.below Hy H6.out.lt).c0;clear hn hG Ge K3 Gb Gx b8 b9 Gw Hy K0 K1 K9 K8 Kt X9 D9;go_wp2_with fail;try rw [Gp]
  clear Gp;refine Ko.out.mono ?_;rintro e Hu ⟨rfl,H0,Je,N',Jd,Jc,Ja⟩;have bX:Below w6.heap.size w6 Hu:=H4.out.trans (H0.below (by have:=H4.out.size;omega));have Kz:NkI [(⟨p,fl,rep,q,v⟩:Lf)] 1 N':=fun z=>by
   rw [Ja z];have h1:=Kv.out.2 z;constructor
   ·rintro(e|e)
    ·rcases h1.1 e with e|⟨j,hj,_⟩
     ·exact .inl e
     ·omega
    ·exact .inr ⟨0,by omega,by rw [<- Hs.out] at e;exact e⟩
   ·rintro(e|⟨j,hj,e⟩)
    ·exact .inl (h1.2 (.inl e))
    ·obtain rfl:j=0:=by omega
     exact .inr (by rw [<- Hs.out];exact e)
  have G6:=dl_open (g:=gnS p fl) (P:=[(⟨p,fl,rep,q,v⟩:Lf)]) HS.out Gh.out Hx.out.1 (Hx.out.2.1.gtX H0 Je) Hx.out.2.2.1 Hx.out.2.2.2.1 Hx.out.2.2.2.2 Jj.out (x0:=(s1,s2)) (N:=N') (B:=w6.heap.size) (by
   have:=Jd.mono (c':=9*1) (by have:=Ht.out.2.1;omega);rw [<- Hs.out] at this;exact this) Jc Kz
  have Gt:=hid (changeC Hu (Jk.out.below bX) G6.1 G6.2 (mkS_eta _ _) HS.out.w (dl_w HS.out Gh.out));obtain⟨X,hX⟩:∃X,chX S (dlS (gnS p fl) S.l [⟨p,fl,rep,q,v⟩])=X:=⟨_,rfl⟩;obtain⟨Y,hY⟩:∃Y,chY S (dlS (gnS p fl) S.l [⟨p,fl,rep,q,v⟩])=Y:=⟨_,rfl⟩;obtain⟨C,hC⟩:∃C,chC S (dlS (gnS p fl) S.l [⟨p,fl,rep,q,v⟩])=C:=⟨_,rfl⟩;rw [hX,hY,hC] at Gt;have Hw:Hid (wrX S rep p fl v=X/\ wrY S rep p fl v=Y/\ wrC S rep p fl v=C):=hid (by
   obtain⟨z1,z2,z3⟩:=HZ.out;rw [Ju.out] at z1 z2 z3;exact⟨z1.trans hX,z2.trans hY,z3.trans hC⟩)
  have Js:=hid (Kx.out);have Gf:=Kf.out.below bX Kf.out.lt;have l0:=Gf.c0;have l1:=Gf.c1;have l2:=Gf.c2;have z0:=H0.cell y0;have z1:=H0.cell y1;have z2:=H0.cell y2;have Ga:=hid (Ks.out.below bX Ks.out.lt);have H8:=hid (Kq.out.below bX Kq.out.lt);have Kg:=hid (keepS Hc.out bX);clear y0 y1 y2 y3 y4 y5 bX Kz G6 hX hY hC Gf H0 Je Jd Jc Ja Ko Hx;go_wp2_with fail;refine Gt.out.mono ?_;rintro e w4 ⟨ra,rc,rx,rd,Hi,Hl,Hk,Hj,Hh,rfl,ox,oy,b4⟩;have R4:=Ga.out.below b4 Ga.out.lt;have Q4:=H8.out.below b4 H8.out.lt;have Jf:=hid (keepS Gr.out (keepS Kg.out b4));have Kn:=hid ox;have Gu:=hid oy;have Jt:Hid (w.heap.size+4<=Hu.heap.size):=hid (by have h1:=Jv.out;have h2:=Kg.out.size;omega);have r0:=R4.c0;have r1:=R4.c1;have rf:=R4.f;have HC:=hid (R4.set (.slice ra X.l.length rc) (.slice rx X.n rd));have Q5:=((Q4.setAt ⟨w.heap.size+1+1,0,none⟩ (.slice ra X.l.length rc) (by show w.heap.size+1+1≠w.heap.size+1+1+1;omega)).setAt ⟨w.heap.size+1+1,1,none⟩ (.slice rx X.n rd) (by show w.heap.size+1+1≠w.heap.size+1+1+1;omega));have q0:=Q5.c0;have q1:=Q5.c1;have qf:=Q5.f;have H9:=hid (Q5.set (.slice Hi Y.l.length Hl) (.slice Hk Y.n Hj));have Ki:=hid ((HC.out.setAt ⟨w.heap.size+1+1+1,0,none⟩ (.slice Hi Y.l.length Hl) (by show w.heap.size+1+1+1≠w.heap.size+1+1;omega)).setAt ⟨w.heap.size+1+1+1,1,none⟩ (.slice Hk Y.n Hj) (by show w.heap.size+1+1+1≠w.heap.size+1+1;omega));clear ox oy b4 R4 Q4 Q5 Gt l0 l1 l2 z0 z1 z2;go_wp2_with fail;have s0:=Ki.out.c0;have s1:=Ki.out.c1;have s2:=H9.out.c0;have s3:=H9.out.c1;refine zF (v:=.tuple #[.agg #[.slice ra X.l.length rc,.slice rx X.n rd],.agg #[.slice Hi Y.l.length Hl,.slice Hk Y.n Hj],.int .i64 C]) (by simp [results,Tryz.results29,go_sem,s0,s1,s2,s3]) ?_;have hz:=Jt.out;have J1:Hu.heap.size<=Hh:=Kn.out.hl.1;have e1:=Hw.out.1;have e2:=Hw.out.2.1;have e3:=Hw.out.2.2;have G1:SOw ((((w4.setCell ⟨w.heap.size+1+1,0,none⟩ (.slice ra X.l.length rc)).setCell ⟨w.heap.size+1+1,1,none⟩ (.slice rx X.n rd)).setCell ⟨w.heap.size+1+1+1,0,none⟩ (.slice Hi Y.l.length Hl)).setCell ⟨w.heap.size+1+1+1,1,none⟩ (.slice Hk Y.n Hj)) w.heap.size Hh ra rx rd X:=
   SOw.wide ((((Kn.out.set ⟨w.heap.size+1+1,0,none⟩ (.slice ra X.l.length rc) (.inl (by show w.heap.size+1+1<Hu.heap.size;omega))).set ⟨w.heap.size+1+1,1,none⟩ (.slice rx X.n rd) (.inl (by show w.heap.size+1+1<Hu.heap.size;omega))).set ⟨w.heap.size+1+1+1,0,none⟩ (.slice Hi Y.l.length Hl) (.inl (by show w.heap.size+1+1+1<Hu.heap.size;omega))).set ⟨w.heap.size+1+1+1,1,none⟩ (.slice Hk Y.n Hj) (.inl (by show w.heap.size+1+1+1<Hu.heap.size;omega))) (by omega) zL (by simp [World.setCell];exact Nat.le_trans Gu.out.hl.1 Gu.out.hl.2)
  have G2:SOw ((((w4.setCell ⟨w.heap.size+1+1,0,none⟩ (.slice ra X.l.length rc)).setCell ⟨w.heap.size+1+1,1,none⟩ (.slice rx X.n rd)).setCell ⟨w.heap.size+1+1+1,0,none⟩ (.slice Hi Y.l.length Hl)).setCell ⟨w.heap.size+1+1+1,1,none⟩ (.slice Hk Y.n Hj)) Hh ((((w4.setCell ⟨w.heap.size+1+1,0,none⟩ (.slice ra X.l.length rc)).setCell ⟨w.heap.size+1+1,1,none⟩ (.slice rx X.n rd)).setCell ⟨w.heap.size+1+1+1,0,none⟩ (.slice Hi Y.l.length Hl)).setCell ⟨w.heap.size+1+1+1,1,none⟩ (.slice Hk Y.n Hj)).heap.size Hi Hk Hj Y:=
   SOw.wide ((((Gu.out.set ⟨w.heap.size+1+1,0,none⟩ (.slice ra X.l.length rc) (.inl (by show w.heap.size+1+1<Hh;omega))).set ⟨w.heap.size+1+1,1,none⟩ (.slice rx X.n rd) (.inl (by show w.heap.size+1+1<Hh;omega))).set ⟨w.heap.size+1+1+1,0,none⟩ (.slice Hi Y.l.length Hl) (.inl (by show w.heap.size+1+1+1<Hh;omega))).set ⟨w.heap.size+1+1+1,1,none⟩ (.slice Hk Y.n Hj) (.inl (by show w.heap.size+1+1+1<Hh;omega))) zL (by simp [World.setCell]) zL
  have G3:=(((Jf.out.setCell (p:=⟨w.heap.size+1+1,0,none⟩) (by show w.heap.size<=w.heap.size+1+1;omega) (.slice ra X.l.length rc)).setCell (p:=⟨w.heap.size+1+1,1,none⟩) (by show w.heap.size<=w.heap.size+1+1;omega) (.slice rx X.n rd)).setCell (p:=⟨w.heap.size+1+1+1,0,none⟩) (by show w.heap.size<=w.heap.size+1+1+1;omega) (.slice Hi Y.l.length Hl)).setCell (p:=⟨w.heap.size+1+1+1,1,none⟩) (by show w.heap.size<=w.heap.size+1+1+1;omega) (.slice Hk Y.n Hj);rw [e1,e2,e3];first
   | exact⟨ra,rc,rx,rd,Hi,Hl,Hk,Hj,Hh,rfl,G1,G2,G3⟩
   | exact⟨ra,rc,rx,rd,Hi,Hl,Hk,Hj,rfl,Hh,G1,G2,G3⟩
 ·have e1:=G4 hc;clear hy G4;subst e1;have HZ:=hid (wr_f (S:=S) (rep:=rep) (p:=p) (fl:=fl) (v:=v) (fun hn=>hc (Km.out.1 hn)));clear hc;obtain⟨u2,Hg⟩:∃u2,w1.alloc (.cells #[.int .i64 0,.int .i64 0] 58)=u2:=⟨_,rfl⟩;have b2:Below w1.heap.size w1 u2:=by rw [<- Hg];exact zO _ _
  have D2:Bx2 u2 w1.heap.size (.int .i64 0) (.int .i64 0):=by rw [<- Hg];exact Bx2.made _ _ _ _
  have y0:=D2.c0;have y1:=D2.c1;have yf:=D2.f;obtain⟨w2,Hr⟩:∃w2,(u2.setCell ⟨w1.heap.size,0,none⟩ (.int .i64 0)).setCell ⟨w1.heap.size,1,none⟩ (.int .i64 0)=w2:=⟨_,rfl⟩;have Jz:=Gl.out.lt;have Jy:=Gj.out.lt;have Hv:Hid (Below w.heap.size w w2):=hid (by
   have h1:=Gr.out.size;have h2:=Gs.out.size;rw [<- Hr];exact((keepS Gr.out (keepS Gs.out b2)).setCell (p:=⟨w1.heap.size,0,none⟩) (by show w.heap.size<=w1.heap.size;omega) _).setCell (p:=⟨w1.heap.size,1,none⟩) (by show w.heap.size<=w1.heap.size;omega) _)
  have Gm:Hid (Bx2 w2 (w.heap.size+1+1) (.slice none 0 0) (.slice none 0 0)):=hid (by
   rw [<- Hr];exact((Gl.out.below b2 Gl.out.lt).setAt _ _ (by show w1.heap.size≠w.heap.size+1+1;omega)).setAt _ _ (by show w1.heap.size≠w.heap.size+1+1;omega))
  have Jm:Hid (Bx2 w2 (w.heap.size+1+1+1) (.slice none 0 0) (.slice none 0 0)):=hid (by
   rw [<- Hr];exact((Gj.out.below b2 Gj.out.lt).setAt _ _ (by show w1.heap.size≠w.heap.size+1+1+1;omega)).setAt _ _ (by show w1.heap.size≠w.heap.size+1+1+1;omega))
  clear D2 Jz Jy;have r0:=Gm.out.c0;have r1:=Gm.out.c1;have rf:=Gm.out.f;have Jh:=hid (Gm.out.set (.slice none 0 0) (.slice none 0 0));have Q3:=(Jm.out.setAt ⟨w.heap.size+1+1,0,none⟩ (.slice none 0 0) (by show w.heap.size+1+1≠w.heap.size+1+1+1;omega)).setAt ⟨w.heap.size+1+1,1,none⟩ (.slice none 0 0) (by show w.heap.size+1+1≠w.heap.size+1+1+1;omega);have q0:=Q3.c0;have q1:=Q3.c1;have qf:=Q3.f;have Kp:=hid (Q3.set (.slice none 0 0) (.slice none 0 0));have Kh:=hid ((Jh.out.setAt ⟨w.heap.size+1+1+1,0,none⟩ (.slice none 0 0) (by show w.heap.size+1+1+1≠w.heap.size+1+1;omega)).setAt ⟨w.heap.size+1+1+1,1,none⟩ (.slice none 0 0) (by show w.heap.size+1+1+1≠w.heap.size+1+1;omega));clear Q3 b2;go_wp2_with fail;try rw [Hr]
  have s0:=Kh.out.c0;have s1:=Kh.out.c1;have s2:=Kp.out.c0;have s3:=Kp.out.c1;refine zF (v:=.tuple #[.agg #[.slice none 0 0,.slice none 0 0],.agg #[.slice none 0 0,.slice none 0 0],.int .i64 3]) (by simp [results,Tryz.results29,go_sem,s0,s1,s2,s3]) ⟨none,0,none,0,none,0,none,0,w.heap.size,by rw [HZ.out.1,HZ.out.2.1,HZ.out.2.2];rfl,?_,?_,?_⟩
  ·rw [HZ.out.1];exact SOw.mt _ Sx.mt rfl rfl _ _ ⟨Nat.le_refl _,by simp [World.setCell];exact Hv.out.size⟩ _ _ _
  ·rw [HZ.out.2.1];exact SOw.emp _ _ _ _ _ (by simp [World.setCell];exact Hv.out.size)
  ·exact(((Hv.out.setCell (by simp;omega) _).setCell (by simp;omega) _).setCell (by simp;omega) _).setCell (by simp;omega) _
theorem specWriteReg (a:Option Addr)(c:Nat)(xa:Option Addr)(d:Nat)(pa:Option Addr)(pc:Nat)(S:Sx)(rep:Int)(p:List ByteArray)(v:ByteArray)(w:World)(hm:S.Sm)(hT:I64 S.T)(h1:LCap w a S.l)(h3:RSeg w xa S.n S.R S.F S.T)(hp:p.length<=1048576)(hpc:p.length<=pc/\ pc<=9223372036854775807)(hseg:SSeg w pa p)(hv:v.size<=1048576):
  Calls Tryz.prog 5 #[.agg #[.slice a S.l.length c,.slice xa S.n d],.int .i64 rep,.slice pa p.length pc,.string v] w fun e w'=>∃a m x t a' m' x' t',e=.returned (.tuple #[.agg #[.slice a (seX S rep p false true v).l.length m,.slice x (seX S rep p false true v).n t],.agg #[.slice a' (seY S rep p false true v).l.length m',.slice x' (seY S rep p false true v).n t'],.int .i64 (seC S rep p false true v)])/\ SNc w' w.heap.size a x (seX S rep p false true v)/\ SNc w' w.heap.size a' x' (seY S rep p false true v)/\ Below w.heap.size w w':=by
 obtain⟨W,hW⟩:∃W,((w.alloc (.cells #[.slice a S.l.length c,.slice xa S.n d] 28)).alloc (.cells #[.slice none 0 0,.slice none 0 0] 28)).alloc (.cells #[.slice none 0 0,.slice none 0 0] 28)=W:=⟨_,rfl⟩;have b0:Below w.heap.size w W:=by rw [<- hW];exact(below2 _ _ _).alloc (by simp;omega) _
 have zW:W.heap.size=w.heap.size+3:=by rw [<- hW];simp
 have A0:Bx2 W w.heap.size (.slice a S.l.length c) (.slice xa S.n d):=by rw [<- hW];exact((Bx2.made w _ _ _).allocs _).allocs _
 have R0:Bx2 W (w.heap.size+1) (.slice none 0 0) (.slice none 0 0):=by
  rw [<- hW];have:=Bx2.made (w.alloc (.cells #[.slice a S.l.length c,.slice xa S.n d] 28)) (.slice none 0 0) (.slice none 0 0) 28;exact(by simpa using this:Bx2 _ (w.heap.size+1) _ _).allocs _
 have Q0:Bx2 W (w.heap.size+1+1) (.slice none 0 0) (.slice none 0 0):=by
  rw [<- hW];simpa using Bx2.made ((w.alloc (.cells #[.slice a S.l.length c,.slice xa S.n d] 28)).alloc (.cells #[.slice none 0 0,.slice none 0 0] 28)) (.slice none 0 0) (.slice none 0 0) 28
 have Hr:=hid A0;have Hk:=hid R0;have Hj:=hid Q0;have Hl:=hid b0;have Hs:=hid zW;have k0:=A0.c0;have k1:=A0.c1;have Hg:=hid (l3SetC a c xa d pa pc S rep p false true v W hm hT (h1.below b0) (h3.below b0) hp hpc (hseg.below b0) hv (fun h=>by cases h));obtain⟨X,hX⟩:∃X,seX S rep p false true v=X:=⟨_,rfl⟩;obtain⟨Y,hY⟩:∃Y,seY S rep p false true v=Y:=⟨_,rfl⟩;obtain⟨Cc,Hi⟩:∃Cc,seC S rep p false true v=Cc:=⟨_,rfl⟩;rw [hX,hY,Hi] at Hg;have Hb:=hid (And.intro hX (And.intro hY Hi));have Hq:Hid (w.heap.size+3<=W.heap.size):=hid (by omega);clear b0 zW A0 R0 Q0 h1 h3 hseg hpc hX hY Hi;go_enter Tryz.func5,Tryz.ntmps5;go_wp2_with fail;try rw [hW]
 clear hW;refine Hg.out.mono ?_;rintro e w4 ⟨ra,rc,rx,rd,Hc,Hd,Hf,He,rfl,ox,oy,b4⟩;have Ha:=hid (Hk.out.below b4 Hk.out.lt);have Hh:=hid (Hj.out.below b4 Hj.out.lt);have Hm:=hid (keepS Hl.out b4);have Hn:=hid ox;have Ho:=hid oy;clear b4 ox oy Hg k0 k1;have TB:=twoB Ha.out Hh.out (show w.heap.size+1≠w.heap.size+1+1 by omega) (.slice ra X.l.length rc) (.slice rx X.n rd) (.slice Hc Y.l.length Hd) (.slice Hf Y.n He);have r0:=Ha.out.c0;have r1:=Ha.out.c1;have rf:=Ha.out.f;have q0:=TB.1.c0;have q1:=TB.1.c1;have qf:=TB.1.f;have Hp:=hid TB.2;clear TB;go_wp2_with fail;obtain⟨X1,X2⟩:=Hp.out;refine zF (v:=.tuple #[.agg #[.slice ra X.l.length rc,.slice rx X.n rd],.agg #[.slice Hc Y.l.length Hd,.slice Hf Y.n He],.int .i64 Cc]) (by simp [results,Tryz.results5,go_sem,X1.c0,X1.c1,X2.c0,X2.c1]) ?_;have hz:=Hq.out;have G3:=below4 Hm.out (show w.heap.size<=w.heap.size+1 by omega) (show w.heap.size<=w.heap.size+1+1 by omega) (.slice ra X.l.length rc) (.slice rx X.n rd) (.slice Hc Y.l.length Hd) (.slice Hf Y.n He);rw [Hb.out.1,Hb.out.2.1,Hb.out.2.2];have G1:=snc4 (r1:=w.heap.size+1) (r2:=w.heap.size+1+1) Hn.out (show w.heap.size<=W.heap.size by omega) (show w.heap.size+1<W.heap.size by omega) (show w.heap.size+1+1<W.heap.size by omega) (.slice ra X.l.length rc) (.slice rx X.n rd) (.slice Hc Y.l.length Hd) (.slice Hf Y.n He);have G2:=snc4 (r1:=w.heap.size+1) (r2:=w.heap.size+1+1) Ho.out (show w.heap.size<=W.heap.size by omega) (show w.heap.size+1<W.heap.size by omega) (show w.heap.size+1+1<W.heap.size by omega) (.slice ra X.l.length rc) (.slice rx X.n rd) (.slice Hc Y.l.length Hd) (.slice Hf Y.n He);first
  | exact⟨ra,rc,rx,rd,Hc,Hd,Hf,He,rfl,G1,G2,G3⟩
  | exact⟨ra,rc,rx,rd,Hc,Hd,Hf,⟨He,rfl⟩,G1,G2,G3⟩
theorem specSetFlag (a:Option Addr)(c:Nat)(xa:Option Addr)(d:Nat)(pa:Option Addr)(pc:Nat)(S:Sx)(rep:Int)(p:List ByteArray)(on:Bool)(w:World)(hm:S.Sm)(hT:I64 S.T)(h1:LCap w a S.l)(h3:RSeg w xa S.n S.R S.F S.T)(hp:p.length<=1048576)(hpc:p.length<=pc/\ pc<=9223372036854775807)(hseg:SSeg w pa p):
  Calls Tryz.prog 6 #[.agg #[.slice a S.l.length c,.slice xa S.n d],.int .i64 rep,.slice pa p.length pc,.bool on] w fun e w'=>∃a m x t a' m' x' t',e=.returned (.tuple #[.agg #[.slice a (seX S rep p true on ⟨#[]⟩).l.length m,.slice x (seX S rep p true on ⟨#[]⟩).n t],.agg #[.slice a' (seY S rep p true on ⟨#[]⟩).l.length m',.slice x' (seY S rep p true on ⟨#[]⟩).n t'],.int .i64 (seC S rep p true on ⟨#[]⟩)])/\ SNc w' w.heap.size a x (seX S rep p true on ⟨#[]⟩)/\ SNc w' w.heap.size a' x' (seY S rep p true on ⟨#[]⟩)/\ Below w.heap.size w w':=by
 obtain⟨W,hW⟩:∃W,((w.alloc (.cells #[.slice a S.l.length c,.slice xa S.n d] 28)).alloc (.cells #[.slice none 0 0,.slice none 0 0] 28)).alloc (.cells #[.slice none 0 0,.slice none 0 0] 28)=W:=⟨_,rfl⟩;have b0:Below w.heap.size w W:=by rw [<- hW];exact(below2 _ _ _).alloc (by simp;omega) _
 have zW:W.heap.size=w.heap.size+3:=by rw [<- hW];simp
 have A0:Bx2 W w.heap.size (.slice a S.l.length c) (.slice xa S.n d):=by rw [<- hW];exact((Bx2.made w _ _ _).allocs _).allocs _
 have R0:Bx2 W (w.heap.size+1) (.slice none 0 0) (.slice none 0 0):=by
  rw [<- hW];have:=Bx2.made (w.alloc (.cells #[.slice a S.l.length c,.slice xa S.n d] 28)) (.slice none 0 0) (.slice none 0 0) 28;exact(by simpa using this:Bx2 _ (w.heap.size+1) _ _).allocs _
 have Q0:Bx2 W (w.heap.size+1+1) (.slice none 0 0) (.slice none 0 0):=by
  rw [<- hW];simpa using Bx2.made ((w.alloc (.cells #[.slice a S.l.length c,.slice xa S.n d] 28)).alloc (.cells #[.slice none 0 0,.slice none 0 0] 28)) (.slice none 0 0) (.slice none 0 0) 28
 have Hr:=hid A0;have Hk:=hid R0;have Hj:=hid Q0;have Hl:=hid b0;have Hs:=hid zW;have k0:=A0.c0;have k1:=A0.c1;have Hg:=hid (l3SetC a c xa d pa pc S rep p true on ⟨#[]⟩ W hm hT (h1.below b0) (h3.below b0) hp hpc (hseg.below b0) (by decide) (fun _=>by simp [emB]));obtain⟨X,hX⟩:∃X,seX S rep p true on ⟨#[]⟩=X:=⟨_,rfl⟩;obtain⟨Y,hY⟩:∃Y,seY S rep p true on ⟨#[]⟩=Y:=⟨_,rfl⟩;obtain⟨Cc,Hi⟩:∃Cc,seC S rep p true on ⟨#[]⟩=Cc:=⟨_,rfl⟩;rw [hX,hY,Hi] at Hg;have Hb:=hid (And.intro hX (And.intro hY Hi));have Hq:Hid (w.heap.size+3<=W.heap.size):=hid (by omega);clear b0 zW A0 R0 Q0 h1 h3 hseg hpc hX hY Hi;go_enter Tryz.func6,Tryz.ntmps6;go_wp2_with fail;try rw [hW]
 clear hW;refine Hg.out.mono ?_;rintro e w4 ⟨ra,rc,rx,rd,Hc,Hd,Hf,He,rfl,ox,oy,b4⟩;have Ha:=hid (Hk.out.below b4 Hk.out.lt);have Hh:=hid (Hj.out.below b4 Hj.out.lt);have Hm:=hid (keepS Hl.out b4);have Hn:=hid ox;have Ho:=hid oy;clear b4 ox oy Hg k0 k1;have TB:=twoB Ha.out Hh.out (show w.heap.size+1≠w.heap.size+1+1 by omega) (.slice ra X.l.length rc) (.slice rx X.n rd) (.slice Hc Y.l.length Hd) (.slice Hf Y.n He);have r0:=Ha.out.c0;have r1:=Ha.out.c1;have rf:=Ha.out.f;have q0:=TB.1.c0;have q1:=TB.1.c1;have qf:=TB.1.f;have Hp:=hid TB.2;clear TB;go_wp2_with fail;obtain⟨X1,X2⟩:=Hp.out;refine zF (v:=.tuple #[.agg #[.slice ra X.l.length rc,.slice rx X.n rd],.agg #[.slice Hc Y.l.length Hd,.slice Hf Y.n He],.int .i64 Cc]) (by simp [results,Tryz.results6,go_sem,X1.c0,X1.c1,X2.c0,X2.c1]) ?_;have hz:=Hq.out;have G3:=below4 Hm.out (show w.heap.size<=w.heap.size+1 by omega) (show w.heap.size<=w.heap.size+1+1 by omega) (.slice ra X.l.length rc) (.slice rx X.n rd) (.slice Hc Y.l.length Hd) (.slice Hf Y.n He);rw [Hb.out.1,Hb.out.2.1,Hb.out.2.2];have G1:=snc4 (r1:=w.heap.size+1) (r2:=w.heap.size+1+1) Hn.out (show w.heap.size<=W.heap.size by omega) (show w.heap.size+1<W.heap.size by omega) (show w.heap.size+1+1<W.heap.size by omega) (.slice ra X.l.length rc) (.slice rx X.n rd) (.slice Hc Y.l.length Hd) (.slice Hf Y.n He);have G2:=snc4 (r1:=w.heap.size+1) (r2:=w.heap.size+1+1) Ho.out (show w.heap.size<=W.heap.size by omega) (show w.heap.size+1<W.heap.size by omega) (show w.heap.size+1+1<W.heap.size by omega) (.slice ra X.l.length rc) (.slice rx X.n rd) (.slice Hc Y.l.length Hd) (.slice Hf Y.n He);first
  | exact⟨ra,rc,rx,rd,Hc,Hd,Hf,He,rfl,G1,G2,G3⟩
  | exact⟨ra,rc,rx,rd,Hc,Hd,Hf,⟨He,rfl⟩,G1,G2,G3⟩
theorem implWriteReg (a x pa:Option Addr)(c d pc:Nat)(S:Sx)(rep:Int)(p:List ByteArray)(v:ByteArray)(w:World)(hm:S.Sm)(hi:∀i,LfI (gL S.l i))(h:SAt w a x S)(hp:p.length<=1048576)(hseg:SSeg w pa p)(hvs:v.size<=1048576)(hrep:(Lit.int .i64 rep).wf=true):
  Calls Tryz.prog 8 #[.agg #[.slice a S.l.length c,.slice x S.n d],.int .i64 rep,.slice pa p.length pc,.string v] w fun e w'=>∃a c x d a' c' x' d' Hc,e=.returned (.tuple #[.agg #[.slice a (seX S rep p false true v).l.length c,.slice x (seX S rep p false true v).n d],.agg #[.slice a' (seY S rep p false true v).l.length c',.slice x' (seY S rep p false true v).n d'],.int .i64 (seC S rep p false true v)])/\ SOw w' w.heap.size Hc a x d (seX S rep p false true v)/\ SOw w' Hc w'.heap.size a' x' d' (seY S rep p false true v)/\ Below w.heap.size w w':=by
 obtain⟨W,hW⟩:∃W,((w.alloc (.cells #[.slice a S.l.length c,.slice x S.n d] 28)).alloc (.cells #[.slice none 0 0,.slice none 0 0] 28)).alloc (.cells #[.slice none 0 0,.slice none 0 0] 28)=W:=⟨_,rfl⟩;have b0:Below w.heap.size w W:=by rw [<- hW];exact(below2 _ _ _).alloc (by simp;omega) _
 have zW:W.heap.size=w.heap.size+3:=by rw [<- hW];simp
 have A0:Bx2 W w.heap.size (.slice a S.l.length c) (.slice x S.n d):=by rw [<- hW];exact((Bx2.made w _ _ _).allocs _).allocs _
 have R0:Bx2 W (w.heap.size+1) (.slice none 0 0) (.slice none 0 0):=by
  rw [<- hW];have:=Bx2.made (w.alloc (.cells #[.slice a S.l.length c,.slice x S.n d] 28)) (.slice none 0 0) (.slice none 0 0) 28;exact(by simpa using this:Bx2 _ (w.heap.size+1) _ _).allocs _
 have Q0:Bx2 W (w.heap.size+1+1) (.slice none 0 0) (.slice none 0 0):=by
  rw [<- hW];simpa using Bx2.made ((w.alloc (.cells #[.slice a S.l.length c,.slice x S.n d] 28)).alloc (.cells #[.slice none 0 0,.slice none 0 0] 28)) (.slice none 0 0) (.slice none 0 0) 28
 have Gi:=hid A0;have H1:=hid R0;have H0:=hid Q0;have H2:=hid b0;have Gc:=hid zW;have k0:=A0.c0;have k1:=A0.c1;have Hi:=hid (openToChangeC a x pa c d pc S p v W hm hi (h.below b0) hp (hseg.below b0) hvs);have H8:=hid (hseg.below b0);have H6:=hid hrep;obtain⟨C,hC⟩:∃C,ocC S p v=C:=⟨_,rfl⟩;rw [hC] at Hi;have HC:=hid hC;clear b0 zW A0 R0 Q0 h hseg hi hm hC hrep;go_enter Tryz.func8,Tryz.ntmps8;go_wp2_with fail;try rw [hW]
 clear hW;refine Hi.out.mono ?_;rintro e w1 ⟨⟨u0,u1,u2,rfl,ho⟩,b1⟩;have H3:=hid ho;obtain⟨w2,Hn⟩:∃w2,w1.alloc (.cells #[.map u0,.map u1,.map u2] 69)=w2:=⟨_,rfl⟩;have b2:Below w1.heap.size w1 w2:=by rw [<- Hn];exact zO _ _
 have Hv:Hid (Bx3 w2 w1.heap.size (.map u0) (.map u1) (.map u2)):=hid (by rw [<- Hn];exact Bx3.made _ _ _ _ _);have Hm:=hid (keepS b1 b2);have Hr:=hid b2;have Hj:=hid (keepS H2.out Hm.out);have Ha:=hid (H1.out.below Hm.out H1.out.lt);have Hb:=hid (H0.out.below Hm.out H0.out.lt);have H7:=hid (H8.out.below Hm.out);have Ga:Hid (w.heap.size+3<=w2.heap.size):=hid (by have h1:=Gc.out;have h2:=Hm.out.size;omega);clear b1 b2 ho k0 k1 Hi;by_cases hz:C=0
 ·have Hx:ocC S p v=0:=by rw [HC.out];exact hz
  have Hq:=ocC_ok Hx;obtain⟨x0,bm,rfl,rfl,rfl,o1⟩:=H3.out hz;have H4:=hid (o1.below Hr.out);have HS:=hid (stB_t Hq.1);have H5:=hid Hq.2.1;have H9:=hid Hq.2.2;have Hi:=hid Hx;have Gf:=Hv.out.c0;have Gg:=Hv.out.c1;have Gh:=Hv.out.c2;subst hz;clear o1 Hq Hx;have Hs:Hid (seX S rep p false true v=wrX S rep p false v/\ seY S rep p false true v=wrY S rep p false v/\ seC S rep p false true v=wrC S rep p false v):=hid (by
   by_cases hn:nxOk S rep
   ·have z:=se_t (S:=S) (rep:=rep) (p:=p) (fl:=false) (on:=true) (v:=v) Hi.out ⟨hn.1,fun _=>hn.2⟩;have t:=wr_t (S:=S) (rep:=rep) (p:=p) (fl:=false) (v:=v) hn;exact⟨z.1.trans t.1.symm,z.2.1.trans t.2.1.symm,z.2.2.trans t.2.2.symm⟩
   ·have z:=se_3 (S:=S) (rep:=rep) (p:=p) (fl:=false) (on:=true) (v:=v) Hi.out (fun h=>hn ⟨h.1,h.2 rfl⟩);have t:=wr_f (S:=S) (rep:=rep) (p:=p) (fl:=false) (v:=v) hn;exact⟨z.1.trans t.1.symm,z.2.1.trans t.2.1.symm,z.2.2.trans t.2.2.symm⟩)
  have Gd:kd false=1:=rfl;have Ho:=hid (writeC rep p pa pc false v w2 H4.out HS.out H5.out H9.out (fun h=>by cases h) H6.out H7.out);obtain⟨X,hX⟩:∃X,seX S rep p false true v=X:=⟨_,rfl⟩;obtain⟨Y,hY⟩:∃Y,seY S rep p false true v=Y:=⟨_,rfl⟩;obtain⟨Cc,Hw⟩:∃Cc,seC S rep p false true v=Cc:=⟨_,rfl⟩;rw [<- Hs.out.1,<- Hs.out.2.1,<- Hs.out.2.2,hX,hY,Hw] at Ho;have Hd:=hid (And.intro hX (And.intro hY Hw));clear hX hY Hw;rw [Gd] at Ho;go_wp2_with fail;try rw [Hn]
  refine Ho.out.mono ?_;rintro e w4 ⟨ra,rc,rx,rd,He,Hf,Hh,Hg,Hc,rfl,ox,oy,b4⟩;have Hp:=b4;have Hk:=hid (Ha.out.below Hp Ha.out.lt);have Hl:=hid (Hb.out.below Hp Hb.out.lt);have Hy:=hid (keepS Hj.out Hp);have Hz:=hid ox;have Ht:=hid oy;have Gb:Hid (w.heap.size+3<=w2.heap.size):=hid (by have h1:=Ga.out;omega);clear ox oy b4 Hp Ho Gf Gg Gh Hn Ha Hb Hj;have Ha:=Hk;have Hb:=Hl;have Hj:=Hy;clear Hk Hl Hy;have TB:=twoB Ha.out Hb.out (show w.heap.size+1≠w.heap.size+1+1 by omega) (.slice ra X.l.length rc) (.slice rx X.n rd) (.slice He Y.l.length Hf) (.slice Hh Y.n Hg);have r0:=Ha.out.c0;have r1:=Ha.out.c1;have rf:=Ha.out.f;have q0:=TB.1.c0;have q1:=TB.1.c1;have qf:=TB.1.f;have Hu:=hid TB.2;clear TB;go_wp2_with fail;obtain⟨X1,X2⟩:=Hu.out;refine zF (v:=.tuple #[.agg #[.slice ra X.l.length rc,.slice rx X.n rd],.agg #[.slice He Y.l.length Hf,.slice Hh Y.n Hg],.int .i64 Cc]) (by simp [results,Tryz.results8,go_sem,X1.c0,X1.c1,X2.c0,X2.c1]) ?_;have hz:=Gb.out;have G3:=below4 Hj.out (show w.heap.size<=w.heap.size+1 by omega) (show w.heap.size<=w.heap.size+1+1 by omega) (.slice ra X.l.length rc) (.slice rx X.n rd) (.slice He Y.l.length Hf) (.slice Hh Y.n Hg);rw [Hd.out.1,Hd.out.2.1,Hd.out.2.2];have Ge:w2.heap.size<=Hc:=Hz.out.hl.1;have G1:=SOw.wide (sow4 (r1:=w.heap.size+1) (r2:=w.heap.size+1+1) Hz.out (show w.heap.size+1<w2.heap.size by omega) (show w.heap.size+1+1<w2.heap.size by omega) (.slice ra X.l.length rc) (.slice rx X.n rd) (.slice He Y.l.length Hf) (.slice Hh Y.n Hg)) (lo':=w.heap.size) (hi':=Hc) (by omega) zL (by simp [World.setCell];exact Nat.le_trans Ht.out.hl.1 Ht.out.hl.2);have G2:=sow4 (r1:=w.heap.size+1) (r2:=w.heap.size+1+1) Ht.out (show w.heap.size+1<Hc by omega) (show w.heap.size+1+1<Hc by omega) (.slice ra X.l.length rc) (.slice rx X.n rd) (.slice He Y.l.length Hf) (.slice Hh Y.n Hg);rw [size4];first
   | exact⟨ra,rc,rx,rd,He,Hf,Hh,Hg,Hc,rfl,G1,G2,G3⟩
   | exact⟨ra,rc,rx,rd,He,Hf,Hh,Hg,rfl,Hc,G1,G2,G3⟩
 ·have HZ:Hid (seX S rep p false true v=Sx.mt/\ seY S rep p false true v=Sx.mt/\ seC S rep p false true v=C):=hid (by
   have:=se_n (S:=S) (rep:=rep) (p:=p) (fl:=false) (on:=true) (v:=v) (by rw [HC.out];exact hz);rw [HC.out] at this;exact this)
  have Gj:(C==0)=false:=by simp [hz]
  have TB:=twoB Ha.out Hb.out (show w.heap.size+1≠w.heap.size+1+1 by omega) (.slice none 0 0) (.slice none 0 0) (.slice none 0 0) (.slice none 0 0);have r0:=Ha.out.c0;have r1:=Ha.out.c1;have rf:=Ha.out.f;have q0:=TB.1.c0;have q1:=TB.1.c1;have qf:=TB.1.f;have Hu:=hid TB.2;clear TB;go_wp2_with fail;try rw [Hn]
  obtain⟨X1,X2⟩:=Hu.out;refine zF (v:=.tuple #[.agg #[.slice none 0 0,.slice none 0 0],.agg #[.slice none 0 0,.slice none 0 0],.int .i64 C]) (by simp [results,Tryz.results8,go_sem,X1.c0,X1.c1,X2.c0,X2.c1]) ?_;rw [HZ.out.1,HZ.out.2.1,HZ.out.2.2];have G3:=below4 Hj.out (show w.heap.size<=w.heap.size+1 by omega) (show w.heap.size<=w.heap.size+1+1 by omega) (.slice none 0 0) (.slice none 0 0) (.slice none 0 0) (.slice none 0 0);have G1:SOw _ w.heap.size w.heap.size none none 0 Sx.mt:=SOw.mt _ Sx.mt rfl rfl _ _ ⟨Nat.le_refl _,G3.size⟩ _ _ _;have G2:SOw _ w.heap.size _ none none 0 Sx.mt:=SOw.emp _ _ _ _ _ G3.size;first
   | exact⟨none,0,none,0,none,0,none,0,w.heap.size,rfl,G1,G2,G3⟩
   | exact⟨none,0,none,0,none,0,none,0,rfl,w.heap.size,G1,G2,G3⟩
theorem implSetFlag (a x pa:Option Addr)(c d pc:Nat)(S:Sx)(rep:Int)(p:List ByteArray)(on:Bool)(w:World)(hm:S.Sm)(hi:∀i,LfI (gL S.l i))(h:SAt w a x S)(hp:p.length<=1048576)(hseg:SSeg w pa p)(hrep:(Lit.int .i64 rep).wf=true):
  Calls Tryz.prog 9 #[.agg #[.slice a S.l.length c,.slice x S.n d],.int .i64 rep,.slice pa p.length pc,.bool on] w fun e w'=>∃a c x d a' c' x' d' Hc,e=.returned (.tuple #[.agg #[.slice a (seX S rep p true on ⟨#[]⟩).l.length c,.slice x (seX S rep p true on ⟨#[]⟩).n d],.agg #[.slice a' (seY S rep p true on ⟨#[]⟩).l.length c',.slice x' (seY S rep p true on ⟨#[]⟩).n d'],.int .i64 (seC S rep p true on ⟨#[]⟩)])/\ SOw w' w.heap.size Hc a x d (seX S rep p true on ⟨#[]⟩)/\ SOw w' Hc w'.heap.size a' x' d' (seY S rep p true on ⟨#[]⟩)/\ Below w.heap.size w w':=by
 have Gl:(⟨#[]⟩:ByteArray).size<=1048576:=by decide
 obtain⟨W,hW⟩:∃W,((w.alloc (.cells #[.slice a S.l.length c,.slice x S.n d] 28)).alloc (.cells #[.slice none 0 0,.slice none 0 0] 28)).alloc (.cells #[.slice none 0 0,.slice none 0 0] 28)=W:=⟨_,rfl⟩;have b0:Below w.heap.size w W:=by rw [<- hW];exact(below2 _ _ _).alloc (by simp;omega) _
 have zW:W.heap.size=w.heap.size+3:=by rw [<- hW];simp
 have A0:Bx2 W w.heap.size (.slice a S.l.length c) (.slice x S.n d):=by rw [<- hW];exact((Bx2.made w _ _ _).allocs _).allocs _
 have R0:Bx2 W (w.heap.size+1) (.slice none 0 0) (.slice none 0 0):=by
  rw [<- hW];have:=Bx2.made (w.alloc (.cells #[.slice a S.l.length c,.slice x S.n d] 28)) (.slice none 0 0) (.slice none 0 0) 28;exact(by simpa using this:Bx2 _ (w.heap.size+1) _ _).allocs _
 have Q0:Bx2 W (w.heap.size+1+1) (.slice none 0 0) (.slice none 0 0):=by
  rw [<- hW];simpa using Bx2.made ((w.alloc (.cells #[.slice a S.l.length c,.slice x S.n d] 28)).alloc (.cells #[.slice none 0 0,.slice none 0 0] 28)) (.slice none 0 0) (.slice none 0 0) 28
 have Gm:=hid A0;have Ga:=hid R0;have H9:=hid Q0;have Ge:=hid b0;have Gj:=hid zW;have k0:=A0.c0;have k1:=A0.c1;have Hm:=hid (openToChangeC a x pa c d pc S p ⟨#[]⟩ W hm hi (h.below b0) hp (hseg.below b0) Gl);have Gh:=hid (hseg.below b0);have Gg:=hid hrep;obtain⟨C,hC⟩:∃C,ocC S p ⟨#[]⟩=C:=⟨_,rfl⟩;rw [hC] at Hm;have HC:=hid hC;clear b0 zW A0 R0 Q0 h hseg hi hm hC hrep;go_enter Tryz.func9,Tryz.ntmps9;go_wp2_with fail;try rw [hW]
 clear hW;refine Hm.out.mono ?_;rintro e w1 ⟨⟨u0,u1,u2,rfl,ho⟩,b1⟩;have Gf:=hid ho;obtain⟨w2,Ho⟩:∃w2,w1.alloc (.cells #[.map u0,.map u1,.map u2] 69)=w2:=⟨_,rfl⟩;have b2:Below w1.heap.size w1 w2:=by rw [<- Ho];exact zO _ _
 have Ht:Hid (Bx3 w2 w1.heap.size (.map u0) (.map u1) (.map u2)):=hid (by rw [<- Ho];exact Bx3.made _ _ _ _ _);have Hw:=hid (keepS b1 b2);have H2:=hid b2;have Hk:=hid (keepS Ge.out Hw.out);have Ha:=hid (Ga.out.below Hw.out Ga.out.lt);have Hb:=hid (H9.out.below Hw.out H9.out.lt);have Gb:=hid (Gh.out.below Hw.out);have Gc:Hid (w.heap.size+3<=w2.heap.size):=hid (by have h1:=Gj.out;have h2:=Hw.out.size;omega);clear b1 b2 ho k0 k1 Hm;by_cases hz:C=0
 ·have H5:ocC S p ⟨#[]⟩=0:=by rw [HC.out];exact hz
  have Hy:=ocC_ok H5;obtain⟨x0,bm,rfl,rfl,rfl,o1⟩:=Gf.out hz;have H8:=hid (o1.below H2.out);have HS:=hid (stB_t Hy.1);have Hx:=hid Hy.2.1;have Gi:=hid Hy.2.2;have Hm:=hid H5;have Hz:=Ht.out.c0;have H0:=Ht.out.c1;have H1:=Ht.out.c2;subst hz;clear o1 Hy H5;cases on with
  | true=>
   have Hp:Hid (seX S rep p true true ⟨#[]⟩=wrX S rep p true ⟨#[]⟩/\ seY S rep p true true ⟨#[]⟩=wrY S rep p true ⟨#[]⟩/\ seC S rep p true true ⟨#[]⟩=wrC S rep p true ⟨#[]⟩):=hid (by
    by_cases hn:nxOk S rep
    ·have z:=se_t (S:=S) (rep:=rep) (p:=p) (fl:=true) (on:=true) (v:=⟨#[]⟩) Hm.out ⟨hn.1,fun _=>hn.2⟩;have t:=wr_t (S:=S) (rep:=rep) (p:=p) (fl:=true) (v:=⟨#[]⟩) hn;exact⟨z.1.trans t.1.symm,z.2.1.trans t.2.1.symm,z.2.2.trans t.2.2.symm⟩
    ·have z:=se_3 (S:=S) (rep:=rep) (p:=p) (fl:=true) (on:=true) (v:=⟨#[]⟩) Hm.out (fun h=>hn ⟨h.1,h.2 rfl⟩);have t:=wr_f (S:=S) (rep:=rep) (p:=p) (fl:=true) (v:=⟨#[]⟩) hn;exact⟨z.1.trans t.1.symm,z.2.1.trans t.2.1.symm,z.2.2.trans t.2.2.symm⟩)
   have Gk:kd true=2:=rfl;have Hn:=hid (writeC rep p pa pc true ⟨#[]⟩ w2 H8.out HS.out Hx.out Gi.out (by simp [emB]) Gg.out Gb.out);obtain⟨X,hX⟩:∃X,seX S rep p true true ⟨#[]⟩=X:=⟨_,rfl⟩;obtain⟨Y,hY⟩:∃Y,seY S rep p true true ⟨#[]⟩=Y:=⟨_,rfl⟩;obtain⟨Cc,Hs⟩:∃Cc,seC S rep p true true ⟨#[]⟩=Cc:=⟨_,rfl⟩;rw [<- Hp.out.1,<- Hp.out.2.1,<- Hp.out.2.2,hX,hY,Hs] at Hn;have Hd:=hid (And.intro hX (And.intro hY Hs));clear hX hY Hs;rw [Gk] at Hn;go_wp2_with fail;try rw [Ho]
   refine Hn.out.mono ?_;rintro e w4 ⟨ra,rc,rx,rd,He,Hf,Hh,Hg,Hc,rfl,ox,oy,b4⟩;have Hl:=b4;have Hi:=hid (Ha.out.below Hl Ha.out.lt);have Hj:=hid (Hb.out.below Hl Hb.out.lt);have Hu:=hid (keepS Hk.out Hl);have Hv:=hid ox;have Hq:=hid oy;have H3:Hid (w.heap.size+3<=w2.heap.size):=hid (by have h1:=Gc.out;omega);clear ox oy b4 Hl Hn Hz H0 H1 Ho Ha Hb Hk;have Ha:=Hi;have Hb:=Hj;have Hk:=Hu;clear Hi Hj Hu;have TB:=twoB Ha.out Hb.out (show w.heap.size+1≠w.heap.size+1+1 by omega) (.slice ra X.l.length rc) (.slice rx X.n rd) (.slice He Y.l.length Hf) (.slice Hh Y.n Hg);have r0:=Ha.out.c0;have r1:=Ha.out.c1;have rf:=Ha.out.f;have q0:=TB.1.c0;have q1:=TB.1.c1;have qf:=TB.1.f;have Hr:=hid TB.2;clear TB;go_wp2_with fail;obtain⟨X1,X2⟩:=Hr.out;refine zF (v:=.tuple #[.agg #[.slice ra X.l.length rc,.slice rx X.n rd],.agg #[.slice He Y.l.length Hf,.slice Hh Y.n Hg],.int .i64 Cc]) (by simp [results,Tryz.results9,go_sem,X1.c0,X1.c1,X2.c0,X2.c1]) ?_;have hz:=H3.out;have G3:=below4 Hk.out (show w.heap.size<=w.heap.size+1 by omega) (show w.heap.size<=w.heap.size+1+1 by omega) (.slice ra X.l.length rc) (.slice rx X.n rd) (.slice He Y.l.length Hf) (.slice Hh Y.n Hg);rw [Hd.out.1,Hd.out.2.1,Hd.out.2.2];have H4:w2.heap.size<=Hc:=Hv.out.hl.1;have G1:=SOw.wide (sow4 (r1:=w.heap.size+1) (r2:=w.heap.size+1+1) Hv.out (show w.heap.size+1<w2.heap.size by omega) (show w.heap.size+1+1<w2.heap.size by omega) (.slice ra X.l.length rc) (.slice rx X.n rd) (.slice He Y.l.length Hf) (.slice Hh Y.n Hg)) (lo':=w.heap.size) (hi':=Hc) (by omega) zL (by simp [World.setCell];exact Nat.le_trans Hq.out.hl.1 Hq.out.hl.2);have G2:=sow4 (r1:=w.heap.size+1) (r2:=w.heap.size+1+1) Hq.out (show w.heap.size+1<Hc by omega) (show w.heap.size+1+1<Hc by omega) (.slice ra X.l.length rc) (.slice rx X.n rd) (.slice He Y.l.length Hf) (.slice Hh Y.n Hg);rw [size4];first
    | exact⟨ra,rc,rx,rd,He,Hf,Hh,Hg,Hc,rfl,G1,G2,G3⟩
    | exact⟨ra,rc,rx,rd,He,Hf,Hh,Hg,rfl,Hc,G1,G2,G3⟩
  | false=>
   by_cases hr:0<=rep/\ rep<8
   ·have HR:=hid (repOk_yes rep w2 hr.1 hr.2);obtain⟨w3,H6⟩:∃w3,w2.alloc (.cells #[.int .i64 2] 3)=w3:=⟨_,rfl⟩;have b3:Below w2.heap.size w2 w3:=by rw [<- H6];exact zO _ _
    have Gd:ISeg w3 w2.heap.size [2]:=by rw [<- H6];exact iseg_one _ _
    have H7:=hid b3;have Hp:Hid (seX S rep p true false ⟨#[]⟩=chX S (dlS (gnS p true) S.l [])/\ seY S rep p true false ⟨#[]⟩=chY S (dlS (gnS p true) S.l [])/\ seC S rep p true false ⟨#[]⟩=chC S (dlS (gnS p true) S.l [])):=hid (se_t (S:=S) (rep:=rep) (p:=p) (fl:=true) (on:=false) (v:=⟨#[]⟩) Hm.out ⟨hr,fun h=>by cases h⟩);have Hn:=hid (takeBackC (gnS p true) p pa pc w2.heap.size 1 [2] w3 (H8.out.below b3) HS.out hp (pth_size Hx.out) (fun k hk=>by rw [List.mem_singleton.1 hk];decide) (by simp) (by have h1:=cW3 (p:=p) Hx.out.1 S.l;have h2:=HS.out.2.1;simp;omega) (fun x hx=>by rw [<- way_gnS (p:=p) (fl:=true) (x:=x) Hx.out.1];exact⟨fun e=>⟨2,by simp,e⟩,fun⟨k,hk,e⟩=>by rw [List.mem_singleton.1 hk] at e;exact e⟩) (Gb.out.below b3) Gd);obtain⟨X,hX⟩:∃X,seX S rep p true false ⟨#[]⟩=X:=⟨_,rfl⟩;obtain⟨Y,hY⟩:∃Y,seY S rep p true false ⟨#[]⟩=Y:=⟨_,rfl⟩;obtain⟨Cc,Hs⟩:∃Cc,seC S rep p true false ⟨#[]⟩=Cc:=⟨_,rfl⟩;rw [<- Hp.out.1,<- Hp.out.2.1,<- Hp.out.2.2,hX,hY,Hs] at Hn;have Hd:=hid (And.intro hX (And.intro hY Hs));clear hX hY Hs;go_wp2_with fail;try rw [Ho]
    refine HR.out.mono ?_;rintro e w9 ⟨rfl,rfl⟩;clear HR hr b3 Gd;have Hz:=Ht.out.c0;have H0:=Ht.out.c1;have H1:=Ht.out.c2;go_wp2_with fail;try rw [H6]
    refine Hn.out.mono ?_;rintro e w4 ⟨ra,rc,rx,rd,He,Hf,Hh,Hg,Hc,rfl,ox,oy,b4⟩;have Hl:=keepS H7.out b4;have Hi:=hid (Ha.out.below Hl Ha.out.lt);have Hj:=hid (Hb.out.below Hl Hb.out.lt);have Hu:=hid (keepS Hk.out Hl);have Hv:=hid ox;have Hq:=hid oy;have H3:Hid (w.heap.size+3<=w3.heap.size):=hid (by have h1:=Gc.out;have h3:=H7.out.size;omega);clear ox oy b4 Hl Hn Hz H0 H1 Ha Hb Hk;have Ha:=Hi;have Hb:=Hj;have Hk:=Hu;clear Hi Hj Hu;have TB:=twoB Ha.out Hb.out (show w.heap.size+1≠w.heap.size+1+1 by omega) (.slice ra X.l.length rc) (.slice rx X.n rd) (.slice He Y.l.length Hf) (.slice Hh Y.n Hg);have r0:=Ha.out.c0;have r1:=Ha.out.c1;have rf:=Ha.out.f;have q0:=TB.1.c0;have q1:=TB.1.c1;have qf:=TB.1.f;have Hr:=hid TB.2;clear TB;go_wp2_with fail;obtain⟨X1,X2⟩:=Hr.out;refine zF (v:=.tuple #[.agg #[.slice ra X.l.length rc,.slice rx X.n rd],.agg #[.slice He Y.l.length Hf,.slice Hh Y.n Hg],.int .i64 Cc]) (by simp [results,Tryz.results9,go_sem,X1.c0,X1.c1,X2.c0,X2.c1]) ?_;have hz:=H3.out;have G3:=below4 Hk.out (show w.heap.size<=w.heap.size+1 by omega) (show w.heap.size<=w.heap.size+1+1 by omega) (.slice ra X.l.length rc) (.slice rx X.n rd) (.slice He Y.l.length Hf) (.slice Hh Y.n Hg);rw [Hd.out.1,Hd.out.2.1,Hd.out.2.2];have H4:w3.heap.size<=Hc:=Hv.out.hl.1;have G1:=SOw.wide (sow4 (r1:=w.heap.size+1) (r2:=w.heap.size+1+1) Hv.out (show w.heap.size+1<w3.heap.size by omega) (show w.heap.size+1+1<w3.heap.size by omega) (.slice ra X.l.length rc) (.slice rx X.n rd) (.slice He Y.l.length Hf) (.slice Hh Y.n Hg)) (lo':=w.heap.size) (hi':=Hc) (by omega) zL (by simp [World.setCell];exact Nat.le_trans Hq.out.hl.1 Hq.out.hl.2);have G2:=sow4 (r1:=w.heap.size+1) (r2:=w.heap.size+1+1) Hq.out (show w.heap.size+1<Hc by omega) (show w.heap.size+1+1<Hc by omega) (.slice ra X.l.length rc) (.slice rx X.n rd) (.slice He Y.l.length Hf) (.slice Hh Y.n Hg);rw [size4];first
     | exact⟨ra,rc,rx,rd,He,Hf,Hh,Hg,Hc,rfl,G1,G2,G3⟩
     | exact⟨ra,rc,rx,rd,He,Hf,Hh,Hg,rfl,Hc,G1,G2,G3⟩
   ·have HR:=hid (repOk_no rep w2 hr);have HZ:=hid (se_3 (S:=S) (rep:=rep) (p:=p) (fl:=true) (on:=false) (v:=⟨#[]⟩) Hm.out (fun h=>hr h.1));clear hr;go_wp2_with fail;try rw [Ho]
    refine HR.out.mono ?_;rintro e w9 ⟨rfl,rfl⟩;clear HR Ho Hz H0 H1;have TB:=twoB Ha.out Hb.out (show w.heap.size+1≠w.heap.size+1+1 by omega) (.slice none 0 0) (.slice none 0 0) (.slice none 0 0) (.slice none 0 0);have r0:=Ha.out.c0;have r1:=Ha.out.c1;have rf:=Ha.out.f;have q0:=TB.1.c0;have q1:=TB.1.c1;have qf:=TB.1.f;have Hr:=hid TB.2;clear TB;go_wp2_with fail;obtain⟨X1,X2⟩:=Hr.out;refine zF (v:=.tuple #[.agg #[.slice none 0 0,.slice none 0 0],.agg #[.slice none 0 0,.slice none 0 0],.int .i64 3]) (by simp [results,Tryz.results9,go_sem,X1.c0,X1.c1,X2.c0,X2.c1]) ?_;rw [HZ.out.1,HZ.out.2.1,HZ.out.2.2];have G3:=below4 Hk.out (show w.heap.size<=w.heap.size+1 by omega) (show w.heap.size<=w.heap.size+1+1 by omega) (.slice none 0 0) (.slice none 0 0) (.slice none 0 0) (.slice none 0 0);have G1:SOw _ w.heap.size w.heap.size none none 0 Sx.mt:=SOw.mt _ Sx.mt rfl rfl _ _ ⟨Nat.le_refl _,G3.size⟩ _ _ _;have G2:SOw _ w.heap.size _ none none 0 Sx.mt:=SOw.emp _ _ _ _ _ G3.size;first
     | exact⟨none,0,none,0,none,0,none,0,w.heap.size,rfl,G1,G2,G3⟩
     | exact⟨none,0,none,0,none,0,none,0,rfl,w.heap.size,G1,G2,G3⟩
 ·have HZ:Hid (seX S rep p true on ⟨#[]⟩=Sx.mt/\ seY S rep p true on ⟨#[]⟩=Sx.mt/\ seC S rep p true on ⟨#[]⟩=C):=hid (by
   have:=se_n (S:=S) (rep:=rep) (p:=p) (fl:=true) (on:=on) (v:=⟨#[]⟩) (by rw [HC.out];exact hz);rw [HC.out] at this;exact this)
  have Gn:(C==0)=false:=by simp [hz]
  have TB:=twoB Ha.out Hb.out (show w.heap.size+1≠w.heap.size+1+1 by omega) (.slice none 0 0) (.slice none 0 0) (.slice none 0 0) (.slice none 0 0);have r0:=Ha.out.c0;have r1:=Ha.out.c1;have rf:=Ha.out.f;have q0:=TB.1.c0;have q1:=TB.1.c1;have qf:=TB.1.f;have Hr:=hid TB.2;clear TB;go_wp2_with fail;try rw [Ho]
  obtain⟨X1,X2⟩:=Hr.out;refine zF (v:=.tuple #[.agg #[.slice none 0 0,.slice none 0 0],.agg #[.slice none 0 0,.slice none 0 0],.int .i64 C]) (by simp [results,Tryz.results9,go_sem,X1.c0,X1.c1,X2.c0,X2.c1]) ?_;rw [HZ.out.1,HZ.out.2.1,HZ.out.2.2];have G3:=below4 Hk.out (show w.heap.size<=w.heap.size+1 by omega) (show w.heap.size<=w.heap.size+1+1 by omega) (.slice none 0 0) (.slice none 0 0) (.slice none 0 0) (.slice none 0 0);have G1:SOw _ w.heap.size w.heap.size none none 0 Sx.mt:=SOw.mt _ Sx.mt rfl rfl _ _ ⟨Nat.le_refl _,G3.size⟩ _ _ _;have G2:SOw _ w.heap.size _ none none 0 Sx.mt:=SOw.emp _ _ _ _ _ G3.size;first
   | exact⟨none,0,none,0,none,0,none,0,w.heap.size,rfl,G1,G2,G3⟩
   | exact⟨none,0,none,0,none,0,none,0,rfl,w.heap.size,G1,G2,G3⟩
structure Dr (S:Sx):Prop where
 vd:Vd S
 t:I64 S.T
theorem gR_far {u:List Rn}{i:Nat}(h:¬i<u.length):gR u i=(0,0,0):=by simp [gR,List.getD,h]
theorem fs_i64 {u:List Rn}(h:FSrt u):I64 fun i=>(gR u i).2.2:=fun i=>by
 by_cases hi:i<u.length
 ·have e:gR u i=u[i]:=by simp [gR,List.getD,hi]
  have:=h.2 _ (List.getElem_mem hi);unfold Rok at this;simp only [e];omega
 ·simp only [gR_far hi];omega
theorem vd_sm {S:Sx}(h:Vd S):S.Sm:=⟨by have:=h.2.1;omega,fun i=>by
 by_cases hi:i<S.l.length
 ·have:=(ok_pth h i hi).2;omega
 ·rw [gL_far hi];simp,by have:=(ctxB_iff.1 h.1).2;omega⟩
theorem Dr.mt:Dr Sx.mt:=⟨mt_vd,fun i=>by simp [Sx.mt]⟩
theorem Dr.jn {S S':Sx}(h:Dr S)(h':Dr S')(hf:jnF S S'=true):Dr (jnS S S'):=by
 refine⟨jn_vd h.vd h'.vd hf,?_⟩;have:=(jn_u h.vd h'.vd).1;rw [jnS_eq,fS_mk] at this;rw [jnS_eq];exact fs_i64 this
theorem dr_ch {S:Sx}{g:Lf ->Prop}{P:List Lf}(h:Vd S)(hp:PtO S P)(hf:chC S (dlS g S.l P)=0):Dr (chX S (dlS g S.l P))/\ Dr (chY S (dlS g S.l P)):=by
 cases hc:chF S (dlS g S.l P) with
 | false=>rw [(ch_f hc).2.2] at hf;cases hf
 | true=>
  rw [(ch_t hc).1,(ch_t hc).2.1];unfold chF at hc;simp only [Bool.and_eq_true,decide_eq_true_eq] at hc;obtain⟨hj,h1,h2⟩:=hc;have hw:=dl_w (g:=g) h hp;have hD:Dr (dlS g S.l P):=⟨⟨ctxB_iff.2 ⟨hw.1.1,h2⟩,hw.2⟩,fs_i64 (dlU_ok h hp).1⟩;refine⟨⟨jn_vd h hD.vd hj,?_⟩,hD⟩;have:=(jn_u h hD.vd).1;rw [jnS_eq,fS_mk] at this;rw [jnS_eq];exact fs_i64 this
theorem dr_se {S:Sx}{rep:Int}{p:List ByteArray}{fl on:Bool}{v:ByteArray}(h:Vd S)(hfv:fl=true ->emB v=true)(hc:seC S rep p fl on v=0):Dr (seX S rep p fl on v)/\ Dr (seY S rep p fl on v):=by
 by_cases h0:ocC S p v=0
 ·obtain⟨_,hp,hv⟩:=ocC_ok h0;by_cases h1:seOk S rep on
  ·obtain⟨e1,e2,e3⟩:=se_t (p:=p) (fl:=fl) (v:=v) h0 h1;rw [e1,e2];rw [e3] at hc;exact dr_ch h (se_pto h hp hv hfv h1) hc
  ·rw [(se_3 h0 h1).2.2] at hc;cases hc
 ·rw [(se_n h0).2.2] at hc;exact absurd hc h0
theorem dr_rm {S:Sx}{p:List ByteArray}(h:Vd S)(hc:rmC S p=0):Dr (rmX S p)/\ Dr (rmY S p):=by
 by_cases h0:ocC S p ⟨#[]⟩=0
 ·obtain⟨e1,e2,e3⟩:=rm_t h0;rw [e1,e2];rw [e3] at hc;exact dr_ch h (PtO.nil S) hc
 ·rw [(rm_f h0).2.2] at hc;exact absurd hc h0
def ChP (w:World)(X Y:Sx)(C:Int)(e:Ending)(w':World):Prop:=∃a m x t a' m' x' t',e=.returned (.tuple #[.agg #[.slice a X.l.length m,.slice x X.n t],.agg #[.slice a' Y.l.length m',.slice x' Y.n t'],.int .i64 C])/\ SNc w' w.heap.size a x X/\ SNc w' w.heap.size a' x' Y/\ Below w.heap.size w w'
def AcP (f:Nat ->Int)(n x:Nat)(S:Sx)(rep:Nat)(S1 S2:Sx)(x':Nat):Prop:=(Dr S1/\ Dr S2)/\∀(B lo rb:Nat) (a xa:Option Addr) (c d:Nat) (w:World),B<=lo ->lo<=w.heap.size ->RdJ w B rb f n x ->SNc w lo a xa S ->
  Calls Tryz.prog 70 #[.pointer (some ⟨rb,0,none⟩),.agg #[.slice a S.l.length c,.slice xa S.n d],.int .i64 (rep:Int)] w fun e w'=>∃a1 c1 x1 d1 a2 c2 x2 d2,e=.returned (.tuple #[.agg #[.slice a1 S1.l.length c1,.slice x1 S1.n d1],.agg #[.slice a2 S2.l.length c2,.slice x2 S2.n d2]])/\ SNc w' lo a1 x1 S1/\ SNc w' lo a2 x2 S2/\ RdJ w' B rb f n x'/\ w.grownBy w' (some rb)
theorem SNc.gr {w w1:World}{lo rb:Nat}{a x:Option Addr}{S:Sx}(h:SNc w lo a x S)(hg:w.grownBy w1 (some rb))(hr:rb<lo):SNc w1 lo a x S:=h.move zL hg.size (fun q h1 h2=>hg.block q h2 (fun e=>by injection e with e;omega))
theorem grownBelow {w w1 w2:World}{rb B:Nat}(h1:w.grownBy w1 (some rb))(h2:Below B w1 w2)(hB:w.heap.size<=B):w.grownBy w2 (some rb):=
 ⟨h2.os.trans h1.os,h2.tape.trans h1.tape,h2.output.trans h1.output,Nat.le_trans h1.size h2.size,fun k hk hne=>(h2.block k (by omega)).trans (h1.block k hk hne)⟩
structure Gd (S:Sx):Prop where
 sm:S.Sm
 li:∀i,LfI (gL S.l i)
 t:I64 S.T
def wdN (i:Nat):List Int:=[97+(i:Int)/100,48+(i:Int)/10%10,48+(i:Int)%10]
def wdL (rep:Nat)(fl:Bool)(k:Nat):List Lf:=(List.range k).map fun i=>⟨[txJ (wdN i)],fl,rep,((i+1:Nat):Int),⟨#[]⟩⟩
theorem wdL_len (rep:Nat)(fl:Bool)(k:Nat):(wdL rep fl k).length=k:=by simp [wdL]
theorem wdL_succ (rep:Nat)(fl:Bool)(k:Nat):wdL rep fl (k+1)=wdL rep fl k++[⟨[txJ (wdN k)],fl,rep,((k+1:Nat):Int),⟨#[]⟩⟩]:=by simp [wdL,List.range_succ]
theorem wdL_at (rep:Nat)(fl:Bool)(k i:Nat):(gL (wdL rep fl k) i).p.length<=1/\ (i<k ->gL (wdL rep fl k) i=⟨[txJ (wdN i)],fl,rep,((i+1:Nat):Int),⟨#[]⟩⟩):=by
 by_cases h:i<k
 ·have e:gL (wdL rep fl k) i=⟨[txJ (wdN i)],fl,rep,((i+1:Nat):Int),⟨#[]⟩⟩:=by simp [gL,List.getD,wdL,h]
  exact⟨by rw [e];simp,fun _=>e⟩
 ·exact⟨by simp [gL,List.getD,wdL,h],fun h'=>absurd h' h⟩
def wdS (n rep:Nat)(fl:Bool):Sx:=⟨wdL rep fl n,1,fun _=>rep,fun _=>1,fun _=>n⟩
theorem wdS_gd {n rep:Nat}{fl:Bool}(hn:n<=1000)(hr:rep<8):Gd (wdS n rep fl):=by
 refine⟨⟨by show (wdL rep fl n).length<=_;rw [wdL_len];omega,fun i=> ?_,by show 1<=_;omega⟩,fun i=> ?_,fun i=> ?_⟩
 ·have:=(wdL_at rep fl n i).1;show (gL (wdL rep fl n) i).p.length<=_;omega
 ·show LfI (gL (wdL rep fl n) i);by_cases h:i<n
  ·rw [(wdL_at rep fl n i).2 h];exact⟨wfI (by simp<;>omega) (by simp<;>omega),wfI (by simp<;>omega) (by simp<;>omega)⟩
  ·have e:gL (wdL rep fl n) i=⟨[],false,0,0,ByteArray.empty⟩:=by simp [gL,List.getD,wdL,h]
   rw [e];exact⟨by decide,by decide⟩
 ·show _<=(n:Int)/\ (n:Int)<=_;omega
theorem LC.setB {w:World}{lo b i:Nat}{v u:Value}{l:List Lf}{P Q:Nat ->Nat}(h:LC w lo v l P Q)(hv:v.ownBlock≠some b)(hP:∀j,j<l.length ->P j≠b):LC (w.setCell ⟨b,i,none⟩ u) lo v l P Q:=
 ⟨own_at5 h.row (fun g hg=>zH _ _ _ _ (fun e=>hv (by rw [hg,e]))),fun j hj=>by
  obtain⟨e1,e2,e3,e4⟩:=h.pt j hj;exact⟨e1,by simpa [World.setCell] using e2,e3,e4.1.same (zH _ _ _ _ (fun e=>hP j hj e)),e4.2⟩⟩
structure WdS (w wr:World)(rep:Nat)(fl:Bool)(j g c:Nat)(P Q:Nat ->Nat):Prop where
 bx:Bx2 wr (w.heap.size+1+1) (.slice (some ⟨g,0,none⟩) j c) (.slice none 0 0)
 lc:LC wr (w.heap.size+1) (.slice (some ⟨g,0,none⟩) j c) (wdL rep fl j) P Q
 gb:g≠w.heap.size+1+1
 pb:∀i,i<j ->P i≠w.heap.size+1+1
 rs:Bx2 wr w.heap.size (.slice none 0 0) (.slice none 0 0)
 low:Below w.heap.size w wr
 sz:w.heap.size+3<=wr.heap.size
theorem wideJ (n rep:Nat)(od:Bool)(hn:n<=1000)(hrep:rep<8)(w:World):
  Calls Tryz.prog 22 #[.int .i64 (n:Int),.int .i64 (rep:Int),.int .i64 (if od then 1 else 0)] w fun e w'=>∃a c x d,e=.returned (.agg #[.slice a (wdS n rep od).l.length c,.slice x (wdS n rep od).n d])/\ SNc w' w.heap.size a x (wdS n rep od)/\ Below w.heap.size w w':=by
 obtain⟨i0,hi,H6,H7,H8⟩:=info_parts infoLeaf;obtain⟨o,ho⟩:∃o:Int,(if od then(1:Int) else 0)=o:=⟨_,rfl⟩;have H5:(o==1)=od:=by rw [<- ho];cases od<;>rfl
 rw [ho];have HI:Hid (WdS w (((w.alloc (.cells #[.slice none 0 0,.slice none 0 0] 28)).alloc (.cells #[] 60)).alloc (.cells #[.slice (some ⟨w.heap.size+1,0,none⟩) 0 0,.slice none 0 0] 28)) rep od 0 (w.heap.size+1) 0 (fun _=>0) (fun _=>0)):=hid (by
  have R:=World.ownsRow_lit (base:=w.heap.size+1) (e:=60) (size:=5) (w.alloc (.cells #[.slice none 0 0,.slice none 0 0] 28)) #[] 0 (by simp) (by unfold maxLen;omega) rfl;refine⟨?_,⟨?_,fun i hi=>by simp [wdL] at hi⟩,by omega,fun i hi=>by omega,((Bx2.made w _ _ _).allocs _).allocs _,(below2 _ _ _).alloc (by simp;omega) _,by simp⟩
  ·simpa using Bx2.made ((w.alloc (.cells #[.slice none 0 0,.slice none 0 0] 28)).alloc (.cells #[] 60)) (.slice (some ⟨w.heap.size+1,0,none⟩) 0 0) (.slice none 0 0) 28
  ·have R2:=own_at5 R (fun g hg=>(zO _ (.cells #[.slice (some ⟨w.heap.size+1,0,none⟩) 0 0,.slice none 0 0] 28)).block g (R.lt g hg).2);simpa [wdL] using R2)
 clear ho;go_enter Tryz.func22,Tryz.ntmps22;go_wp2_with fail;obtain⟨W3,Hm⟩:∃W3,(((w.alloc (.cells #[.slice none 0 0,.slice none 0 0] 28)).alloc (.cells #[] 60)).alloc (.cells #[.slice (some ⟨w.heap.size+1,0,none⟩) 0 0,.slice none 0 0] 28))=W3:=⟨_,rfl⟩;rw [Hm] at HI;try rw [Hm]
 clear Hm;go_loopw [8] (fun i wr=>∃(j g c:Nat) (P Q:Nat ->Nat),j<=n/\ i=.int .i64 (j:Int)/\ Hid (WdS w wr rep od j g c P Q)) (fun i _=>n - (intOf i).toNat);case atStart=>exact⟨0,_,_,_,_,Nat.zero_le _,rfl,HI⟩
 case round=>
  clear HI;obtain⟨j,g,c,P,Q,hj,rfl,HS⟩:=hrel;by_cases H3:j<n
  ·have i1:(j:Int)<(n:Int):=by omega
   obtain⟨z1,Ht⟩:∃z:Nat,97+j/100=z:=⟨_,rfl⟩;obtain⟨z2,Hu⟩:∃z:Nat,48+j/10%10=z:=⟨_,rfl⟩;obtain⟨z3,Hv⟩:∃z:Nat,48+j%10=z:=⟨_,rfl⟩;have Hp:(j:Int)<1000:=by omega
   have w1:IntKind.i64.wrap (97+(j:Int)/100)=(z1:Int):=by rw [show 97+(j:Int)/100=(z1:Int) by omega];exact wrapIn _ (by omega) (by omega)
   have w2:IntKind.i64.wrap (48+(j:Int)/10%10)=(z2:Int):=by rw [show 48+(j:Int)/10%10=(z2:Int) by omega];exact wrapIn _ (by omega) (by omega)
   have w3:IntKind.i64.wrap (48+(j:Int)%10)=(z3:Int):=by rw [show 48+(j:Int)%10=(z3:Int) by omega];exact wrapIn _ (by omega) (by omega)
   have v1:IntKind.u8.wrap (z1:Int)=(z1:Int):=by rw [IntKind.wrap_u8];omega
   have v2:IntKind.u8.wrap (z2:Int)=(z2:Int):=by rw [IntKind.wrap_u8];omega
   have v3:IntKind.u8.wrap (z3:Int)=(z3:Int):=by rw [IntKind.wrap_u8];omega
   have Hw:wdN j=[(z1:Int),(z2:Int),(z3:Int)]:=by unfold wdN;rw [show 97+(j:Int)/100=(z1:Int) by omega,show 48+(j:Int)/10%10=(z2:Int) by omega,show 48+(j:Int)%10=(z3:Int) by omega]
   obtain⟨tx,Hs⟩:∃tx,txJ (wdN j)=tx:=⟨_,rfl⟩;have H4:(convert 22 9 (.slice (some ⟨wr.heap.size,0,none⟩) 3 3)).run Tryz.prog (wr.alloc (.cells #[.int .u8 (z1:Int),.int .u8 (z2:Int),.int .u8 (z3:Int)] 5))=.ok (.string tx) (wr.alloc (.cells #[.int .u8 (z1:Int),.int .u8 (z2:Int),.int .u8 (z3:Int)] 5)):=by
    have hO:Own (wr.alloc (.cells #[.int .u8 (z1:Int),.int .u8 (z2:Int),.int .u8 (z3:Int)] 5)) wr.heap.size (.slice (some ⟨wr.heap.size,0,none⟩) 3 3) (wdN j):=by
     rw [Hw];exact World.ownsRow_lit (base:=wr.heap.size) (e:=5) (size:=1) wr #[.int .u8 (z1:Int),.int .u8 (z2:Int),.int .u8 (z3:Int)] 3 zL (by unfold maxLen;omega) rfl
    have:=strOwnJ ⟨hO,fun z hz=>by rw [Hw] at hz;simp at hz;omega⟩ 0;rw [World.drewN_zero,Hs] at this;exact this
   have bB:Below wr.heap.size wr ((wr.alloc (.cells #[.int .u8 (z1:Int),.int .u8 (z2:Int),.int .u8 (z3:Int)] 5)).alloc (.cells #[.string tx] 9)):=below2 _ _ _;have zB:((wr.alloc (.cells #[.int .u8 (z1:Int),.int .u8 (z2:Int),.int .u8 (z3:Int)] 5)).alloc (.cells #[.string tx] 9)).heap.size=wr.heap.size+1+1:=by simp
   have Hr:=HS.out.sz;have Ho:=(HS.out.lc.lt g rfl);have hR:((wr.alloc (.cells #[.int .u8 (z1:Int),.int .u8 (z2:Int),.int .u8 (z3:Int)] 5)).alloc (.cells #[.string tx] 9)).ownsRow (wr.heap.size+1) 9 1 (.slice (some ⟨wr.heap.size+1,0,none⟩) 1 1) 1 ((List.range (1*1)).map fun t=> .string (gS [tx] t)):=by
    have:=World.ownsRow_lit (base:=wr.heap.size+1) (e:=9) (size:=1) (wr.alloc (.cells #[.int .u8 (z1:Int),.int .u8 (z2:Int),.int .u8 (z3:Int)] 5)) #[.string tx] 1 (by simp) (by unfold maxLen;omega) rfl;simpa [gS] using this
   obtain⟨g',c',w7,Hb,Hc,Ha⟩:=LC.app HS.out.lc bB (by omega) (by rw [wdL_len];omega) ⟨[tx],od,rep,((j+1:Nat):Int),⟨#[]⟩⟩ (wr.heap.size+1) 1 (by omega) (by rw [zB];omega) (fun e=>by simp [Value.ownBlock] at e;omega) (by simpa using own_wrF hR) (by simp);rw [zB,wdL_len] at Hb;rw [wdL_len] at Hc Ha;have Hn:g'≠w.heap.size+1+1:=by
    have h1:=HS.out.gb;rcases Ha.l with e|⟨q,e,hq⟩
    ·simp [Value.ownBlock] at e;omega
    ·simp [Value.ownBlock] at e;rw [zB] at hq;omega
   have Hl:∀i,i<j+1 ->(if i=j then wr.heap.size+1 else P i)≠w.heap.size+1+1:=fun i hi=>by
    by_cases e:i=j
    ·rw [if_pos e];omega
    ·rw [if_neg e];exact HS.out.pb i (by omega)
   have Hx:∀b,g≠b ->∀k,(Value.slice (some ⟨g,0,none⟩) j c).ownBlock=some k ->k≠b:=fun b hb k e e2=>hb (by simp [Value.ownBlock] at e;omega);have Hi:=(HS.out.bx.below bB HS.out.bx.lt).gr Ha.g (Hx _ HS.out.gb);have Hh:=(HS.out.rs.below bB HS.out.rs.lt).gr Ha.g (Hx _ (by omega));have Hf:Below w.heap.size w w7:=(HS.out.low.trans (bB.mono (by omega))).trans (Ha.below (by rw [zB];omega) (fun k e=>by simp [Value.ownBlock] at e;omega));have z7:=Ha.g.size;rw [zB] at z7;have HN:Hid (WdS w (w7.setCell ⟨w.heap.size+1+1,0,none⟩ (.slice (some ⟨g',0,none⟩) (j+1) c')) rep od (j+1) g' c' (fun i=>if i=j then wr.heap.size+1 else P i) (fun i=>if i=j then 1 else Q i)):=hid (by
    refine⟨Hi.set0 _,?_,Hn,Hl,Hh.setAt _ _ (by show w.heap.size+1+1≠w.heap.size;omega),Hf.setCell (p:=⟨w.heap.size+1+1,0,none⟩) (by simp;omega) _,by simp [World.setCell];omega⟩;have l8:wdL rep od (j+1)=wdL rep od j++[⟨[tx],od,rep,((j+1:Nat):Int),⟨#[]⟩⟩]:=by rw [wdL_succ,Hs]
    rw [l8];exact Hc.setB (fun e=>Hn (by simpa [Value.ownBlock] using e)) (fun i hi=>Hl i (by simpa [wdL_len] using hi)))
   have x0:=HS.out.bx.c0;have x1:=(HS.out.bx.allocs (.cells #[.int .u8 (z1:Int),.int .u8 (z2:Int),.int .u8 (z3:Int)] 5)).c0;have x2:=(HS.out.bx.below bB HS.out.bx.lt).c0;have y0:=Hi.c0;have yf:=Hi.f;have wj:IntKind.i64.wrap ((j:Int)+1)=((j+1:Nat):Int):=by rw [show (j:Int)+1=((j+1:Nat):Int) by omega];exact wrapIn _ (by omega) (by omega)
   clear Hw Hs bB zB Hr Ho hR Hc Ha Hn Hl Hx Hi Hh Hf z7 Ht Hu Hv HS;go_wp2_with (at_builtin;refine wpList_app2 rfl _ _ _ _ rfl Hb (by rfl) (by rfl) rfl ?_;clear Hb);go_roundw;case rel=>exact⟨j+1,_,_,_,_,H3,by go_num,HN⟩
   case measure=>simp [intOf];omega
  ·obtain rfl:j=n:=by omega
   have i1:¬(j:Int)<(j:Int):=by omega
   have Hr:=HS.out.sz;have Ho:=(HS.out.lc.lt g rfl);obtain⟨W5,He⟩:∃W5,wr.alloc (.cells #[.int .i64 (rep:Int),.int .i64 1,.int .i64 (j:Int)] 96)=W5:=⟨_,rfl⟩;have b5:Below wr.heap.size wr W5:=by rw [<- He];exact zO _ _
   have z5:W5.heap.size=wr.heap.size+1:=by rw [<- He];simp
   have q0:W5.cell? ⟨wr.heap.size,0,none⟩=some (.int .i64 (rep:Int)):=by rw [<- He];simp
   have q1:W5.cell? ⟨wr.heap.size,1,none⟩=some (.int .i64 1):=by rw [<- He];simp
   have q2:W5.cell? ⟨wr.heap.size,2,none⟩=some (.int .i64 (j:Int)):=by rw [<- He];simp
   have Hd:=HS.out.bx.below b5 HS.out.bx.lt;have H1:=HS.out.rs.below b5 HS.out.rs.lt;have H0:=HS.out.lc.below b5;have Hk:=Hd.set1 (.slice (some ⟨wr.heap.size,0,none⟩) 1 1);have Hg:=H1.setAt ⟨w.heap.size+1+1,1,none⟩ (.slice (some ⟨wr.heap.size,0,none⟩) 1 1) (by show w.heap.size+1+1≠w.heap.size;omega);have Hh:=Hg.set (.slice (some ⟨g,0,none⟩) j c) (.slice (some ⟨wr.heap.size,0,none⟩) 1 1);have Hq:∀i,i<(wdL rep od j).length ->w.heap.size+1<=P i:=fun i hi=>(HS.out.lc.pt i hi).1;have Hc:LC (((W5.setCell ⟨w.heap.size+1+1,1,none⟩ (.slice (some ⟨wr.heap.size,0,none⟩) 1 1)).setCell ⟨w.heap.size,0,none⟩ (.slice (some ⟨g,0,none⟩) j c)).setCell ⟨w.heap.size,1,none⟩ (.slice (some ⟨wr.heap.size,0,none⟩) 1 1)) (w.heap.size+1) (.slice (some ⟨g,0,none⟩) j c) (wdL rep od j) P Q:=
    ((H0.setB (fun e=>HS.out.gb (by simpa [Value.ownBlock] using e)) (fun i hi=>HS.out.pb i (by simpa [wdL_len] using hi))).setB (fun e=>by simp [Value.ownBlock] at e;omega) (fun i hi=>by have:=Hq i hi;omega)).setB (fun e=>by simp [Value.ownBlock] at e;omega) (fun i hi=>by have:=Hq i hi;omega)
   have H2:=hid Hc;have Hz:=hid Hh;have Hy:Hid (Below w.heap.size w (((W5.setCell ⟨w.heap.size+1+1,1,none⟩ (.slice (some ⟨wr.heap.size,0,none⟩) 1 1)).setCell ⟨w.heap.size,0,none⟩ (.slice (some ⟨g,0,none⟩) j c)).setCell ⟨w.heap.size,1,none⟩ (.slice (some ⟨wr.heap.size,0,none⟩) 1 1))):=hid ((((keepS HS.out.low b5).setCell (p:=⟨w.heap.size+1+1,1,none⟩) (by simp;omega) _).setCell (p:=⟨w.heap.size,0,none⟩) zL _).setCell (p:=⟨w.heap.size,1,none⟩) zL _);have HQ:Hid ((∀i,i<3 ->(((W5.setCell ⟨w.heap.size+1+1,1,none⟩ (.slice (some ⟨wr.heap.size,0,none⟩) 1 1)).setCell ⟨w.heap.size,0,none⟩ (.slice (some ⟨g,0,none⟩) j c)).setCell ⟨w.heap.size,1,none⟩ (.slice (some ⟨wr.heap.size,0,none⟩) 1 1)).cell? ⟨wr.heap.size,i,none⟩=W5.cell? ⟨wr.heap.size,i,none⟩)/\ wr.heap.size<W5.heap.size/\ w.heap.size<=wr.heap.size):=hid ⟨fun i hi=>by
    rw [World.cell?_setCell_other _ _ _ _ (by simp<;>omega),World.cell?_setCell_other _ _ _ _ (by simp<;>omega),World.cell?_setCell_other _ _ _ _ (by simp<;>omega)],by omega,by omega⟩
   have x0:=Hd.c0;have x1:=Hd.c1;have xf:=Hd.f;have y0:=Hk.c0;have y1:=Hk.c1;have o0:=Hg.c0;have o1:=Hg.c1;have of:=Hg.f;have Hj:=hid (And.intro q0 (And.intro q1 q2));clear b5 z5 q0 q1 q2 Hd H1 H0 Hk Hg Hh Hc Hq HS Hr Ho;go_wp2_with fail;have s0:=Hz.out.c0;have s1:=Hz.out.c1;refine zF (v:=.agg #[.slice (some ⟨g,0,none⟩) j c,.slice (some ⟨wr.heap.size,0,none⟩) 1 1]) (by simp [results,Tryz.results22,go_sem,s0,s1]) ?_;have G0:Ending.returned (.agg #[.slice (some ⟨g,0,none⟩) j c,.slice (some ⟨wr.heap.size,0,none⟩) 1 1])=.returned (.agg #[.slice (some ⟨g,0,none⟩) (wdS j rep od).l.length c,.slice (some ⟨wr.heap.size,0,none⟩) (wdS j rep od).n 1]):=by
    rw [show (wdS j rep od).l.length=j from wdL_len rep od j];rfl
   have G1:SNc (((W5.setCell ⟨w.heap.size+1+1,1,none⟩ (.slice (some ⟨wr.heap.size,0,none⟩) 1 1)).setCell ⟨w.heap.size,0,none⟩ (.slice (some ⟨g,0,none⟩) j c)).setCell ⟨w.heap.size,1,none⟩ (.slice (some ⟨wr.heap.size,0,none⟩) 1 1)) w.heap.size (some ⟨g,0,none⟩) (some ⟨wr.heap.size,0,none⟩) (wdS j rep od):=fun w' k1 k2=>by
    constructor
    ·have:=(H2.out.move k1 (fun q h1 h2=>k2 q (by omega) h2));exact this.lcap (by rw [wdL_len])
    ·have hq:=HQ.out;have e:=k2 wr.heap.size hq.2.2 (by simp [World.setCell];exact hq.2.1);refine .inr ⟨wr.heap.size,0,rfl,Nat.lt_of_lt_of_le (by simp [World.setCell];exact hq.2.1) k1,fun i hi=> ?_⟩;obtain rfl:i=0:=by have:i<1:=hi;omega
     exact⟨(World.cell?_of_block (a:=⟨wr.heap.size,0+0*3,none⟩) e).trans ((hq.1 0 (by omega)).trans Hj.out.1),(World.cell?_of_block (a:=⟨wr.heap.size,0+0*3+1,none⟩) e).trans ((hq.1 1 (by omega)).trans Hj.out.2.1),(World.cell?_of_block (a:=⟨wr.heap.size,0+0*3+2,none⟩) e).trans ((hq.1 2 (by omega)).trans Hj.out.2.2)⟩
   first
    | exact⟨_,c,_,1,G0,G1,Hy.out⟩
    | exact⟨_,c,_,⟨1,G0⟩,G1,Hy.out⟩
open Go.Deep
def spY (k:Nat)(y:Lf):Lf:=
 if k%8=1 then⟨y.p++[⟨#[]⟩],y.fl,y.r,y.q,y.v⟩
 else if k%8=2 then⟨y.p, !y.fl,y.r,y.q,y.v⟩
 else if k%8=3 then⟨y.p,y.fl,y.r,y.q+1,y.v⟩
 else if k%8=4 then⟨y.p,y.fl,y.r,y.q,txJ (rpt ⟨#[118]⟩ (200+k/128))⟩
 else if k%8=5 then y
 else if k%8=6 then⟨y.p,y.fl,7,y.q,y.v⟩
 else⟨y.p.set 0 ⟨#[99]⟩,y.fl,y.r,y.q,y.v⟩
def spL (k:Nat)(l:List Lf):List Lf:=(if k%8=5 then l++[gL l (k/8%l.length)] else l).set (k/8%l.length) (spY k (gL l (k/8%l.length)))
def spS (f:Nat ->Int)(n x:Nat)(S:Sx):Sx:=if rk f n x%8=0 \/S.l.length=0 then mkS S.l (spF (rk f n (rx n x)) (fS S)) else mkS (spL (rk f n x) S.l) (fS S)
def spX (f:Nat ->Int)(n x:Nat)(S:Sx):Nat:=if rk f n x%8=0 \/S.l.length=0 then rx n (rx n x) else rx n x
theorem gL_set (l:List Lf){i:Nat}(hi:i<l.length)(y:Lf)(j:Nat):gL (l.set i y) j=if j=i then y else gL l j:=by
 by_cases e:j=i
 ·subst e;rw [if_pos rfl];simp [gL,List.getD,hi]
 ·rw [if_neg e];simp [gL,List.getD,List.getElem?_set_ne (fun h=>e h.symm)]
theorem spY_ok {k:Nat}{y:Lf}(hp:y.p.length<=8)(hr:0<=y.r/\ y.r<=1000000000)(hq:0<=y.q/\ y.q<=1000000000):(spY k y).p.length<=9/\ LfI (spY k y):=by
 have a:∀r q:Int,0<=r/\ r<=1000000001 ->0<=q/\ q<=1000000001 ->∀p f v,LfI ⟨p,f,r,q,v⟩:=fun r q h1 h2 p f v=>⟨wfI (by simp only;omega) (by simp only;omega),wfI (by simp only;omega) (by simp only;omega)⟩;obtain⟨yp,yf,yr,yq,yv⟩:=y;simp only at hp hr hq;unfold spY;repeat' split
 all_goals refine⟨by simp<;>omega,a _ _ (by first|omega|(dsimp only;omega)) (by first|omega|(dsimp only;omega)) _ _ _⟩
theorem vd_num {S:Sx}(h:Vd S){i:Nat}(hi:i<S.l.length):1<=(gL S.l i).p.length/\ (gL S.l i).p.length<=8/\ (0<=(gL S.l i).r/\ (gL S.l i).r<=1000000000)/\ (0<=(gL S.l i).q/\ (gL S.l i).q<=1000000000):=by
 have a:=ok_pth h i hi;have b:=has_rok (ok_okTo h) (ok_has h _ (gL_mem.2 ⟨i,hi,rfl⟩));unfold Rok dtR at b;simp only at b;exact⟨a.1,a.2,by omega,by omega⟩
theorem gL_fa {l:List Lf}{i:Nat}(h:¬i<l.length):LfI (gL l i):=by
 rw [show gL l i=⟨[],false,0,0,ByteArray.empty⟩ by simp [gL,List.getD,h]];exact⟨by decide,by decide⟩
theorem Dr.gd {S:Sx}(h:Dr S):Gd S:=by
 have hl:=h.vd.2.1;refine⟨⟨by omega,fun i=> ?_,by have:=(ctxB_iff.1 h.vd.1).2;omega⟩,fun i=> ?_,h.t⟩
 ·by_cases hi:i<S.l.length
  ·have:=(vd_num h.vd hi).2.1;omega
  ·rw [gL_far hi];simp
 ·by_cases hi:i<S.l.length
  ·obtain⟨_,_,b,c⟩:=vd_num h.vd hi;exact⟨wfI (by omega) (by omega),wfI (by omega) (by omega)⟩
  ·exact gL_fa hi
theorem mkS_gd {l:List Lf}{u:List Rn}(h1:l.length<=1001)(h2:∀i,i<l.length ->(gL l i).p.length<=9/\ LfI (gL l i))(h3:u.length<=1001)(h4:BSn u):Gd (mkS l u):=by
 refine⟨⟨by show l.length<=_;omega,fun i=> ?_,by show u.length<=_;omega⟩,fun i=> ?_,fun i=> ?_⟩
 ·show (gL l i).p.length<=_;by_cases hi:i<l.length
  ·have:=(h2 i hi).1;omega
  ·rw [gL_far hi];simp
 ·show LfI (gL l i);by_cases hi:i<l.length
  ·exact(h2 i hi).2
  ·exact gL_fa hi
 ·show _<=(gR u i).2.2/\ (gR u i).2.2<=_;by_cases hi:i<u.length
  ·have:=h4 _ (gR_mem hi);omega
  ·rw [gR_far hi];exact⟨by decide,by decide⟩
theorem spS_gd {f:Nat ->Int}{n x:Nat}{S:Sx}(hS:Dr S)(hk:rk f n (rx n x)<256):Gd (spS f n x S):=by
 have hl:=hS.vd.2.1;have hu:=vd_srt hS.vd;have hn:=(ctxB_iff.1 hS.vd.1).2;have v8:∀i,i<S.l.length ->(gL S.l i).p.length<=9/\ LfI (gL S.l i):=fun i hi=>by
  obtain⟨_,a,b,c⟩:=vd_num hS.vd hi;exact⟨by omega,wfI (by omega) (by omega),wfI (by omega) (by omega)⟩
 have fl:=fS_len S;unfold spS;split
 ·obtain⟨a,b⟩:=spF_ok hk hu.br;exact mkS_gd (by omega) v8 (by omega) b
 ·rename_i h0;have hi:rk f n x/8%S.l.length<S.l.length:=Nat.mod_lt _ (by omega);unfold spL;generalize rk f n x=k at h0 hi ⊢;generalize k/8%S.l.length=i at hi ⊢;obtain⟨_,a,b,c⟩:=vd_num hS.vd hi;have hy:=spY_ok (k:=k) a b c;generalize spY k (gL S.l i)=y at hy ⊢;have e:∀l:List Lf,l.length<=1001 ->i<l.length ->(∀j,j<l.length ->(gL l j).p.length<=9/\ LfI (gL l j)) ->Gd (mkS (l.set i y) (fS S)):=fun l h1 h2 h3=>by
   refine mkS_gd (by simpa using h1) (fun j hj=> ?_) (by omega) hu.br.bs;rw [gL_set l h2 y j];split
   ·exact hy
   ·exact h3 j (by simpa using hj)
  split
  ·refine e _ (by simp;omega) (by simp;omega) (fun j hj=> ?_);by_cases h2:j<S.l.length
   ·rw [gL_pre _ _ h2];exact v8 j h2
   ·have e2:j=S.l.length:=by simp at hj;omega
    rw [e2,gL_end];exact v8 i hi
  ·exact e _ (by omega) hi v8
theorem lCp_set (l:List Lf)(P Q:Nat ->Nat){i:Nat}(hi:i<l.length)(y:Lf)(p pc:Nat):
  (((((((List.range (l.length*5)).map (lCp l P Q)).set (i*5) (.slice (some ⟨p,0,none⟩) y.p.length pc)).set (i*5+1) (.bool y.fl)).set (i*5+2) (.int .i64 y.r)).set (i*5+3) (.int .i64 y.q)).set (i*5+4) (.string y.v))=(List.range (l.length*5)).map (lCp (l.set i y) (fun t=>if t=i then p else P t) (fun t=>if t=i then pc else Q t)):=by
 refine List.ext_getElem (by simp) (fun j h1 h2=> ?_);have hj:j<l.length*5:=by simpa using h2
 obtain⟨e0,e1,e2,e3,e4⟩:=lCp0 (l.set i y) (fun t=>if t=i then p else P t) (fun t=>if t=i then pc else Q t) i;rw [gL_set l hi y i] at e0 e1 e2 e3 e4;simp only [if_pos] at e0 e1 e2 e3 e4;rw [List.getElem_map,List.getElem_range];by_cases Ha:j/5=i
 ·obtain e|e|e|e|e:j=i*5 \/j=i*5+1 \/j=i*5+2 \/j=i*5+3 \/j=i*5+4:=by omega
  ·subst e;rw [e0];simp [List.getElem_set]
  ·subst e;rw [e1];simp [List.getElem_set]
  ·subst e;rw [e2];simp [List.getElem_set]
  ·subst e;rw [e3];simp [List.getElem_set]
  ·subst e;rw [e4];simp [List.getElem_set]
 ·rw [List.getElem_set_ne (by omega),List.getElem_set_ne (by omega),List.getElem_set_ne (by omega),List.getElem_set_ne (by omega),List.getElem_set_ne (by omega),List.getElem_map,List.getElem_range];unfold lCp;rw [gL_set l hi y,if_neg Ha];simp only [if_neg Ha]
theorem OffV.moveB {w w':World}{B size:Nat}{v:Value}{n:Nat}{xs:List Value}(h:OffV w B size v n xs)(hs:w.heap.size<=w'.heap.size)(hq:∀q,v.ownBlock=some q ->B<=q ->q<w.heap.size ->w'.heap[q]? =w.heap[q]?):OffV w' B size v n xs:=by
 obtain⟨g,Ha,c,rfl,hB,Hb,hn,hc,hl,h1,h2,h3⟩:=h;have e:w'.heap[g]? =w.heap[g]? :=hq g rfl hB Hb;exact⟨g,Ha,c,rfl,hB,Nat.lt_of_lt_of_le Hb hs,hn,hc,hl,fun j hj=>(World.cell?_of_block e).trans (h1 j hj),fun j hj=>by rw [World.cell?_of_block (a:=⟨g,Ha+j,none⟩) e];exact h2 j hj,fun j hj=>(World.frozen?_of_block (a:=⟨g,Ha+j,none⟩) e).trans (h3 j hj)⟩
theorem mk_off {w:World}{lo g c:Nat}{ra:Option Addr}{rc:Nat}{l:List Lf}{u:List Rn}{P Q:Nat ->Nat}(h:LC w lo (.slice (some ⟨g,0,none⟩) l.length c) l P Q)(ho:OffR w lo (.slice ra u.length rc) u):SNc w lo (some ⟨g,0,none⟩) ra (mkS l u):=fun w' h1 h2=>by
 have hL:=h.move h1 h2;have hO:OffR w' lo (.slice ra u.length rc) u:=OffV.moveB ho h1 (fun q _ a b=>h2 q a b);obtain⟨g',o',c',e,s,_⟩:=hO.fs;injection e with e1 e2 e3;subst e1;exact⟨hL.lcap rfl,s.rseg⟩
structure PtA (w wx:World)(g b7:Nat)(y:Lf)(p pc:Nat):Prop where
 lo:w.heap.size+2<=p
 lt:p<wx.heap.size
 ng:p≠g
 nb:p≠b7
 wr:Wr wx p 9 y.p.length (fun t=> .string (gS y.p t))
 c1:y.p.length<=pc
 c2:pc<=9223372036854775807
structure SpM (w wx:World)(B rb:Nat)(f:Nat ->Int)(n x b7 i:Nat)(l:List Lf)(y:Lf)(u:List Rn)(g c p pc gx cx:Nat)(P Q:Nat ->Nat):Prop where
 bs:Bx2 wx w.heap.size (.slice (some ⟨g,0,none⟩) l.length c) (.slice (some ⟨gx,0,none⟩) u.length cx)
 br:Bx2 wx (w.heap.size+1) (.slice none 0 0) (.slice none 0 0)
 row:wx.ownsRow (w.heap.size+2) 60 5 (.slice (some ⟨g,0,none⟩) l.length c) l.length ((List.range (l.length*5)).map (lCp l P Q))
 pts:∀j,j<l.length ->j≠i ->PtA w wx g b7 (gL l j) (P j) (Q j)
 pt:PtA w wx g b7 y p pc
 ru:OffR wx (w.heap.size+2) (.slice (some ⟨gx,0,none⟩) u.length cx) u
 gn:gx≠g/\ gx≠b7/\ g≠b7
 hb:w.heap.size+2<=b7
 rd:RdJ wx B rb f n x
 gr:w.grownBy wx (some rb)
 z:B<=w.heap.size
section
variable {w wx w1 : World} {B rb n x b7 i : Nat} {f : Nat -> Int} {l : List Lf} {y y' : Lf} {u : List Rn} {g c p pc gx cx p' pc' : Nat} {P Q : Nat -> Nat}
theorem PtA.same (h:PtA w wx g b7 y p pc)(hs:wx.heap.size<=w1.heap.size)(he:w1.heap[p]? =wx.heap[p]?):PtA w w1 g b7 y p pc:=⟨h.lo,Nat.lt_of_lt_of_le h.lt hs,h.ng,h.nb,h.wr.same he,h.c1,h.c2⟩
theorem SpM.glt (h:SpM w wx B rb f n x b7 i l y u g c p pc gx cx P Q):w.heap.size+2<=g/\ g<wx.heap.size:=h.row.lt g rfl
theorem SpM.chg (h:SpM w wx B rb f n x b7 i l y u g c p pc gx cx P Q){r:Nat}(hg:wx.grownBy w1 (some r))(hr:w.heap.size+2<=r/\ r≠g/\ r≠gx/\∀j,j<l.length ->j≠i ->P j≠r)(hpt:PtA w w1 g b7 y' p' pc'):SpM w w1 B rb f n x b7 i l y' u g c p' pc' gx cx P Q:=by
 obtain⟨r1,r2,r3,r4⟩:=hr;have bk:∀b,b<wx.heap.size ->b≠r ->w1.heap[b]? =wx.heap[b]? :=fun b h1 h2=>hg.block b h1 (fun e=>h2 (by injection e));have bl:Below (w.heap.size+2) wx w1:=zI.grown hg (by have:=h.br.lt;omega) (fun k e=>by injection e with e;omega);refine⟨h.bs.grw hg (by omega),h.br.grw hg (by omega),own_at5 h.row (fun b hb=> ?_),fun j h1 h2=>(h.pts j h1 h2).same hg.size (bk _ (h.pts j h1 h2).lt (r4 j h1 h2)),hpt,OffV.gr h.ru hg (fun e=>by simp [Value.ownBlock] at e;omega),h.gn,h.hb,h.rd.below (bl.mono (by have:=h.z;omega)),grownBelow h.gr (bl.mono (Nat.le_add_right _ _)) zL,h.z⟩;have e:g=b:=by simpa [Value.ownBlock] using hb
 exact bk b (by have:=h.glt.2;omega) (by omega)
theorem SpM.below (h:SpM w wx B rb f n x b7 i l y u g c p pc gx cx P Q)(hb:Below wx.heap.size wx w1):SpM w w1 B rb f n x b7 i l y u g c p pc gx cx P Q:=
 h.chg (r:=b7) ⟨hb.os,hb.tape,hb.output,hb.size,fun k hk _=>hb.block k hk⟩ ⟨h.hb,h.gn.2.2.symm,h.gn.2.1.symm,fun j h1 h2=>(h.pts j h1 h2).nb⟩ (h.pt.same hb.size (hb.block _ h.pt.lt))
theorem SpM.setB (h:SpM w wx B rb f n x b7 i l y u g c p pc gx cx P Q)(t:Nat)(v:Value)(e:y'.p=y.p):SpM w (wx.setCell ⟨b7,t,none⟩ v) B rb f n x b7 i l y' u g c p pc gx cx P Q:=by
 have hh:∀q,q≠b7 ->(wx.setCell ⟨b7,t,none⟩ v).heap[q]? =wx.heap[q]? :=fun q hq=>zH _ _ _ _ (by simpa using hq);refine h.chg (r:=b7) ⟨rfl,rfl,rfl,by simp [World.setCell],fun k hk hne=>hh k (fun e=>hne (by rw [e]))⟩ ⟨h.hb,h.gn.2.2.symm,h.gn.2.1.symm,fun j h1 h2=>(h.pts j h1 h2).nb⟩ ?_;have:=h.pt.same (w1:=wx.setCell ⟨b7,t,none⟩ v) (by simp [World.setCell]) (hh _ h.pt.nb);exact⟨this.lo,this.lt,this.ng,this.nb,by rw [e];exact this.wr,by rw [e];exact this.c1,this.c2⟩
theorem SpM.fin (h:SpM w wx B rb f n x b7 i l y u g c p pc gx cx P Q)(hi:i<l.length){W5:World}(h5:((((wx.setCell ⟨g,i*5,none⟩ (.slice (some ⟨p,0,none⟩) y.p.length pc)).setCell ⟨g,i*5+1,none⟩ (.bool y.fl)).setCell ⟨g,i*5+2,none⟩ (.int .i64 y.r)).setCell ⟨g,i*5+3,none⟩ (.int .i64 y.q)).setCell ⟨g,i*5+4,none⟩ (.string y.v)=W5):
  Bx2 W5 w.heap.size (.slice (some ⟨g,0,none⟩) l.length c) (.slice (some ⟨gx,0,none⟩) u.length cx)/\ Bx2 W5 (w.heap.size+1) (.slice none 0 0) (.slice none 0 0)/\
  ∀W7,(W5.setCell ⟨w.heap.size+1,0,none⟩ (.slice (some ⟨g,0,none⟩) l.length c)).setCell ⟨w.heap.size+1,1,none⟩ (.slice (some ⟨gx,0,none⟩) u.length cx)=W7 ->Bx2 W7 (w.heap.size+1) (.slice (some ⟨g,0,none⟩) l.length c) (.slice (some ⟨gx,0,none⟩) u.length cx)/\ SNc W7 w.heap.size (some ⟨g,0,none⟩) (some ⟨gx,0,none⟩) (mkS (l.set i y) u)/\ RdJ W7 B rb f n x/\ w.grownBy W7 (some rb):=by
 have Hf:=h.glt;have hz:=h.z;have s5:W5.heap.size=wx.heap.size:=by rw [<- h5];simp [World.setCell]
 have bk:∀b,b≠g ->W5.heap[b]? =wx.heap[b]? :=fun b hb=>by
  rw [<- h5];repeat rw [zH _ _ _ _ (by simpa using hb)]
 have sg:∀(X:World) (o:Nat) (v:Value),X.grownBy (X.setCell ⟨g,o,none⟩ v) (some g):=fun X o v=>⟨rfl,rfl,rfl,by simp [World.setCell],fun k hk hne=>zH _ _ _ _ (fun e=>hne (by rw [e]))⟩;have Ha:wx.grownBy W5 (some g):=by rw [<- h5];exact((((sg _ _ _).trans (sg _ _ _)).trans (sg _ _ _)).trans (sg _ _ _)).trans (sg _ _ _)
 have Hd:=h.bs.grw Ha (by omega);have Hb:=h.br.grw Ha (by omega);have l5:Below (w.heap.size+1) wx W5:=zI.grown Ha (by have:=h.br.lt;omega) (fun k e=>by injection e with e;omega);have r5:W5.ownsRow (w.heap.size+2) 60 5 (.slice (some ⟨g,0,none⟩) l.length c) l.length ((List.range (l.length*5)).map (lCp (l.set i y) (fun t=>if t=i then p else P t) (fun t=>if t=i then pc else Q t))):=by
  rw [<- h5,<- lCp_set l P Q hi y p pc];exact(((((h.row.stored _ _).1.stored _ _).1.stored _ _).1.stored _ _).1.stored _ _).1
 have He:LC W5 (w.heap.size+2) (.slice (some ⟨g,0,none⟩) (l.set i y).length c) (l.set i y) (fun t=>if t=i then p else P t) (fun t=>if t=i then pc else Q t):=by
  have el:(l.set i y).length=l.length:=List.length_set;refine⟨by rw [el];exact r5,fun j hj=> ?_⟩;rw [el] at hj;rw [gL_set l hi y j];have Hc:∀{z:Lf} {a b:Nat},PtA w wx g b7 z a b ->w.heap.size+2<=a/\ a<W5.heap.size/\ some a≠(Value.slice (some ⟨g,0,none⟩) (l.set i y).length c).ownBlock/\ Wr W5 a 9 z.p.length (fun t=> .string (gS z.p t))/\ z.p.length<=b/\ b<=9223372036854775807:=fun{z a b} hp=>⟨hp.lo,by rw [s5];exact hp.lt,fun e=>hp.ng (by simpa [Value.ownBlock] using e),hp.wr.same (bk _ hp.ng),hp.c1,hp.c2⟩;by_cases e:j=i
  ·simp only [if_pos e];exact Hc h.pt
  ·simp only [if_neg e];exact Hc (h.pts j hj e)
 have o5:OffR W5 (w.heap.size+2) (.slice (some ⟨gx,0,none⟩) u.length cx) u:=OffV.gr h.ru Ha (fun e=>h.gn.1 (by simpa [Value.ownBlock] using e));refine⟨Hd,Hb,?_⟩;rintro W7 rfl;have b7:Below (w.heap.size+1) wx ((W5.setCell ⟨w.heap.size+1,0,none⟩ (.slice (some ⟨g,0,none⟩) l.length c)).setCell ⟨w.heap.size+1,1,none⟩ (.slice (some ⟨gx,0,none⟩) u.length cx)):=(l5.setCell (p:=⟨w.heap.size+1,0,none⟩) zL _).setCell (p:=⟨w.heap.size+1,1,none⟩) zL _;refine⟨Hb.set _ _,?_,h.rd.below (b7.mono (by omega)),grownBelow h.gr (b7.mono (Nat.le_add_right _ _)) zL⟩;have sn:=mk_off He o5;refine sn.move (Nat.le_add_right _ _) (by simp [World.setCell]) (fun q h1 h2=> ?_);rw [zH _ _ _ _ (by simp;omega),zH _ _ _ _ (by simp;omega)]
end
end Go.Proofs.YtfidfeilljlbiaaGreat
