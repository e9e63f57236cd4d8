import Derived.Test.YtgmjgboibfdaeaaGreatDoorDrg18
set_option linter.unusedVariables false
set_option linter.unusedSimpArgs false
set_option maxRecDepth 100000
set_option maxHeartbeats 40000000
namespace Go.Proofs.YtgmjgboibfdaeaaGreatDoor
open Go.ChangeShapes Go.WideShapes Go.ChangeAt Go.RowKit Go.Maps
variable {B b bm g hi k lo n:Nat}{L:Int ->List (Int×Int)}{S:Sx}{l:List Lf}{w w' w1 wr:World}{x0:Nat×Nat}
theorem QlS(h:StW S.R S.F S.T S.n S.l):LvB S.l:=
 ⟨fun i hi=>(QdJ h _ (Qai.2 ⟨i,hi,rfl⟩)).1,fun i hi=>(QdJ h _ (Qai.2 ⟨i,hi,rfl⟩)).2.1,fun i hi=>(QdJ h _ (Qai.2 ⟨i,hi,rfl⟩)).2.2.1,h.2.1,h.2.2.2⟩
theorem QhS {y0:Nat×Nat}{bm':Nat}{D:Sx}{ul:List Rn}(w:World)(h:OpA w x0 bm S)(h':OpA w y0 bm' D)(hv:LvJ w y0 bm' D.l ul)(hD:D=mkS D.l ul)(hs:StW S.R S.F S.T S.n S.l)(hs':StW D.R D.F D.T D.n D.l):
  Cl 129 #[.agg #[.map (some x0.1),.map (some x0.2),.map (some bm)],.agg #[.map (some y0.1),.map (some y0.2),.map (some bm')]] w fun e w'=>∃a c x d q c' u d' mid,e=.returned (.tuple #[.agg #[.slice a (chX S D).l.length c,.slice x (chX S D).n d],.agg #[.slice q (chY S D).l.length c',.slice u (chY S D).n d'],.int .i64 (chC S D)])/\ SOw w' w.heap.size mid a x d (chX S D)/\ SOw w' mid w'.heap.size q u d' (chY S D)/\ Bl w w':=by
 obtain⟨W,s⟩:=zE ((((w.alloc (.cells #[.map (some x0.1),.map (some x0.2),.map (some bm)] 160)).alloc (.cells #[.map (some y0.1),.map (some y0.2),.map (some bm')] 160)).alloc (.cells #[.slice none 0 0,.slice none 0 0] 40)).alloc (.cells #[.slice none 0 0,.slice none 0 0] 40));have X:Bl w W:=by rw [<- s];exact((Qae _ _ _).alloc (by simp;omega) _).alloc (by simp;omega) _
 have zW:W.heap.size=w.heap.size+4:=by rw [<- s];simp
 have G:∀(v:World) (o:Obj),Bl v (v.alloc o):=fun v o=>zO _ _;have A0:Bx3 W w.heap.size (.map (some x0.1)) (.map (some x0.2)) (.map (some bm)):=by
  rw [<- s];exact(((Bx3.made w _ _ _ _).bw (G _ _) (by simp)).bw (G _ _) (by simp;try omega)).bw (G _ _) (by simp;try omega)
 have B0:Bx3 W (w.heap.size+1) (.map (some y0.1)) (.map (some y0.2)) (.map (some bm')):=by
  rw [<- s];have:=Bx3.made (w.alloc (.cells #[.map (some x0.1),.map (some x0.2),.map (some bm)] 160)) (.map (some y0.1)) (.map (some y0.2)) (.map (some bm')) 160;exact((by simpa using this:Bx3 _ (w.heap.size+1) _ _ _).bw (G _ _) (by simp)).bw (G _ _) (by simp;try omega)
 have R0:Bx2 W (w.heap.size+1+1) (.slice none 0 0) (.slice none 0 0):=by
  rw [<- s];have:=Bx2.made ((w.alloc (.cells #[.map (some x0.1),.map (some x0.2),.map (some bm)] 160)).alloc (.cells #[.map (some y0.1),.map (some y0.2),.map (some bm')] 160)) (.slice none 0 0) (.slice none 0 0) 40;exact(by simpa using this:Bx2 _ (w.heap.size+1+1) _ _).allocs _
 have Q0:Bx2 W (w.heap.size+1+1+1) (.slice none 0 0) (.slice none 0 0):=by
  rw [<- s];simpa using Bx2.made (((w.alloc (.cells #[.map (some x0.1),.map (some x0.2),.map (some bm)] 160)).alloc (.cells #[.map (some y0.1),.map (some y0.2),.map (some bm')] 160)).alloc (.cells #[.slice none 0 0,.slice none 0 0] 40)) (.slice none 0 0) (.slice none 0 0) 40
 have Ge:=hid (Qfq W (h.bw X) (h'.bw X) hs hs');have Gh:Hid ((jnS S D).l.length<=2000/\ (jnU S D).length<=4000):=hid (Qis hs hs');have Hg:=hid (And.intro (QgL hs hs') (And.intro (fun x hx=>(Qge hs hs' x hx).2.2.2) (And.intro (QmH hs hs') (fun hl=>Qkz hs hs' hl))));have Hf:=hid (And.intro hs'.2.2.2 (And.intro (fun x hx=>(QdJ hs' x hx).2.2.2) (And.intro hs'.2.2.1 (QlS hs'))));have O:Hid (D.l.length<=1000/\ ul.length<=2000/\ D.n=ul.length):=hid (by
  have e:D.n=ul.length:=by rw [hD];rfl
  exact⟨hs'.2.1,by rw [<- e];exact hs'.1.2,e⟩)
 have Gg:=hid (hv.bw X);have Hs:=hid hD;have Gy:=hid A0;have Hc:=hid B0;have Y:=hid R0;have V:=hid Q0;have Hp:=hid X;have Gv:=hid zW;obtain⟨k0,k1,k2⟩:=A0.q3;obtain⟨l0,l1,l2⟩:=B0.q3;clear X zW A0 B0 R0 Q0 h h' hv hD hs hs' G;go_enter Tryz.func129,Tryz.ntmps129;go_wp2_with fail;try rw [s]
 clear s;refine Ge.mono ?_;rintro e w1 ⟨⟨I,bd,rfl,lv⟩,b1⟩;obtain⟨w2,Hm⟩:=zE (w1.alloc (.cells #[.map (some I.1),.map (some I.2),.map (some bd)] 160));have b2:Bl w1 w2:=by rw [<- Hm];exact zO _ _
 have X2:Bx3 w2 w1.heap.size (.map (some I.1)) (.map (some I.2)) (.map (some bd)):=by rw [<- Hm];exact Bx3.made _ _ _ _ _
 have Hj:=hid X2;have Gi:=hid (lv.bw b2);have Gt:=hid (Qaa b1 b2);have Gu:Hid (W.heap.size<=w1.heap.size):=hid b1.size;have Hi:=hid (Qg4 w2 Gi Hg.1 Hg.2.1 (by have:=Gh.out;omega) (by have:=Gh.out;omega));have Gc:Hid ((decide ((jnS S D).l.length<=1000) && decide ((jnU S D).length<=1000))=jnF S D):=hid rfl;rw [Gc.out] at Hi;obtain⟨J,H4⟩:=zE (jnF S D);rw [H4] at Hi;have Hu:=hid H4;obtain⟨e0,e1,e2⟩:=X2.q3;clear lv b1 b2 X2 k0 k1 k2 l0 l1 l2 Ge Gc H4;go_wp2_with fail;try rw [Hm]
 clear Hm;refine Hi.mono ?_;rintro e w3 ⟨rfl,b3⟩;have Z:=hid (Qaa Gt b3);have Ha:=hid b3;clear b3 e0 e1 e2 Hi;cases J with
 | false=>
  have j:=hid (Qmt (S:=S) (D:=D) (by unfold chF;rw [Hu.out];rfl));have z:=Y.bw Z Y.lt;have N:=V.bw Z V.lt;have M:=hid (Qaa Hp Z);obtain⟨r0,r1⟩:=z.q2;have f0:=z.f 0;have f1:=z.f 1;have HC:=hid (z.set (.slice none 0 0) (.slice none 0 0));have y:=(N.setAt ⟨w.heap.size+1+1,0,none⟩ (.slice none 0 0) (by show w.heap.size+1+1≠w.heap.size+1+1+1;omega)).setAt ⟨w.heap.size+1+1,1,none⟩ (.slice none 0 0) (by show w.heap.size+1+1≠w.heap.size+1+1+1;omega);obtain⟨q0,q1⟩:=y.q2;have Gw:=y.f 0;have Gx:=y.f 1;have Hw:=hid (y.set (.slice none 0 0) (.slice none 0 0));have Hq:=hid ((HC.setAt ⟨w.heap.size+1+1+1,0,none⟩ (.slice none 0 0) (by show w.heap.size+1+1+1≠w.heap.size+1+1;omega)).setAt ⟨w.heap.size+1+1+1,1,none⟩ (.slice none 0 0) (by show w.heap.size+1+1+1≠w.heap.size+1+1;omega));clear z N y;go_wp2_with fail;obtain⟨s0,s1⟩:=Hq.q2;obtain⟨s2,s3⟩:=Hw.q2;refine zF (v:=.tuple #[.agg #[.slice none 0 0,.slice none 0 0],.agg #[.slice none 0 0,.slice none 0 0],.int .i64 4]) (by simp [results,Tryz.results129,go_sem,s0,s1,s2,s3]) ⟨none,0,none,0,none,0,none,0,w.heap.size,by rw [j.1,j.2.1,j.2.2];rfl,?_,?_,?_⟩
  ·rw [j.1];exact SOw.mt _ Sx.mt rfl rfl _ _ ⟨Nat.le_refl _,by simp [World.setCell];exact M.size⟩ _ _ _
  ·rw [j.2.1];exact SOw.emp _ _ _ _ _ (by simp [World.setCell];exact M.size)
  ·exact(((M.setCell (by simp;omega) _).setCell (by simp;omega) _).setCell (by simp;omega) _).setCell (by simp;omega) _
 | true=>
  have Hz:=hid (Qg4 w3 (Gg.bw Z) Hf.1 Hf.2.1 (by have:=O.out;omega) (by have:=O.out;omega));obtain⟨B2,H5⟩:=zE ((decide (D.l.length<=1000) && decide (ul.length<=1000)));rw [H5] at Hz;have Gb:Hid ((decide (D.l.length<=1000) && decide (D.n<=1000))=B2):=hid (by rw [O.2.2];exact H5);have BB:=Hc.bw Z Hc.lt;obtain⟨l0,l1,l2⟩:=BB.q3;clear H5 BB;go_wp2_with fail;refine Hz.mono ?_;rintro e r ⟨rfl,b4⟩;have p:=hid (Qaa Z b4);have Hb:=hid b4;clear b4 l0 l1 l2 Hz;cases B2 with
  | false=>
   have j:=hid (Qmt (S:=S) (D:=D) (by unfold chF;rw [Gb.out];simp));have z:=Y.bw p Y.lt;have N:=V.bw p V.lt;have M:=hid (Qaa Hp p);obtain⟨r0,r1⟩:=z.q2;have f0:=z.f 0;have f1:=z.f 1;have HC:=hid (z.set (.slice none 0 0) (.slice none 0 0));have y:=(N.setAt ⟨w.heap.size+1+1,0,none⟩ (.slice none 0 0) (by show w.heap.size+1+1≠w.heap.size+1+1+1;omega)).setAt ⟨w.heap.size+1+1,1,none⟩ (.slice none 0 0) (by show w.heap.size+1+1≠w.heap.size+1+1+1;omega);obtain⟨q0,q1⟩:=y.q2;have Gw:=y.f 0;have Gx:=y.f 1;have Hw:=hid (y.set (.slice none 0 0) (.slice none 0 0));have Hq:=hid ((HC.setAt ⟨w.heap.size+1+1+1,0,none⟩ (.slice none 0 0) (by show w.heap.size+1+1+1≠w.heap.size+1+1;omega)).setAt ⟨w.heap.size+1+1+1,1,none⟩ (.slice none 0 0) (by show w.heap.size+1+1+1≠w.heap.size+1+1;omega));clear z N y;go_wp2_with fail;obtain⟨s0,s1⟩:=Hq.q2;obtain⟨s2,s3⟩:=Hw.q2;refine zF (v:=.tuple #[.agg #[.slice none 0 0,.slice none 0 0],.agg #[.slice none 0 0,.slice none 0 0],.int .i64 4]) (by simp [results,Tryz.results129,go_sem,s0,s1,s2,s3]) ⟨none,0,none,0,none,0,none,0,w.heap.size,by rw [j.1,j.2.1,j.2.2];rfl,?_,?_,?_⟩
   ·rw [j.1];exact SOw.mt _ Sx.mt rfl rfl _ _ ⟨Nat.le_refl _,by simp [World.setCell];exact M.size⟩ _ _ _
   ·rw [j.2.1];exact SOw.emp _ _ _ _ _ (by simp [World.setCell];exact M.size)
   ·exact(((M.setCell (by simp;omega) _).setCell (by simp;omega) _).setCell (by simp;omega) _).setCell (by simp;omega) _
  | true=>
   have j:=hid (Qn2 (S:=S) (D:=D) (by unfold chF;rw [Hu.out,Gb.out];rfl));have L:=hid ((Hj.bw Ha Hj.lt).bw Hb (Hj.bw Ha Hj.lt).lt);have Hd:=hid (Hc.bw p Hc.lt);have Hh:Hid (∀w',Bl r w' ->(w'.cell? ⟨w1.heap.size,0,none⟩=some (.map (some I.1))/\ w'.cell? ⟨w1.heap.size,1,none⟩=some (.map (some I.2))/\ w'.cell? ⟨w1.heap.size,2,none⟩=some (.map (some bd))/\ w'.cell? ⟨w.heap.size+1,0,none⟩=some (.map (some y0.1))/\ w'.cell? ⟨w.heap.size+1,1,none⟩=some (.map (some y0.2))/\ w'.cell? ⟨w.heap.size+1,2,none⟩=some (.map (some bm')))):=hid (fun w' b=>by
    have A1:=L.bw b L.lt;have J:=Hd.bw b Hd.lt;exact⟨A1.c0,A1.c1,A1.c2,J.c0,J.c1,J.c2⟩)
   have Hx:=hid (fun k (i:Bl r k)=>QiV k (((Gi.bw Ha).bw Hb).bw i) Hg.2.2.1 (Hg.2.2.2 (by have:=Hu.out;unfold jnF at this;simp at this;exact this.1)));have Hy:=hid (fun k (i:Bl r k)=>QiV k ((Gg.bw p).bw i) Hf.2.2.1 Hf.2.2.2);have Gm:=hid (Qaa Hp p);have Gl:=hid (Y.bw p Y.lt);have Gj:=hid (V.bw p V.lt);obtain⟨Q,H8⟩:=zE ((jnS S D).l.length);obtain⟨t,H9⟩:=zE ((jnU S D).length);obtain⟨A,H6⟩:=zE D.l.length;obtain⟨E,H7⟩:=zE ul.length;rw [H8,H9] at Hx;rw [H6,H7] at Hy;have m:=hid (And.intro H8 (And.intro H9 (And.intro H6 H7)));have H1:Hid (w.heap.size+4<=r.heap.size/\ w1.heap.size<r.heap.size/\ w.heap.size+4<=w1.heap.size):=hid (by
    have h1:=Gv.out;have h2:=p.size;have h3:=L.lt;have h4:=Gu.out;exact⟨by omega,by omega,by omega⟩)
   clear H8 H9 H6 H7;go_wp2_with fail;refine zS Hh (fun qh=> ?_);refine tZ 0 21 ?_;refine tZ 2 23 ?_;refine cZ 1 ?_;intro K g;go_simp;refine(Hx _ zI.drew).mono ?_;rintro e k ⟨⟨a,c,x,d,rfl,P,C,Hn⟩,i⟩;have Hl:Bl r k:=⟨i.os,i.tape,i.output,i.size,i.block⟩;have Gf:=hid P;have Gd:=hid C;have H2:Hid (r.heap.size+2<=k.heap.size):=hid Hn;clear P C Hn;refine g.out _ _ (Hh _ Hl) (fun qh=> ?_);clear g K;try simp only [zP]
   refine cZ 3 ?_;intro K g;go_simp;refine(Hy _ Hl).mono ?_;rintro e H ⟨⟨q,c',u,d',rfl,P,C,Ho⟩,B⟩;have U:=Qaa Hl B;have Hv:=hid P;have Ht:=hid C;have H3:Hid (k.heap.size+2<=H.heap.size):=hid Ho;have G0:=hid (Gf.bw B);have Gz:=hid (Gd.bw B);clear P C Ho;refine g.out _ _ (Hh _ U) (fun qh=> ?_);clear g K;try simp only [zP]
   have R6:=Gl.bw U Gl.lt;obtain⟨t0,t1,tf⟩:=R6.p2;have Ga:=H1.out;have Gr:=hid (R6.set (.slice a Q c) (.slice x t d));have Hk:=hid (((L.bw U L.lt).far (Qan H ⟨w.heap.size+1+1,0,none⟩ (.slice a Q c)) (by show w1.heap.size≠w.heap.size+1+1;omega)).far (Qan _ ⟨w.heap.size+1+1,1,none⟩ (.slice x t d)) (by show w1.heap.size≠w.heap.size+1+1;omega));have He:=hid (((Hd.bw U Hd.lt).far (Qan H ⟨w.heap.size+1+1,0,none⟩ (.slice a Q c)) (by show w.heap.size+1≠w.heap.size+1+1;omega)).far (Qan _ ⟨w.heap.size+1+1,1,none⟩ (.slice x t d)) (by show w.heap.size+1≠w.heap.size+1+1;omega));have Gk:=hid (((Gj.bw U Gj.lt).setAt ⟨w.heap.size+1+1,0,none⟩ (.slice a Q c) (by show w.heap.size+1+1≠w.heap.size+1+1+1;omega)).setAt ⟨w.heap.size+1+1,1,none⟩ (.slice x t d) (by show w.heap.size+1+1≠w.heap.size+1+1+1;omega));have H0:=hid ((Hk.far (Qan _ ⟨w.heap.size+1+1+1,0,none⟩ (.slice q A c')) (by show w1.heap.size≠w.heap.size+1+1+1;omega)).far (Qan _ ⟨w.heap.size+1+1+1,1,none⟩ (.slice u E d')) (by show w1.heap.size≠w.heap.size+1+1+1;omega));have Hr:=hid ((He.far (Qan _ ⟨w.heap.size+1+1+1,0,none⟩ (.slice q A c')) (by show w.heap.size+1≠w.heap.size+1+1+1;omega)).far (Qan _ ⟨w.heap.size+1+1+1,1,none⟩ (.slice u E d')) (by show w.heap.size+1≠w.heap.size+1+1+1;omega));have Gs:=hid ((Gr.setAt ⟨w.heap.size+1+1+1,0,none⟩ (.slice q A c') (by show w.heap.size+1+1+1≠w.heap.size+1+1;omega)).setAt ⟨w.heap.size+1+1+1,1,none⟩ (.slice u E d') (by show w.heap.size+1+1+1≠w.heap.size+1+1;omega));have Gq:=hid (Gk.set (.slice q A c') (.slice u E d'));have Gn:=hid (Qaa Gm U);have Go:Hid (SOw H (r.heap.size+2) k.heap.size a x d (jnS S D)):=hid (SOw.bw (SOw.of (ul:=jnU S D) (by rw [m.1];exact Gf) (by rw [show (jnS S D).n=t from m.2.1];exact Gd) rfl rfl rfl rfl H2) B);have Gp:Hid (SOw H (k.heap.size+2) H.heap.size q u d' D):=hid (SOw.of (ul:=ul) (by rw [m.2.2.1];exact Hv) (by rw [O.2.2,m.2.2.2];exact Ht) O.2.2 (by rw [Hs.out];rfl) (by rw [Hs.out];rfl) (by rw [Hs.out];rfl) H3);clear Ga;refine cZ 4 ?_;intro K g;go_simp;refine g.out _ _ ⟨Hk.c0,Hk.c1,Hk.c2,He.c0,He.c1,He.c2⟩ (fun qh=> ?_);clear g K;try simp only [zP]
   clear t0 t1 tf;obtain⟨t0,t1,tf⟩:=Gk.p2;refine cZ 5 ?_;intro K g;go_simp;refine g.out _ _ ⟨H0.c0,H0.c1,H0.c2,Hr.c0,Hr.c1,Hr.c2⟩ (fun qh=> ?_);clear g K;try simp only [zP]
   refine tZ 6 6 ?_;refine zD ?_;clear qh i Hl B U R6 t0 t1 tf Hh Hx Hy;go_wp2_with fail;obtain⟨s0,s1⟩:=Gs.q2;obtain⟨s2,s3⟩:=Gq.q2;refine zF (v:=.tuple #[.agg #[.slice a Q c,.slice x t d],.agg #[.slice q A c',.slice u E d'],.int .i64 0]) (by simp [results,Tryz.results129,go_sem,s0,s1,s2,s3]) ?_;refine⟨a,c,x,d,q,c',u,d',?_⟩;first|refine⟨by rw [j.1,j.2.1,j.2.2,m.1,show (jnS S D).n=t from m.2.1,m.2.2.1,O.2.2,m.2.2.2],k.heap.size,?_,?_,?_⟩|refine⟨k.heap.size,by rw [j.1,j.2.1,j.2.2,m.1,show (jnS S D).n=t from m.2.1,m.2.2.1,O.2.2,m.2.2.2],?_,?_,?_⟩
   ·rw [j.1];have Ga:=H1.out;have Hn:=H2.out;have Ho:=H3.out;exact SOw.wide ((((Go.set ⟨w.heap.size+1+1,0,none⟩ (.slice a Q c) (.inl (by show w.heap.size+1+1<r.heap.size+2;omega))).set ⟨w.heap.size+1+1,1,none⟩ (.slice x t d) (.inl (by show w.heap.size+1+1<r.heap.size+2;omega))).set ⟨w.heap.size+1+1+1,0,none⟩ (.slice q A c') (.inl (by show w.heap.size+1+1+1<r.heap.size+2;omega))).set ⟨w.heap.size+1+1+1,1,none⟩ (.slice u E d') (.inl (by show w.heap.size+1+1+1<r.heap.size+2;omega))) (by omega) zL (by simp [World.setCell];omega)
   ·rw [j.2.1];have Ga:=H1.out;have Hn:=H2.out;have Ho:=H3.out;exact SOw.wide ((((Gp.set ⟨w.heap.size+1+1,0,none⟩ (.slice a Q c) (.inl (by show w.heap.size+1+1<k.heap.size+2;omega))).set ⟨w.heap.size+1+1,1,none⟩ (.slice x t d) (.inl (by show w.heap.size+1+1<k.heap.size+2;omega))).set ⟨w.heap.size+1+1+1,0,none⟩ (.slice q A c') (.inl (by show w.heap.size+1+1+1<k.heap.size+2;omega))).set ⟨w.heap.size+1+1+1,1,none⟩ (.slice u E d') (.inl (by show w.heap.size+1+1+1<k.heap.size+2;omega))) (by omega) (by simp [World.setCell]) zL
   ·exact(((Gn.setCell (by simp;omega) _).setCell (by simp;omega) _).setCell (by simp;omega) _).setCell (by simp;omega) _
theorem QfL (x:Lf)(J:List Lf)(z:List Ky):cW (x::J) z=cW J z+if yes (z <+:Way x)=true then 1 else 0:=by
 unfold cW;cases hp:yes (z <+:Way x) with
 | true=>simp [hp]
 | false=>simp [hp]
theorem cW3 {p:List ByteArray}(h0:0<p.length):∀J:List Lf,cW J (Qac p 1)+cW J (Qac p 2)+cW J (Qac p 3)<=J.length
 | []=>by simp [cW]
 | x::J=>by
  have i:=cW3 h0 J;rw [QfL,QfL,QfL,List.length_cons];have v:∀k k':Int,k≠k' ->¬(Qac p k <+:Way x/\ Qac p k' <+:Way x):=fun k k' hne ⟨h1,h2⟩=>by
   rw [QdN h0] at h1 h2;rcases h1 with ⟨u,_,y⟩|⟨u,y⟩
   ·rcases h2 with ⟨m,_⟩|⟨m,_⟩
    ·exact hne (u.trans m.symm)
    ·rw [m] at y;omega
   ·rcases h2 with ⟨m,_,z⟩|⟨m,z⟩
    ·rw [u] at z;omega
    ·exact hne (y.trans z.symm)
  have g:=v 1 2 (by decide);have t:=v 1 3 (by decide);have o:=v 2 3 (by decide);by_cases q:Qac p 1 <+:Way x
  ·have j:¬Qac p 2 <+:Way x:=fun h=>g ⟨q,h⟩;have r:¬Qac p 3 <+:Way x:=fun h=>t ⟨q,h⟩;rw [if_pos (Qah q),if_neg (by rw [Qaf j];simp),if_neg (by rw [Qaf r];simp)];omega
  ·rw [if_neg (by rw [Qaf q];simp)];by_cases j:Qac p 2 <+:Way x
   ·have r:¬Qac p 3 <+:Way x:=fun h=>o ⟨j,h⟩;rw [if_pos (Qah j),if_neg (by rw [Qaf r];simp)];omega
   ·rw [if_neg (by rw [Qaf j];simp)];split<;>omega
theorem QmU{c:Nat}{J:List Lf}{N:List Ky ->Option (Nat×Nat)}(h:Tre w B N (Mk J J.length) c)(hr:N []=some x0)(hn:NkI J J.length N):JF w B J [] N c x0:=by
 refine⟨by simpa using h,hr,fun y r=> ?_⟩;rw [hn];constructor
 ·rintro(e|⟨j,k,m⟩)
  ·cases e
  ·exact⟨gL J j,Qai.2 ⟨j,k,rfl⟩,by simpa using m⟩
 ·rintro⟨x,q,m⟩;obtain⟨j,k,e⟩:=Qai.1 q;exact .inr ⟨j,k,by rw [e];simpa using m⟩
theorem Qaz.r {w:World}{bm n:Nat}{D:DataW Value}{G:Int ->Value}{L:Int ->List (Int×Int)}(h:Qaz w bm n D G L):QeV w bm n D G L:=⟨h.own,h.at',h.has',fun r=>QeJ (h.rows r)⟩
theorem Qia {g:Lf ->Prop}{P:List Lf}(h:QaT S.R S.F S.T S.n S.l)(hp:PtO S P){D:DataW Value}{G:Int ->Value}{ds:List Dt}(hn:n<=2000)(hG:Qaz w bm n D G L)(hs:∀r,Srt (L r))(hi:∀r x,In (L r) x↔(r,x)∈ds)(hl:∀r,(L r).length<=2000)
  (hd:∀d:Dt,d∈ds↔(∃y,(y∈S.l/\ g y)/\ y.r=d.1/\ y.q=d.2) \/∃y∈P,y.r=d.1/\ y.q=d.2) {N:List Ky ->Option (Nat×Nat)} (hT:Tre w B N (Mk P P.length) (9*P.length)) (hr:N []=some x0) (hk:NkI P P.length N):
  OpA w x0 bm (dlS g S.l P)/\ LvJ w x0 bm (dlS g S.l P).l (dlU g S.l P):=by
 have m:=Qmw h hp hs hi hd;have u:=Qn7 (g:=g) h hp hs hi hd;refine⟨⟨n,D,G,N,B,hn,by rw [<- u];exact hG,hT,hr,hk⟩,N,B,9*P.length,n,D,G,L,QmU hT hr hk,by have:=hp.one;omega,hG.r,m,fun r hne=> ?_,fun r=>Nat.le_trans (hl r) (by omega)⟩;obtain⟨x,v⟩:=(hs r).inh hne;rcases (hd (r,x)).1 ((hi r x).1 v) with ⟨y,⟨j,_⟩,k,_⟩|⟨y,j,k,_⟩
 ·have:=Qcp (Qbu h) (Qci h y j);unfold Rok dtR at this;simp only at this k;omega
 ·have:=hp.dot y j;unfold Rok dtR at this;simp only at this k;omega
theorem Qhm{s s':Nat}(hk:Qa3 w 208 (α:=Ky) Qa5 QaQ s 0 (fun _=>none))(hm:Qa3 w 104 (α:=Dt) dtV Qb1 s' 0 (fun _=>none))(hne:s≠s')(hB:B<=s/\ B<=s'):Tre w B (fun z=>if z=[] then some (s,s') else none) (Mk [] 0) (9*0)/\ NkI [] 0 (fun z=>if z=[] then some (s,s') else none):=by
 refine⟨Tre.new (x0:=(s,s')) hk hm hne hB,fun z=> ?_⟩;by_cases e:z=[]
 ·simp [e]
 ·simp [e]
theorem Qlh(h:QaT S.R S.F S.T S.n S.l){ds:List Dt}(hd:∀d∈ds,∃y∈S.l,y.r=d.1/\ y.q=d.2):∀d∈ds,(0<=d.1/\ d.1<8)/\ 1<=d.2/\ d.2<=1000000000:=fun d hm=>by
 obtain⟨y,j,k,m⟩:=hd d hm;have:=Qcp (Qbu h) (Qci h y j);unfold Rok dtR at this;simp only at this;omega
theorem Qi9 (l:List Lf)(u:List Rn):mkS l u=mkS (mkS l u).l u:=rfl
theorem QfA(gn:Lf ->Prop)(p:List ByteArray)(a:Option Addr)(cp g kc:Nat)(ks:List Int)(w:World)(h:OpA w x0 bm S)(hs:QaT S.R S.F S.T S.n S.l)
  (hp:p.length<=1048576) (hps:∀i,(gS p i).size<=1048576) (hk:∀k∈ks,(Lit.int .i64 k).wf=true) (hkl:ks.length<=3) (hsum:(ks.map fun k=>cW S.l (Qac p k)).sum<=1000) (hgn:∀x∈S.l,gn x↔∃k∈ks,Qac p k <+:Way x) (hseg:Qaw w a p) (hks:QhD w g ks):
  Cl 105 #[.agg #[.map (some x0.1),.map (some x0.2),.map (some bm)],.slice a p.length cp,.slice (some ⟨g,0,none⟩) ks.length kc] w fun e w'=>∃a c x d a' c' x' d' m,e=.returned (.tuple #[.agg #[.slice a (chX S (dlS gn S.l [])).l.length c,.slice x (chX S (dlS gn S.l [])).n d],.agg #[.slice a' (chY S (dlS gn S.l [])).l.length c',.slice x' (chY S (dlS gn S.l [])).n d'],.int .i64 (chC S (dlS gn S.l []))])/\ SOw w' w.heap.size m a x d (chX S (dlS gn S.l []))/\ SOw w' m w'.heap.size a' x' d' (chY S (dlS gn S.l []))/\ Bl w w':=by
 obtain⟨W,s⟩:=zE (((w.alloc (.cells #[.map (some x0.1),.map (some x0.2),.map (some bm)] 160)).alloc (.cells #[.slice none 0 0,.slice none 0 0] 40)).alloc (.cells #[.slice none 0 0,.slice none 0 0] 40));have J:Bl w W:=by rw [<- s];exact(Qae _ _ _).alloc (by simp;omega) _
 have zW:W.heap.size=w.heap.size+3:=by rw [<- s];simp
 have al:∀(v:World) (o:Obj),Bl v (v.alloc o):=fun v o=>zO _ _;have A0:Bx3 W w.heap.size (.map (some x0.1)) (.map (some x0.2)) (.map (some bm)):=by
  rw [<- s];exact((Bx3.made w _ _ _ _).bw (al _ _) (by simp)).bw (al _ _) (by simp;try omega)
 have R0:Bx2 W (w.heap.size+1) (.slice none 0 0) (.slice none 0 0):=by
  rw [<- s];have:=Bx2.made (w.alloc (.cells #[.map (some x0.1),.map (some x0.2),.map (some bm)] 160)) (.slice none 0 0) (.slice none 0 0) 40;exact(by simpa using this:Bx2 _ (w.heap.size+1) _ _).allocs _
 have Q0:Bx2 W (w.heap.size+1+1) (.slice none 0 0) (.slice none 0 0):=by
  rw [<- s];simpa using Bx2.made ((w.alloc (.cells #[.map (some x0.1),.map (some x0.2),.map (some bm)] 160)).alloc (.cells #[.slice none 0 0,.slice none 0 0] 40)) (.slice none 0 0) (.slice none 0 0) 40
 obtain⟨N,B,hT,Hb⟩:=(h.bw J).tj hs.2.2.2;have h8:∀x∈S.l,(Way x).length<=8:=fun x hx=>Qn0 (QdJ hs.w x hx).2.2.2;have Hr:=hid (Qib hT Hb (by have:=hs.2.1;omega) hs.2.1 h8 p a cp bm g kc ks hp hps hk hkl W zI (hseg.bw J) (hks.bw J));have HO:=hid (h.bw J);have HS:=hid hs;have Hs:=hid hgn;have Hn:=hid hsum;have Hh:=hid A0;have Hx:=hid R0;have Hu:=hid Q0;have Ga:=hid J;have Gi:=hid zW;obtain⟨k0,k1,k2⟩:=A0.q3;clear J zW A0 R0 Q0 al h hs hgn hsum hT Hb h8 hseg hks hk hps;go_enter Tryz.func105,Tryz.ntmps105;go_wp2_with fail;try rw [s]
 clear s;refine Hr.mono ?_;rintro e w1 ⟨⟨v1,ts,rfl,H3,H6,H5⟩,b1⟩;obtain⟨ta,tc,rfl,Hc,_,_⟩:=Qca H3;have Hp:∀d:Dt,d∈ts↔(∃y,(y∈S.l/\ gn y)/\ y.r=d.1/\ y.q=d.2) \/∃y∈([]:List Lf),y.r=d.1/\ y.q=d.2:=fun d=>by
  rw [H6 d];constructor
  ·rintro⟨k,hk,x,hx,Hd,e⟩;exact .inl ⟨x,⟨hx,(Hs x hx).2 ⟨k,hk,Hd⟩⟩,congrArg Prod.fst e,congrArg Prod.snd e⟩
  ·rintro(⟨y,⟨t,hg⟩,e1,e2⟩|⟨y,t,_⟩)
   ·obtain⟨k,hk,Hd⟩:=(Hs y t).1 hg;exact⟨k,hk,y,t,Hd,Prod.ext e1 e2⟩
   ·cases t
 have Gd:=hid Hp;have Gg:=hid Hc;have Hk:=hid b1;have Ge:Hid (DOk ts):=hid (Qlh HS (fun d hd=>by
  rcases (Hp d).1 hd with ⟨y,⟨t,_⟩,e⟩|⟨y,t,_⟩
  ·exact⟨y,t,e⟩
  ·cases t))
 have Gh:Hid (ts.length<=1000):=hid (by rw [H5];exact Hn);have X1:=Hh.bw b1 Hh.lt;obtain⟨j0,j1,j2⟩:=X1.q3;clear H3 H6 H5 Hp Hc b1 X1 k0 k1 k2 Hr;have I:=hid (Hh.bw Hk Hh.lt);have He:Hid (∀w',Bl w1 w' ->(w'.cell? ⟨w.heap.size,0,none⟩=some (.map (some x0.1))/\ w'.cell? ⟨w.heap.size,1,none⟩=some (.map (some x0.2))/\ w'.cell? ⟨w.heap.size,2,none⟩=some (.map (some bm)))):=hid (fun w' b=>by
  have A1:=I.bw b I.lt;exact⟨A1.c0,A1.c1,A1.c2⟩)
 clear j0 j1 j2;go_wp2_with fail;refine zS He (fun qh=> ?_);refine tZ 0 14 ?_;refine tZ 2 16 ?_;refine cZ 1 ?_;intro K j;go_simp;refine(Qd7 _).mono ?_;rintro e w2 ⟨s1,s2,rfl,H9,H7,H8,m1,m2,b2⟩;have Hj:Bl w1 w2:=⟨b2.os,b2.tape,b2.output,b2.size,b2.block⟩;have H0:=hid (Qhm (B:=w1.heap.size) m1 m2 H9 ⟨H7,H8⟩);have Hz:=hid (QiL ta tc ts w2 (by have:=Gh.out;omega) Ge (Gg.bw Hj));clear H9 H7 H8 m1 m2 b2;refine j.out _ _ (He _ Hj) (fun qh=> ?_);clear j K;try simp only [zP]
 refine cZ 3 ?_;intro K j;go_simp;refine Hz.mono ?_;rintro e H ⟨⟨bd,n,D,G,L,rfl,hn,hG,Hg,H4,Hf,_⟩,b3⟩;have z:=Qaa Hj b3;have Hq:=Qia (g:=gn) (P:=[]) HS (PtO.nil S) hn hG Hg H4 Hf Gd (x0:=(s1,s2)) (H0.1.bw b3) (if_pos rfl) H0.2;have Hl:=hid (QhS H ((HO.bw Hk).bw z) Hq.1 Hq.2 (Qi9 _ _) HS.w (Qma HS (PtO.nil S)));have Gk:=hid z;have Ha:=hid (Qaa Hk z);have Hy:=hid (Hx.bw Ha Hx.lt);have Hv:=hid (Hu.bw Ha Hu.lt);clear hn hG Hg H4 Hf b3 Hq Hz;obtain⟨X,hX⟩:=zE (chX S (dlS gn S.l []));obtain⟨Y,hY⟩:=zE (chY S (dlS gn S.l []));obtain⟨C,hC⟩:=zE (chC S (dlS gn S.l []));rw [hX,hY,hC] at Hl;have u:=hid (And.intro hX (And.intro hY hC));clear hX hY hC;refine j.out _ _ (He _ z) (fun qh=> ?_);clear j K;try simp only [zP]
 refine tZ 4 18 ?_;refine cZ 5 ?_;intro K j;go_simp;refine Hl.mono ?_;rintro e w4 ⟨A,M,V,Q,E,O,Z,U,m,rfl,ox,oy,b4⟩;have R4:=Hy.bw b4 Hy.lt;have Q4:=Hv.bw b4 Hv.lt;have X4:=(I.bw z I.lt).bw b4 (I.bw z I.lt).lt;have Gb:=hid (Qaa Ga (Qaa Ha b4));have Ht:=hid ox;have Hm:=hid oy;have H1:Hid (w.heap.size+3<=H.heap.size):=hid (by have h1:=Gi.out;have h2:=Ha.size;omega);have H2:=Qaa z b4;clear ox oy;refine j.out _ _ (He _ H2) (fun qh=> ?_);clear j K;try simp only [zP]
 refine tZ 6 20 ?_;refine tZ 7 21 ?_;refine tZ 8 22 ?_;obtain⟨r0,r1,rf⟩:=R4.p2;have HC:=hid (R4.set (.slice A X.l.length M) (.slice V X.n Q));have Hi:=hid ((X4.far (Qan w4 ⟨w.heap.size+1,0,none⟩ (.slice A X.l.length M)) (by show w.heap.size≠w.heap.size+1;omega)).far (Qan _ ⟨w.heap.size+1,1,none⟩ (.slice V X.n Q)) (by show w.heap.size≠w.heap.size+1;omega));have Hw:=hid ((Q4.setAt ⟨w.heap.size+1,0,none⟩ (.slice A X.l.length M) (by show w.heap.size+1≠w.heap.size+1+1;omega)).setAt ⟨w.heap.size+1,1,none⟩ (.slice V X.n Q) (by show w.heap.size+1≠w.heap.size+1+1;omega));have Ho:=hid ((Hi.far (Qan _ ⟨w.heap.size+1+1,0,none⟩ (.slice E Y.l.length O)) (by show w.heap.size≠w.heap.size+1+1;omega)).far (Qan _ ⟨w.heap.size+1+1,1,none⟩ (.slice Z Y.n U)) (by show w.heap.size≠w.heap.size+1+1;omega));have Gf:=hid (Hw.set (.slice E Y.l.length O) (.slice Z Y.n U));have Gc:=hid ((HC.setAt ⟨w.heap.size+1+1,0,none⟩ (.slice E Y.l.length O) (by show w.heap.size+1+1≠w.heap.size+1;omega)).setAt ⟨w.heap.size+1+1,1,none⟩ (.slice Z Y.n U) (by show w.heap.size+1+1≠w.heap.size+1;omega));refine cZ 9 ?_;intro K j;go_simp;refine j.out _ _ ⟨Hi.c0,Hi.c1,Hi.c2⟩ (fun qh=> ?_);clear j K;try simp only [zP]
 clear r0 r1 rf;obtain⟨r0,r1,rf⟩:=Hw.p2;refine cZ 10 ?_;intro K j;go_simp;refine j.out _ _ ⟨Ho.c0,Ho.c1,Ho.c2⟩ (fun qh=> ?_);clear j K;try simp only [zP]
 refine tZ 11 8 ?_;refine zD ?_;clear qh Hj z b4 H2 R4 Q4 X4 r0 r1 rf Hl He;go_wp2_with fail;obtain⟨s0,s1⟩:=Gc.q2;obtain⟨s2,s3⟩:=Gf.q2;refine zF (v:=.tuple #[.agg #[.slice A X.l.length M,.slice V X.n Q],.agg #[.slice E Y.l.length O,.slice Z Y.n U],.int .i64 C]) (by simp [results,Tryz.results105,go_sem,s0,s1,s2,s3]) ?_;refine⟨A,M,V,Q,E,O,Z,U,?_⟩;first|refine⟨by rw [u.1,u.2.1,u.2.2],m,?_,?_,?_⟩|refine⟨m,by rw [u.1,u.2.1,u.2.2],?_,?_,?_⟩
 ·rw [u.1];have hz:=H1.out;have h1:=Ht.out;exact SOw.wide ((((h1.set ⟨w.heap.size+1,0,none⟩ (.slice A X.l.length M) (.inl (by show w.heap.size+1<H.heap.size;omega))).set ⟨w.heap.size+1,1,none⟩ (.slice V X.n Q) (.inl (by show w.heap.size+1<H.heap.size;omega))).set ⟨w.heap.size+1+1,0,none⟩ (.slice E Y.l.length O) (.inl (by show w.heap.size+1+1<H.heap.size;omega))).set ⟨w.heap.size+1+1,1,none⟩ (.slice Z Y.n U) (.inl (by show w.heap.size+1+1<H.heap.size;omega))) (by omega) zL (by simp [World.setCell];exact Nat.le_trans Hm.hl.1 Hm.hl.2)
 ·rw [u.2.1];have hz:=H1.out;have Gj:H.heap.size<=m:=Ht.hl.1;have h1:=Hm.out;exact SOw.wide ((((h1.set ⟨w.heap.size+1,0,none⟩ (.slice A X.l.length M) (.inl (by show w.heap.size+1<m;omega))).set ⟨w.heap.size+1,1,none⟩ (.slice V X.n Q) (.inl (by show w.heap.size+1<m;omega))).set ⟨w.heap.size+1+1,0,none⟩ (.slice E Y.l.length O) (.inl (by show w.heap.size+1+1<m;omega))).set ⟨w.heap.size+1+1,1,none⟩ (.slice Z Y.n U) (.inl (by show w.heap.size+1+1<m;omega))) zL (by simp [World.setCell]) zL
 ·exact(((Gb.setCell (by simp) _).setCell (by simp) _).setCell (by simp;omega) _).setCell (by simp;omega) _
theorem OpA.far(h:OpA w x0 bm S){t:Nat}{ty:TypeId}(m:∃v f,w.heap[t]? =some (.cells v ty f))(hty:ty≠233)(hg:w.grownBy w' (some t)):OpA w' x0 bm S:=by
 obtain⟨n,D,G,N,B,b,k,q,s,A⟩:=h;obtain⟨v,f,m⟩:=m;refine⟨n,D,G,N,B,b,⟨k.own.kept hg (fun e=> ?_),k.at',k.has',fun r=>(k.rows r).kept hg ?_,k.apart⟩,q.same fun p x hx=>⟨hg.block _ (q.lt hx).1 (fun e=> ?_),hg.block _ (q.lt hx).2 (fun e=> ?_)⟩,s,A⟩
 ·obtain⟨y,O,j,_⟩:=k.own;injection e with e;rw [e,m] at j;cases j
 ·rcases (k.rows r).2 with ⟨o,_⟩|⟨g,M,Q,E,_,j,_⟩
  ·rw [o];exact .inl rfl
  ·refine .inr fun e=> ?_;rw [E] at e;have i:g=t:=by simpa [Value.ownBlock] using e
   rw [i,m] at j;injection j with j;injection j with _ j;exact hty j
 ·obtain⟨y,z,u⟩:=(q.kids p x hx).obj;injection e with e;rw [e,m] at u;cases u
 ·obtain⟨y,z,u⟩:=(q.marks p x hx).obj;injection e with e;rw [e,m] at u;cases u
theorem Qb9 (a x pa:Option Addr)(c d pc:Nat)(S:Sx)(p:List ByteArray)(v:ByteArray)(w:World)(hm:S.Sm)(hi:∀i,LfI (gL S.l i))(h:SAt w a x S)(hp:p.length<=1048576)(hseg:Qaw w pa p)(hv:v.size<=1048576):
  Cl 103 #[.agg #[.slice a S.l.length c,.slice x S.n d],.slice pa p.length pc,.string v] w fun e w'=>(∃m q r,e=.returned (.tuple #[.agg #[.map m,.map q,.map r],.int .i64 (ocC S p v)])/\ (ocC S p v=0 ->∃x0 Q,m=some (Prod.fst x0)/\ q=some (Prod.snd x0)/\ r=some Q/\ OpA w' x0 Q S))/\ Bl w w':=by
 obtain⟨W,y⟩:=zE ((w.alloc (.cells #[.slice a S.l.length c,.slice x S.n d] 40)).alloc (.cells #[.map none,.map none,.map none] 160));have O:Bl w W:=by rw [<- y];exact Qae _ _ _
 have J:Bx2 W w.heap.size (.slice a S.l.length c) (.slice x S.n d):=by rw [<- y];exact(Bx2.made w _ _ _).allocs _
 have L:Bx3 W (w.heap.size+1) (.map none) (.map none) (.map none):=by
  rw [<- y];simpa using Bx3.made (w.alloc (.cells #[.slice a S.l.length c,.slice x S.n d] 40)) (.map none) (.map none) (.map none) 160
 have C:W.heap.size=w.heap.size+2:=by rw [<- y];simp
 have Ha:Hid (∃G f,W.heap[w.heap.size+1]? =some (.cells G 160 f)):=hid (by
  rw [<- y];have:=heap_alloc_new (w.alloc (.cells #[.slice a S.l.length c,.slice x S.n d] 40)) (.cells #[.map none,.map none,.map none] 160);exact⟨_,_,by simpa using this⟩)
 have Y:=hid (QlH a x c d S W hm hi (h.bw O));have T:=hid (hseg.bw O);have D:=hid O;have K:=hid L;have Hc:=hid C;obtain⟨k0,k1⟩:=J.q2;obtain⟨V,H⟩:=zE (stB S);have E:=hid H;rw [H] at Y;clear O J L C h hseg H hi hm;go_enter Tryz.func103,Tryz.ntmps103;go_wp2_with fail;try rw [y]
 clear y;refine Y.mono ?_;rintro e w1 ⟨⟨m,q,r,rfl,X⟩,N⟩;have P:=hid X;obtain⟨I,k⟩:=zE (w1.alloc (.cells #[.map m,.map q,.map r] 160));have Z:Bl w1 I:=by rw [<- k];exact zO _ _
 have Hb:Hid (Bx3 I w1.heap.size (.map m) (.map q) (.map r)):=hid (by rw [<- k];exact Bx3.made _ _ _ _ _);have M:=hid (Qaa N Z);have F:=hid Z;have A:=hid (Qaa D M);have s:=hid (K.bw M K.lt);have R:=hid (T.bw M);clear N Z X k0 k1 Y;obtain⟨t0,t1,t2,tf⟩:=s.p3;cases V with
 | false=>
  have j:=hid (QjR (p:=p) (v:=v) E);have u:=hid (s.set (.map none) (.map none) (.map none));go_wp2_with fail;try rw [k]
  clear k;obtain⟨g,t,o⟩:=u.q3;refine zF (v:=.tuple #[.agg #[.map none,.map none,.map none],.int .i64 1]) (by simp [results,Tryz.results103,go_sem,g,t,o]) ⟨⟨none,none,none,by rw [j.out],fun h0=>by rw [j.out] at h0;cases h0⟩,?_⟩;exact((A.setCell (by simp) _).setCell (by simp) _).setCell (by simp) _
 | true=>
  have b:=hid (Qhb p pa pc I hp R);by_cases z:QaH p
  ·rw [Qah z] at b;by_cases U:v.size<=200
   ·have i1:(v.size:Int)<=200:=by omega
    have i2:¬(200:Int)<(v.size:Int):=by omega
    have j:=hid (QlG E (And.intro z U));have u:=hid (s.set (.map m) (.map q) (.map r));obtain⟨x0,x1,x2⟩:=Hb.q3;clear z U;go_wp2_with fail;try rw [k]
    clear k;refine b.mono ?_;rintro e B ⟨rfl,rfl⟩;go_wp2_with fail;obtain⟨g,t,o⟩:=u.q3;refine zF (v:=.tuple #[.agg #[.map m,.map q,.map r],.int .i64 0]) (by simp [results,Tryz.results103,go_sem,g,t,o]) ⟨⟨m,q,r,by rw [j.out],fun _=> ?_⟩,?_⟩
    ·obtain⟨y0,Q,e0,e1,e2,o1⟩:=P (by trivial);refine⟨y0,Q,e0,e1,e2,?_⟩;obtain⟨G,f,ht⟩:=Ha.out;have hb:=M.block (w.heap.size+1) (by have:=Hc.out;omega);exact(o1.bw F).far ⟨G,f,hb.trans ht⟩ (by decide) (Qnx _ _ _ _ _)
    ·exact((A.setCell (by simp) _).setCell (by simp) _).setCell (by simp) _
   ·have i1:¬(v.size:Int)<=200:=by omega
    have i2:(200:Int)<(v.size:Int):=by omega
    have j:=hid (Qh6 E (show¬(QaH p/\ v.size<=200) from fun hh=>U hh.2));have u:=hid (s.set (.map none) (.map none) (.map none));clear z U;go_wp2_with fail;try rw [k]
    clear k;refine b.mono ?_;rintro e B ⟨rfl,rfl⟩;go_wp2_with fail;obtain⟨g,t,o⟩:=u.q3;refine zF (v:=.tuple #[.agg #[.map none,.map none,.map none],.int .i64 2]) (by simp [results,Tryz.results103,go_sem,g,t,o]) ⟨⟨none,none,none,by rw [j.out],fun h0=>by rw [j.out] at h0;cases h0⟩,?_⟩;exact((A.setCell (by simp) _).setCell (by simp) _).setCell (by simp) _
  ·rw [Qaf z] at b;have j:=hid (Qh6 E (show¬(QaH p/\ v.size<=200) from fun hh=>z hh.1));have u:=hid (s.set (.map none) (.map none) (.map none));clear z;go_wp2_with fail;try rw [k]
   clear k;refine b.mono ?_;rintro e B ⟨rfl,rfl⟩;go_wp2_with fail;obtain⟨g,t,o⟩:=u.q3;refine zF (v:=.tuple #[.agg #[.map none,.map none,.map none],.int .i64 2]) (by simp [results,Tryz.results103,go_sem,g,t,o]) ⟨⟨none,none,none,by rw [j.out],fun h0=>by rw [j.out] at h0;cases h0⟩,?_⟩;exact((A.setCell (by simp) _).setCell (by simp) _).setCell (by simp) _
theorem Qhv (a x pa:Option Addr)(c d pc:Nat)(S:Sx)(p:List ByteArray)(w:World)(hm:S.Sm)(hi:∀i,LfI (gL S.l i))(h:SAt w a x S)(hp:p.length<=1048576)(hseg:Qaw w pa p):
  Cl 80 #[.agg #[.slice a S.l.length c,.slice x S.n d],.slice pa p.length pc] w fun e w'=>∃a c x d a' c' x' d' j,e=.returned (.tuple #[.agg #[.slice a (rmX S p).l.length c,.slice x (rmX S p).n d],.agg #[.slice a' (rmY S p).l.length c',.slice x' (rmY S p).n d'],.int .i64 (rmC S p)])/\ SOw w' w.heap.size j a x d (rmX S p)/\ SOw w' j w'.heap.size a' x' d' (rmY S p)/\ Bl w w':=by
 obtain⟨W,s⟩:=zE (((w.alloc (.cells #[.slice a S.l.length c,.slice x S.n d] 40)).alloc (.cells #[.slice none 0 0,.slice none 0 0] 40)).alloc (.cells #[.slice none 0 0,.slice none 0 0] 40));have Q:Bl w W:=by rw [<- s];exact(Qae _ _ _).alloc (by simp;omega) _
 have zW:W.heap.size=w.heap.size+3:=by rw [<- s];simp
 have A0:Bx2 W w.heap.size (.slice a S.l.length c) (.slice x S.n d):=by rw [<- s];exact((Bx2.made w _ _ _).allocs _).allocs _
 have R0:Bx2 W (w.heap.size+1) (.slice none 0 0) (.slice none 0 0):=by
  rw [<- s];have:=Bx2.made (w.alloc (.cells #[.slice a S.l.length c,.slice x S.n d] 40)) (.slice none 0 0) (.slice none 0 0) 40;exact(by simpa using this:Bx2 _ (w.heap.size+1) _ _).allocs _
 have Q0:Bx2 W (w.heap.size+1+1) (.slice none 0 0) (.slice none 0 0):=by
  rw [<- s];simpa using Bx2.made ((w.alloc (.cells #[.slice a S.l.length c,.slice x S.n d] 40)).alloc (.cells #[.slice none 0 0,.slice none 0 0] 40)) (.slice none 0 0) (.slice none 0 0) 40
 have B:=hid (Qb9 a x pa c d pc S p ⟨#[]⟩ W hm hi (h.bw Q) hp (hseg.bw Q) (by decide));have Hs:=hid (hseg.bw Q);have Hh:=hid R0;have Hg:=hid Q0;have Hj:=hid Q;have Hv:=hid zW;obtain⟨k0,k1⟩:=A0.q2;obtain⟨C,hC⟩:=zE (ocC S p ⟨#[]⟩);rw [hC] at B;have H:=hid hC;clear Q zW A0 R0 Q0 h hseg hi hm hC;go_enter Tryz.func80,Tryz.ntmps80;go_wp2_with fail;try rw [s]
 clear s;refine B.mono ?_;rintro e w1 ⟨⟨u0,u1,u2,rfl,ho⟩,b1⟩;have Hp:=hid ho;obtain⟨M,V⟩:=zE (w1.alloc (.cells #[.map u0,.map u1,.map u2] 160));have b2:Bl w1 M:=by rw [<- V];exact zO _ _
 have Ht:Hid (Bx3 M w1.heap.size (.map u0) (.map u1) (.map u2)):=hid (by rw [<- V];exact Bx3.made _ _ _ _ _);have O:=hid (Qaa b1 b2);have Ha:=hid b2;have G:=hid (Qaa Hj O);have I:=hid (Hh.bw O Hh.lt);have F:=hid (Hg.bw O Hg.lt);have Hr:=hid (Hs.bw O);clear b1 b2 ho k0 k1 B;by_cases A:C=0
 ·have m:=hid (QnO (S:=S) (p:=p) (by rw [H.out];exact A));have Hd:=Qf0 (S:=S) (p:=p) (v:=⟨#[]⟩) (by rw [H.out];exact A);obtain⟨x0,bm,rfl,rfl,rfl,o1⟩:=Hp A;have hs:=Qcx Hd.1;have L:=Hd.2.1;obtain⟨b,N⟩:=zE (M.alloc (.cells #[.int .i64 1,.int .i64 2,.int .i64 3] 3));have J:Bl M b:=by rw [<- N];exact zO _ _
  have Hi:QhD b M.heap.size [1,2,3]:=by
   rw [<- N];refine⟨by simp,fun i hi=> ?_⟩;match i,hi with
   | 0,_=>simp [gI]
   | 1,_=>simp [gI]
   | 2,_=>simp [gI]
   | i+3,hi=>exfalso;simp at hi;omega
  have P:=hid (fun Z (E:Bl b Z)=>QfA (gnR p) p pa pc M.heap.size 3 [1,2,3] Z ((((o1.bw Ha).bw J)).bw E) hs hp (Qdj L) (fun k U=>by
   simp at U;rcases U with rfl|rfl|rfl<;>decide) (by simp) (by
    have h1:=cW3 (p:=p) (by have:=L.1;omega) S.l;have h2:=hs.2.1;simp;omega) (fun x hx=>by
    rw [<- QlX (p:=p) (x:=x) (by have:=L.1;omega)];constructor
    ·rintro(e|e|e)
     ·exact⟨1,by simp,e⟩
     ·exact⟨2,by simp,e⟩
     ·exact⟨3,by simp,e⟩
    ·rintro⟨k,U,e⟩;simp at U;rcases U with rfl|rfl|rfl
     ·exact .inl e
     ·exact .inr (.inl e)
     ·exact .inr (.inr e)) ((Hr.bw J).bw E) (Hi.bw E))
  have He:=hid J;have HX:=Ht.out;obtain⟨Hy,Hz,H0⟩:=HX.q3;obtain⟨X,hX⟩:=zE (chX S (dlS (gnR p) S.l []));obtain⟨Y,hY⟩:=zE (chY S (dlS (gnR p) S.l []));obtain⟨Cc,Hc⟩:=zE (chC S (dlS (gnR p) S.l []));rw [hX,hY,Hc] at P;have R:Hid (rmX S p=X/\ rmY S p=Y/\ rmC S p=Cc):=hid ⟨m.1.trans hX,m.2.1.trans hY,m.2.2.trans Hc⟩;subst A;clear o1 hs L Hd J Hi HX hX hY Hc;go_wp2_with fail;try rw [V]
  try rw [N]
  refine(P _ zI).mono ?_;rintro e Z ⟨q,u,t,z,r,y,o,g,j,rfl,ox,oy,E⟩;have K:=Qaa He E;have R4:=I.bw K I.lt;have Q4:=F.bw K F.lt;have Hk:=hid (Qaa G K);have Hf:=hid ox;have D:=hid oy;have Hu:Hid (w.heap.size+3<=b.heap.size):=hid (by have h1:=Hv.out;have h2:=O.size;have h3:=He.size;omega);obtain⟨r0,r1,rf⟩:=R4.p2;have Hl:=hid (R4.set (.slice q X.l.length u) (.slice t X.n z));have Q5:=((Q4.setAt ⟨w.heap.size+1,0,none⟩ (.slice q X.l.length u) (by show w.heap.size+1≠w.heap.size+1+1;omega)).setAt ⟨w.heap.size+1,1,none⟩ (.slice t X.n z) (by show w.heap.size+1≠w.heap.size+1+1;omega));obtain⟨q0,q1,qf⟩:=Q5.p2;have Hb:=hid (Q5.set (.slice r Y.l.length y) (.slice o Y.n g));have Ho:=hid ((Hl.setAt ⟨w.heap.size+1+1,0,none⟩ (.slice r Y.l.length y) (by show w.heap.size+1+1≠w.heap.size+1;omega)).setAt ⟨w.heap.size+1+1,1,none⟩ (.slice o Y.n g) (by show w.heap.size+1+1≠w.heap.size+1;omega));clear ox oy E K R4 Q4 Q5 P Hy Hz H0 V N;go_wp2_with fail;obtain⟨s0,s1⟩:=Ho.q2;obtain⟨s2,s3⟩:=Hb.q2;refine zF (v:=.tuple #[.agg #[.slice q X.l.length u,.slice t X.n z],.agg #[.slice r Y.l.length y,.slice o Y.n g],.int .i64 Cc]) (by simp [results,Tryz.results80,go_sem,s0,s1,s2,s3]) ?_;have A:=Hu.out;have Hw:b.heap.size<=j:=Hf.hl.1;have G1:=SOw.wide ((((Hf.set ⟨w.heap.size+1,0,none⟩ (.slice q X.l.length u) (.inl (by show w.heap.size+1<b.heap.size;omega))).set ⟨w.heap.size+1,1,none⟩ (.slice t X.n z) (.inl (by show w.heap.size+1<b.heap.size;omega))).set ⟨w.heap.size+1+1,0,none⟩ (.slice r Y.l.length y) (.inl (by show w.heap.size+1+1<b.heap.size;omega))).set ⟨w.heap.size+1+1,1,none⟩ (.slice o Y.n g) (.inl (by show w.heap.size+1+1<b.heap.size;omega))) (lo':=w.heap.size) (hi':=j) (by omega) zL (by simp [World.setCell];exact Nat.le_trans D.hl.1 D.hl.2);have G2:=((((D.set ⟨w.heap.size+1,0,none⟩ (.slice q X.l.length u) (.inl (by show w.heap.size+1<j;omega))).set ⟨w.heap.size+1,1,none⟩ (.slice t X.n z) (.inl (by show w.heap.size+1<j;omega))).set ⟨w.heap.size+1+1,0,none⟩ (.slice r Y.l.length y) (.inl (by show w.heap.size+1+1<j;omega))).set ⟨w.heap.size+1+1,1,none⟩ (.slice o Y.n g) (.inl (by show w.heap.size+1+1<j;omega)));have G3:=(((Hk.setCell (p:=⟨w.heap.size+1,0,none⟩) (by show w.heap.size<=w.heap.size+1;omega) (.slice q X.l.length u)).setCell (p:=⟨w.heap.size+1,1,none⟩) (by show w.heap.size<=w.heap.size+1;omega) (.slice t X.n z)).setCell (p:=⟨w.heap.size+1+1,0,none⟩) (by show w.heap.size<=w.heap.size+1+1;omega) (.slice r Y.l.length y)).setCell (p:=⟨w.heap.size+1+1,1,none⟩) (by show w.heap.size<=w.heap.size+1+1;omega) (.slice o Y.n g);rw [R.1,R.2.1,R.2.2];have Hx:((((Z.setCell ⟨w.heap.size+1,0,none⟩ (.slice q X.l.length u)).setCell ⟨w.heap.size+1,1,none⟩ (.slice t X.n z)).setCell ⟨w.heap.size+1+1,0,none⟩ (.slice r Y.l.length y)).setCell ⟨w.heap.size+1+1,1,none⟩ (.slice o Y.n g)).heap.size=Z.heap.size:=by simp [World.setCell]
  rw [Hx];first
   | exact⟨q,u,t,z,r,y,o,g,j,rfl,G1,G2,G3⟩
   | exact⟨q,u,t,z,r,y,o,g,rfl,j,G1,G2,G3⟩
 ·have m:=hid (Qnz (S:=S) (p:=p) (by rw [H.out];exact A));have H1:(C==0)=false:=by simp [A]
  obtain⟨r0,r1,rf⟩:=I.p2;have Hm:=hid (I.set (.slice none 0 0) (.slice none 0 0));have T:=(F.setAt ⟨w.heap.size+1,0,none⟩ (.slice none 0 0) (by show w.heap.size+1≠w.heap.size+1+1;omega)).setAt ⟨w.heap.size+1,1,none⟩ (.slice none 0 0) (by show w.heap.size+1≠w.heap.size+1+1;omega);obtain⟨q0,q1,qf⟩:=T.p2;have Hq:=hid (T.set (.slice none 0 0) (.slice none 0 0));have Hn:=hid ((Hm.setAt ⟨w.heap.size+1+1,0,none⟩ (.slice none 0 0) (by show w.heap.size+1+1≠w.heap.size+1;omega)).setAt ⟨w.heap.size+1+1,1,none⟩ (.slice none 0 0) (by show w.heap.size+1+1≠w.heap.size+1;omega));clear T;go_wp2_with fail;try rw [V]
  obtain⟨s0,s1⟩:=Hn.q2;obtain⟨s2,s3⟩:=Hq.q2;refine zF (v:=.tuple #[.agg #[.slice none 0 0,.slice none 0 0],.agg #[.slice none 0 0,.slice none 0 0],.int .i64 C]) (by simp [results,Tryz.results80,go_sem,s0,s1,s2,s3]) ⟨none,0,none,0,none,0,none,0,w.heap.size,by rw [m.1,m.2.1,m.2.2,H.out];rfl,?_,?_,?_⟩
  ·rw [m.1];exact SOw.mt _ Sx.mt rfl rfl _ _ ⟨Nat.le_refl _,by simp [World.setCell];exact G.size⟩ _ _ _
  ·rw [m.2.1];exact SOw.emp _ _ _ _ _ (by simp [World.setCell];exact G.size)
  ·exact(((G.setCell (by simp) _).setCell (by simp) _).setCell (by simp;omega) _).setCell (by simp;omega) _
theorem QlM{D:DataW Value}{G:Int ->Value}(h:Qaz w bm n D G L)(r tk:Int)(hr:(Lit.int .i64 r).wf=true)(hl:(L r).length<=1000000)(ht:QaY (L r)=tk)(h0:0<=tk)(h1:tk<=1000000000):
  Cl 124 #[.map (some bm),.int .i64 r] w fun e w'=>
   ((0<=r/\ r<8)/\ tk+1<=1000000000 ->e=.returned (.tuple #[.agg #[.int .i64 r,.int .i64 (tk+1)],.bool true]))/\ (¬((0<=r/\ r<8)/\ tk+1<=1000000000) ->e=.returned (.tuple #[.agg #[.int .i64 0,.int .i64 0],.bool false]))/\ Bl w w':=by
 obtain⟨k,j⟩:=zE (w.alloc (.cells #[.int .i64 0,.int .i64 0] 104));have y:Bl w k:=by rw [<- j];exact zO _ _
 have x0:k.cell? ⟨w.heap.size,0,none⟩=some (.int .i64 0):=by rw [<- j];simp
 have g:k.cell? ⟨w.heap.size,1,none⟩=some (.int .i64 0):=by rw [<- j];simp
 have o:k.frozen? ⟨w.heap.size,0,none⟩=false:=by rw [<- j];simp
 have i:k.frozen? ⟨w.heap.size,1,none⟩=false:=by rw [<- j];simp
 have u:=hid (Qj3 (h.bw y) r hr hl);have q:=hid y;rw [ht] at u;clear h y ht hl;go_enter Tryz.func124,Tryz.ntmps124;go_wp2_with fail;try rw [j]
 clear j;refine u.mono ?_;rintro e w1 ⟨rfl,rfl⟩;clear u;by_cases z:0<=r/\ r<8
 ·have m:=hid (QdE r w1 z.1 z.2);by_cases b:tk+1<=1000000000
  ·go_wp2_with fail;refine m.mono ?_;rintro e t ⟨rfl,rfl⟩;go_wp2_with fail;refine zF (v:=.tuple #[.agg #[.int .i64 r,.int .i64 (tk+1)],.bool true]) (by simp [results,Tryz.results124,go_sem,x0,g]) ⟨(fun _=>rfl),(fun h=>by exfalso;omega),?_⟩;exact(q.setCell (by simp) _).setCell (by simp) _
  ·go_wp2_with fail;refine m.mono ?_;rintro e t ⟨rfl,rfl⟩;go_wp2_with fail;refine zF (v:=.tuple #[.agg #[.int .i64 0,.int .i64 0],.bool false]) (by simp [results,Tryz.results124,go_sem,x0,g]) ⟨(fun h=>by exfalso;omega),(fun _=>rfl),?_⟩;exact(q.setCell (by simp) _).setCell (by simp) _
 ·have m:=hid (QeI r w1 z);go_wp2_with fail;refine m.mono ?_;rintro e t ⟨rfl,rfl⟩;go_wp2_with fail;refine zF (v:=.tuple #[.agg #[.int .i64 0,.int .i64 0],.bool false]) (by simp [results,Tryz.results124,go_sem,x0,g]) ⟨(fun h=>by exfalso;omega),(fun _=>rfl),?_⟩;exact(q.setCell (by simp) _).setCell (by simp) _
theorem Qaz.gtX{D:DataW Value}{G:Int ->Value}(h:Qaz w bm n D G L)(hg:Gt B w w')(hX:w'.heap[bm]? =w.heap[bm]?):Qaz w' bm n D G L:=by
 refine⟨?_,h.at',h.has',fun r=> ?_,h.apart⟩
 ·obtain⟨m,j,e,k⟩:=h.own;exact⟨m,j,hX.trans e,k⟩
 ·refine⟨(h.rows r).1,(h.rows r).2.imp id ?_⟩;rintro⟨g,u,v,e,y,q,k⟩;exact⟨g,u,v,e,y,(hg.block g ((h.rows r).lt g (by rw [e];rfl)).2 (.inr fun m j e2=>by rw [q] at e2;cases e2)).trans q,k⟩
theorem Qic (w:World)(r q:Int):DR (w.alloc (.cells #[.int .i64 r,.int .i64 q] 104)) w.heap.size (.slice (some ⟨w.heap.size,0,none⟩) 1 1) [(r,q)]:=by
 have:=World.ownsRow_lit (base:=w.heap.size) (e:=104) (size:=2) w #[.int .i64 r,.int .i64 q] 1 zL (by unfold maxLen;omega) rfl;simpa [DR,Ds.kRow,Ds.kCells] using this
theorem Qe8 (w:World)(k:Int):QhD (w.alloc (.cells #[.int .i64 k] 3)) w.heap.size [k]:=⟨by simp,fun i hi=>by
 obtain rfl:i=0:=by simpa using hi
 simp [gI]⟩
theorem Qoj {G T:Prop}(h:Hid T ->G)(k:T):G:=h k
theorem QkJ(rep:Int)(p:List ByteArray)(a:Option Addr)(cp:Nat)(fl:Bool)(v:ByteArray)(w:World)(h:OpA w x0 bm S)(hs:QaT S.R S.F S.T S.n S.l)(hpo:QaH p)(hv:v.size<=200)(hfv:fl=true ->emB v=true)(hrep:(Lit.int .i64 rep).wf=true)(hseg:Qaw w a p):
  Cl 104 #[.agg #[.map (some x0.1),.map (some x0.2),.map (some bm)],.int .i64 rep,.slice a p.length cp,.int .i64 (kd fl),.agg #[.string v]] w fun e w'=>∃a c x d a' c' x' d' Hd,e=.returned (.tuple #[.agg #[.slice a (wrX S rep p fl v).l.length c,.slice x (wrX S rep p fl v).n d],.agg #[.slice a' (wrY S rep p fl v).l.length c',.slice x' (wrY S rep p fl v).n d'],.int .i64 (wrC S rep p fl v)])/\ SOw w' w.heap.size Hd a x d (wrX S rep p fl v)/\ SOw w' Hd w'.heap.size a' x' d' (wrY S rep p fl v)/\ Bl w w':=by
 obtain⟨W,hW⟩:=zE ((((w.alloc (.cells #[.map (some x0.1),.map (some x0.2),.map (some bm)] 160)).alloc (.cells #[.string v] 165)).alloc (.cells #[.slice none 0 0,.slice none 0 0] 40)).alloc (.cells #[.slice none 0 0,.slice none 0 0] 40));have b0:Bl w W:=by rw [<- hW];exact((Qae _ _ _).alloc (by simp;omega) _).alloc (by simp;omega) _
 have zW:W.heap.size=w.heap.size+4:=by rw [<- hW];simp
 have al:∀(v:World) (o:Obj),Bl v (v.alloc o):=fun v o=>zO _ _;have A0:Bx3 W w.heap.size (.map (some x0.1)) (.map (some x0.2)) (.map (some bm)):=by
  rw [<- hW];exact(((Bx3.made w _ _ _ _).bw (al _ _) (by simp)).bw (al _ _) (by simp;try omega)).bw (al _ _) (by simp;try omega)
 have M0:Bx1 W (w.heap.size+1) (.string v):=by
  rw [<- hW];have:=Bx1.made (w.alloc (.cells #[.map (some x0.1),.map (some x0.2),.map (some bm)] 160)) (.string v) 165;exact((by simpa using this:Bx1 _ (w.heap.size+1) _).bw (al _ _) (by simp)).bw (al _ _) (by simp;try omega)
 have R0:Bx2 W (w.heap.size+1+1) (.slice none 0 0) (.slice none 0 0):=by
  rw [<- hW];have:=Bx2.made ((w.alloc (.cells #[.map (some x0.1),.map (some x0.2),.map (some bm)] 160)).alloc (.cells #[.string v] 165)) (.slice none 0 0) (.slice none 0 0) 40;exact(by simpa using this:Bx2 _ (w.heap.size+1+1) _ _).allocs _
 have Q0:Bx2 W (w.heap.size+1+1+1) (.slice none 0 0) (.slice none 0 0):=by
  rw [<- hW];simpa using Bx2.made (((w.alloc (.cells #[.map (some x0.1),.map (some x0.2),.map (some bm)] 160)).alloc (.cells #[.string v] 165)).alloc (.cells #[.slice none 0 0,.slice none 0 0] 40)) (.slice none 0 0) (.slice none 0 0) 40
 have Gs:=Qax.1 hs.1;have K0:=(Qg7 S.n Gs.1).2.2.1 rep;have Gr:=QeQ hs.1 rep;obtain⟨tq,Gg⟩:=zE (QaW S.R S.T rep S.n);have Jn:=hid Gg;have Kf:Hid (Qgk S rep↔(0<=rep/\ rep<8)/\ tq+1<=1000000000):=hid (by unfold Qgk;rw [Gg]);obtain⟨n0,D0,G0,N0,B0,Jy,Ku,_⟩:=h.bw b0;have Ke:=hid (QlM Ku rep tq hrep (by have:=Qbo S.R S.F S.T S.n rep;have:=Gs.2;omega) (K0.symm.trans Gg) (by omega) (by omega));have HO:=hid (h.bw b0);have HS:=hid hs;have Hp:=hid hpo;have Kp:Hid (v.size<=200/\ (fl=true ->emB v=true)):=hid ⟨hv,hfv⟩;have Jk:=hid hrep;have Kn:=hid (hseg.bw b0);have G9:=hid A0;have Kd:=hid M0;have Ge:=hid R0;have Gc:=hid Q0;have Gk:=hid b0;have Jr:=hid zW;obtain⟨k0,k1,k2⟩:=A0.q3;obtain⟨kk,Gt⟩:=zE (kd fl);have Ho:=hid Gt;rw [Gt];clear b0 zW A0 M0 R0 Q0 al h hs hseg Gs K0 Gr Gg Ku Jy hpo hv hfv hrep Gt;go_enter Tryz.func104,Tryz.ntmps104;go_wp2_with fail;try rw [hW]
 clear hW;refine Ke.mono ?_;rintro e w1 ⟨O,Gu,b1⟩;have Gl:=hid b1;have Gf:=hid (Ge.bw b1 Ge.lt);have Gd:=hid (Gc.bw b1 Gc.lt);have Gj:=hid (G9.bw b1 G9.lt);clear b1 k0 k1 k2 Ke;by_cases hc:(0<=rep/\ rep<8)/\ tq+1<=1000000000
 ·have A:=O hc;clear O Gu;subst A;have H3:Hid (Qgk S rep):=hid (Kf.2 hc);have HZ:=hid (QnY (S:=S) (rep:=rep) (p:=p) (fl:=fl) (v:=v) H3);obtain⟨q,hq⟩:=zE (tq+1);have Kj:Hid (nxY S rep p fl v=⟨p,fl,rep,q,v⟩):=hid (by unfold nxY;rw [Jn.out,hq]);have Jj:Hid ((0<=rep/\ rep<8)/\ q<=1000000000):=hid (by rw [<- hq];exact hc);have Gb:Hid (PtO S [⟨p,fl,rep,q,v⟩]):=hid (by rw [<- Kj.out];exact QiC HS Hp Kp.1 Kp.2 H3);have Jq:Hid (wrD S rep p fl v=dlS (gnS p fl) S.l [⟨p,fl,rep,q,v⟩]):=hid (by unfold wrD;rw [Kj.out]);rw [hq];clear hc hq;obtain⟨M,Hn⟩:=zE (w1.alloc (.cells #[.int .i64 rep,.int .i64 q] 104));have b2:Bl w1 M:=by rw [<- Hn];exact zO _ _
  have H1:Hid (Bx2 M w1.heap.size (.int .i64 rep) (.int .i64 q)):=hid (by rw [<- Hn];exact Bx2.made _ _ _ _);have Hr:=hid (Qaa Gl b2);have Hz:=hid (Gj.bw b2 Gj.lt);have Z:Hid (∀w',Bl M w' ->(w'.cell? ⟨w.heap.size,0,none⟩=some (.map (some x0.1))/\ w'.cell? ⟨w.heap.size,1,none⟩=some (.map (some x0.2))/\ w'.cell? ⟨w.heap.size,2,none⟩=some (.map (some bm))/\ w'.cell? ⟨w1.heap.size,0,none⟩=some (.int .i64 rep)/\ w'.cell? ⟨w1.heap.size,1,none⟩=some (.int .i64 q))):=hid (fun w' b=>by
   have A1:=Hz.bw b Hz.lt;have D1:=H1.bw b H1.lt;exact⟨A1.c0,A1.c1,A1.c2,D1.c0,D1.c1⟩)
  have Ga:Hid (∀w' g,Bl M w' ->QhD w' g [kk] ->Cl 125 #[.agg #[.map (some x0.1),.map (some x0.2),.map (some bm)],.slice a p.length cp,.slice (some ⟨g,0,none⟩) 1 1] w' fun e G7=>(∃v V,e=.returned v/\ DR G7 w'.heap.size v V/\ (∀d:Dt,d∈V↔∃y,(y∈S.l/\ gnS p fl y)/\ y.r=d.1/\ y.q=d.2)/\ V.length<=1000)/\ Bl w' G7):=hid (fun w' g b hi=>by
   obtain⟨N,B,hT,H8⟩:=(HO.bw Hr).tj HS.2.2.2;have h8:∀x∈S.l,(Way x).length<=8:=fun x hx=>Qn0 (QdJ HS.w x hx).2.2.2;have J6:=Hp.2.1;refine(Qib hT H8 (by have:=HS.2.1;omega) HS.2.1 h8 p a cp bm g 1 [kk] (by omega) (Qdj Hp) (fun k hk=> ?_) (by simp) w' b ((Kn.bw Hr).bw b) hi).mono ?_
   ·rw [List.mem_singleton.1 hk,<- Ho.out];rcases QdQ fl with e|e<;>rw [e]<;>decide
   ·rintro e G7 ⟨⟨v1,V,he,Js,Jw,Jt⟩,b1⟩;refine⟨⟨v1,V,he,Js,fun d=> ?_,?_⟩,b1⟩
    ·rw [Jw d];have h0:0<p.length:=Hp.1;constructor
     ·rintro⟨k,hk,x,hx,H7,e⟩;rw [List.mem_singleton.1 hk,<- Ho.out] at H7;exact⟨x,⟨hx,(Qg3 h0).1 H7⟩,congrArg Prod.fst e,congrArg Prod.snd e⟩
     ·rintro⟨y,⟨O,hg⟩,A,Q⟩;exact⟨kk,List.mem_singleton.2 rfl,y,O,by rw [<- Ho.out];exact(Qg3 h0).2 hg,Prod.ext A Q⟩
    ·rw [Jt];have h1:=cW3 (p:=p) Hp.1 S.l;have h2:=HS.2.1;rw [<- Ho.out];rcases QdQ fl with e|e<;>rw [e]<;>simp<;>omega)
  clear b2;go_wp2_with fail;try rw [Hn]
  clear Hn;apply Qoj
  ·intro G4;refine zS Z (fun qh=> ?_);refine tZ 0 28 ?_;refine tZ 1 29 ?_;refine tZ 2 30 ?_;refine tZ 5 33 ?_;obtain⟨H,Gx⟩:=zE M.drew;have c0:Bl M H:=by rw [<- Gx];exact zI.drew
   rw [Gx];clear Gx;refine Qa0 (i:=3) (j:=6) (d:=some 31) (d':=some 34) (by kernel_rfl) (by kernel_rfl) (by kernel_rfl) ?_ ?_
   ·skip;intro o ho Gv K m;simp only [gZa,gZb,gZc,gZd] at ho;subst ho;go_simp;obtain⟨E,Hm⟩:=zE (H.alloc (.cells #[.int .i64 kk] 3));have K4:QhD E H.heap.size [kk]:=by rw [<- Hm];exact Qe8 _ _
    have Hv:Bl H E:=by rw [<- Hm];exact zO _ _
    rw [Hm];clear Hm;have c1:=Qaa c0 Hv;refine m.out _ _ (Z _ c1) (fun qh=> ?_);clear m K;try simp only [zP]
    refine Qa0 (i:=4) (j:=6) (d:=some 32) (d':=some 34) (by kernel_rfl) (by kernel_rfl) (by kernel_rfl) ?_ ?_
    ·skip;intro o ho Gv K m;simp only [gZa,gZb,gZc,gZd] at ho;subst ho;go_simp;refine(Ga _ _ c1 K4).mono ?_;rintro e t ⟨⟨v3,V,rfl,G6,J3,J7⟩,Hi⟩;have c2:=Qaa c1 Hi;refine m.out _ _ (Z _ c2) (fun qh=> ?_);clear m K;try simp only [zP]
     refine cZ 6 ?_;intro K m;go_simp;obtain⟨u3,Gh⟩:=zE (t.alloc (.cells #[.int .i64 rep,.int .i64 q] 104));have J2:DR u3 t.heap.size (.slice (some ⟨t.heap.size,0,none⟩) 1 1) [(rep,q)]:=by rw [<- Gh];exact Qic _ _ _
     have I:Bl t u3:=by rw [<- Gh];exact zO _ _
     rw [Gh];clear Gh;have c3:=Qaa c2 I;refine m.out _ _ (Z _ c3) (fun qh=> ?_);clear m K;try simp only [zP]
     have z1:=Hi.size;have z2:=I.size;have z3:=Hv.size;have z4:=c0.size;have Hx:E.heap.size<=u3.heap.size:=by omega
     obtain⟨v6,s,Hc,r6,g6⟩:=Qdt E.heap.size t.heap.size v3 (.slice (some ⟨t.heap.size,0,none⟩) 1 1) V [(rep,q)] u3 193 (G6.bw I) J2 Hx (by simp;omega);have Hk:Bl M s:=c3.grown g6.1 c3.size (fun k e=>by
      have h1:=(World.ownsRow.lt (G6.bw I) k e).1;omega)
     obtain⟨u,U⟩:=zE (V++[(rep,q)]);rw [U] at r6;have Hl:u.length<=1001:=by rw [<- U];simp;omega
     have Hj:∀d:Dt,d∈u↔(∃y,(y∈S.l/\ gnS p fl y)/\ y.r=d.1/\ y.q=d.2) \/∃y∈[(⟨p,fl,rep,q,v⟩:Lf)],y.r=d.1/\ y.q=d.2:=fun d=>by
      rw [<- U,List.mem_append,J3 d,List.mem_singleton];constructor
      ·rintro(e|e)
       ·exact .inl e
       ·exact .inr ⟨_,List.mem_singleton.2 rfl,by rw [e],by rw [e]⟩
      ·rintro(e|⟨y,O,A,Q⟩)
       ·exact .inl e
       ·rw [List.mem_singleton.1 O] at A Q;exact .inr (Prod.ext A.symm Q.symm)
     obtain⟨ta,tc,rfl,Ha,Gy,Gz⟩:=Qca r6;clear U;refine cZ 7 ?_;intro K m;refine QaP _ _ _ _ rfl Hc (by rfl) (by rfl) rfl ?_;refine m.out _ _ (Z _ Hk) (fun qh=> ?_);clear m K;try simp only [zP]
     refine tZ 8 15 ?_;refine zD ?_;have hP:Qjl s ta u/\ (∀d:Dt,d∈u↔(∃y,(y∈S.l/\ gnS p fl y)/\ y.r=d.1/\ y.q=d.2) \/∃y∈[(⟨p,fl,rep,q,v⟩:Lf)],y.r=d.1/\ y.q=d.2)/\ u.length<=1001/\ Bl M s:=⟨Ha,Hj,Hl,Hk⟩;generalize m:H.heap.size=aK;generalize hL:t.heap.size=aL;clear m hL qh Hc r6 g6 Hk Hl Hj Ha Hx Gy Gz;try clear G6
     try clear Hy
     revert hP;revert s;revert u;revert tc;revert ta;revert v3;revert aL;revert aK;exact G4
    ·skip;intro o ho Gv K m;simp only [gZa,gZb,gZc,gZd] at ho;subst ho;go_simp;obtain⟨t,J⟩:=zE (E.alloc (.cells #[.int .i64 rep,.int .i64 q] 104));have J1:DR t E.heap.size (.slice (some ⟨E.heap.size,0,none⟩) 1 1) [(rep,q)]:=by rw [<- J];exact Qic _ _ _
     have Hi:Bl E t:=by rw [<- J];exact zO _ _
     rw [J];clear J;have c2:=Qaa c1 Hi;refine m.out _ _ (Z _ c2) (fun qh=> ?_);clear m K;try simp only [zP]
     refine cZ 4 ?_;intro K m;go_simp;refine(Ga _ _ c2 (K4.bw Hi)).mono ?_;rintro e u3 ⟨⟨v3,V,rfl,Hy,G5,J4⟩,I⟩;have c3:=Qaa c2 I;refine m.out _ _ (Z _ c3) (fun qh=> ?_);clear m K;try simp only [zP]
     have z1:=Hi.size;have z2:=I.size;have z3:=Hv.size;have z4:=c0.size;have Hx:t.heap.size<=u3.heap.size:=by omega
     obtain⟨v6,s,Hc,r6,g6⟩:=Qdt t.heap.size E.heap.size v3 (.slice (some ⟨E.heap.size,0,none⟩) 1 1) V [(rep,q)] u3 193 Hy (J1.bw I) Hx (by simp;omega);have Hk:Bl M s:=c3.grown g6.1 c3.size (fun k e=>by
      have h1:=(World.ownsRow.lt Hy k e).1;omega)
     obtain⟨u,U⟩:=zE (V++[(rep,q)]);rw [U] at r6;have Hl:u.length<=1001:=by rw [<- U];simp;omega
     have Hj:∀d:Dt,d∈u↔(∃y,(y∈S.l/\ gnS p fl y)/\ y.r=d.1/\ y.q=d.2) \/∃y∈[(⟨p,fl,rep,q,v⟩:Lf)],y.r=d.1/\ y.q=d.2:=fun d=>by
      rw [<- U,List.mem_append,G5 d,List.mem_singleton];constructor
      ·rintro(e|e)
       ·exact .inl e
       ·exact .inr ⟨_,List.mem_singleton.2 rfl,by rw [e],by rw [e]⟩
      ·rintro(e|⟨y,O,A,Q⟩)
       ·exact .inl e
       ·rw [List.mem_singleton.1 O] at A Q;exact .inr (Prod.ext A.symm Q.symm)
     obtain⟨ta,tc,rfl,Ha,Gy,Gz⟩:=Qca r6;clear U;refine cZ 7 ?_;intro K m;refine QaP _ _ _ _ rfl Hc (by rfl) (by rfl) rfl ?_;refine m.out _ _ (Z _ Hk) (fun qh=> ?_);clear m K;try simp only [zP]
     refine tZ 8 15 ?_;refine zD ?_;have hP:Qjl s ta u/\ (∀d:Dt,d∈u↔(∃y,(y∈S.l/\ gnS p fl y)/\ y.r=d.1/\ y.q=d.2) \/∃y∈[(⟨p,fl,rep,q,v⟩:Lf)],y.r=d.1/\ y.q=d.2)/\ u.length<=1001/\ Bl M s:=⟨Ha,Hj,Hl,Hk⟩;exact G4 H.heap.size E.heap.size v3 ta tc u s hP
   ·skip;intro o ho Gv K m;simp only [gZa,gZb,gZc,gZd] at ho;subst ho;go_simp;obtain⟨E,Hm⟩:=zE (H.alloc (.cells #[.int .i64 rep,.int .i64 q] 104));have J0:DR E H.heap.size (.slice (some ⟨H.heap.size,0,none⟩) 1 1) [(rep,q)]:=by rw [<- Hm];exact Qic _ _ _
    have Hv:Bl H E:=by rw [<- Hm];exact zO _ _
    rw [Hm];clear Hm;have c1:=Qaa c0 Hv;refine m.out _ _ (Z _ c1) (fun qh=> ?_);clear m K;try simp only [zP]
    refine cZ 3 ?_;intro K m;go_simp;obtain⟨t,J⟩:=zE (E.alloc (.cells #[.int .i64 kk] 3));have Jz:QhD t E.heap.size [kk]:=by rw [<- J];exact Qe8 _ _
    have Hi:Bl E t:=by rw [<- J];exact zO _ _
    rw [J];clear J;have c2:=Qaa c1 Hi;refine m.out _ _ (Z _ c2) (fun qh=> ?_);clear m K;try simp only [zP]
    refine cZ 4 ?_;intro K m;go_simp;refine(Ga _ _ c2 Jz).mono ?_;rintro e u3 ⟨⟨v3,V,rfl,Hy,G5,J4⟩,I⟩;have c3:=Qaa c2 I;refine m.out _ _ (Z _ c3) (fun qh=> ?_);clear m K;try simp only [zP]
    have z1:=Hi.size;have z2:=I.size;have z3:=Hv.size;have z4:=c0.size;have Hx:t.heap.size<=u3.heap.size:=by omega
    obtain⟨v6,s,Hc,r6,g6⟩:=Qdt t.heap.size H.heap.size v3 (.slice (some ⟨H.heap.size,0,none⟩) 1 1) V [(rep,q)] u3 193 Hy ((J0.bw Hi).bw I) Hx (by simp;omega);have Hk:Bl M s:=c3.grown g6.1 c3.size (fun k e=>by
     have h1:=(World.ownsRow.lt Hy k e).1;omega)
    obtain⟨u,U⟩:=zE (V++[(rep,q)]);rw [U] at r6;have Hl:u.length<=1001:=by rw [<- U];simp;omega
    have Hj:∀d:Dt,d∈u↔(∃y,(y∈S.l/\ gnS p fl y)/\ y.r=d.1/\ y.q=d.2) \/∃y∈[(⟨p,fl,rep,q,v⟩:Lf)],y.r=d.1/\ y.q=d.2:=fun d=>by
     rw [<- U,List.mem_append,G5 d,List.mem_singleton];constructor
     ·rintro(e|e)
      ·exact .inl e
      ·exact .inr ⟨_,List.mem_singleton.2 rfl,by rw [e],by rw [e]⟩
     ·rintro(e|⟨y,O,A,Q⟩)
      ·exact .inl e
      ·rw [List.mem_singleton.1 O] at A Q;exact .inr (Prod.ext A.symm Q.symm)
    obtain⟨ta,tc,rfl,Ha,Gy,Gz⟩:=Qca r6;clear U;refine cZ 7 ?_;intro K m;refine QaP _ _ _ _ rfl Hc (by rfl) (by rfl) rfl ?_;refine m.out _ _ (Z _ Hk) (fun qh=> ?_);clear m K;try simp only [zP]
    refine tZ 8 15 ?_;refine zD ?_;have hP:Qjl s ta u/\ (∀d:Dt,d∈u↔(∃y,(y∈S.l/\ gnS p fl y)/\ y.r=d.1/\ y.q=d.2) \/∃y∈[(⟨p,fl,rep,q,v⟩:Lf)],y.r=d.1/\ y.q=d.2)/\ u.length<=1001/\ Bl M s:=⟨Ha,Hj,Hl,Hk⟩;exact G4 E.heap.size H.heap.size v3 ta tc u s hP
  intro aK aL v3 ta tc u s hP;obtain⟨Ha,Hj,Hl,b6⟩:=hP;have Gp:=hid Ha;have Je:=hid Hj;have Jd:=hid Hl;have J5:=hid b6;have Kc:=hid (H1.bw b6 H1.lt);have Jg:Hid (DOk u):=hid (fun d hd=>by
   rcases (Hj d).1 hd with ⟨y,⟨O,_⟩,A,Q⟩|⟨y,O,A,Q⟩
   ·have:=Qcp (Qbu HS) (Qci HS y O);unfold Rok dtR at this;simp only at this;omega
   ·have:=Gb.dot y O;unfold Rok dtR at this;simp only at this;omega)
  have Hb:=hid (Qaa Hr b6);have Ka:=hid (Hz.bw b6 Hz.lt);have H2:=hid (Kd.bw Hb Kd.lt);have Kl:=hid (Ge.bw Hb Ge.lt);have Ki:=hid (Gc.bw Hb Gc.lt);have Jf:=hid (HO.bw Hb);have Jl:=hid (Kn.bw Hb);clear Ha Hj Hl b6 Ga Z H1 Gf Gd Gj Hz;go_wp2_with fail;refine(Qd7 _).mono ?_;rintro e w7 ⟨s1,s2,rfl,Kz,Kw,Kx,m1,m2,b7⟩;have Ko:=hid (Qhm (B:=s.heap.size) m1 m2 Kz ⟨Kw,Kx⟩);have Jm:Hid (s1<w7.heap.size/\ s2<w7.heap.size):=hid ⟨m1.lt,m2.lt⟩;have Km:=hid (QiL ta tc u w7 (by have:=Jd.out;omega) Jg (Gp.bw b7));have K9:=hid b7;clear Kz Kw Kx m1 m2 b7;go_wp2_with fail;refine Km.mono ?_;rintro e w8 ⟨⟨bd,n,D,G,L,rfl,hn,hG,H9,Kv,H6,Gr⟩,b8⟩;obtain⟨w9,Gi⟩:=zE (w8.alloc (.cells #[.map (some s1),.map (some s2),.map (some bd)] 160));have b9:Bl w8 w9:=by rw [<- Gi];exact zO _ _
  have Kq:Hid (Bx3 w9 w8.heap.size (.map (some s1)) (.map (some s2)) (.map (some bd))):=hid (by rw [<- Gi];exact Bx3.made _ _ _ _ _);have Gq:=Qaa b8 b9;have Hu:=Qaa K9 Gq;have H0:=hid Hu;have Ks:∀(z:List Ky) (x:Nat×Nat),(if z=[] then some (s1,s2) else none)=some x ->x.1≠bd/\ x.2≠bd:=fun z x hx=>by
   have h1:=Jm.out;by_cases e:z=[]
   ·rw [if_pos e] at hx;injection hx with hx;subst hx;exact⟨by show s1≠bd;omega,by show s2≠bd;omega⟩
   ·rw [if_neg e] at hx;cases hx
  have Kt:bd<w9.heap.size:=by
   obtain⟨es,cl,hb,_⟩:=(hG.bw b9).own;exact(Array.getElem?_eq_some_iff.1 hb).1
  have K2:(Lit.int .i64 q).wf=true:=wfI (by have:=Gb.dot _ (List.mem_singleton.2 rfl);unfold Rok dtR at this;simp only at this;omega) (by have:=Jj.out;omega);have K1:(Lit.int .i64 kk).wf=true:=by rw [<- Ho.out];rcases QdQ fl with e|e<;>rw [e]<;>decide
  have Kh:=hid (Qof bd p a cp kk rep q v s.heap.size (9*0) (fun z=>if z=[] then some (s1,s2) else none) (Mk [] 0) (s1,s2) w9 (by have:=Hp.2.1;omega) (Qdj Hp) K1 Jk K2 (by omega) (by have:=Hu.size;omega) (Jl.bw Hu) (Ko.1.bw Gq) (if_pos rfl) Kt Ks);have Ht:Hid (n<=2000/\ Qaz w9 bd n D G L/\ (∀r,Srt (L r))/\ (∀r x,In (L r) x↔(r,x)∈u)/\∀r,(L r).length<=2000):=hid ⟨hn,hG.bw b9,H9,Kv,H6⟩;have X9:=Kq.out;obtain⟨y0,y1,y2⟩:=X9.q3;have D9:=Kc.bw Hu Kc.lt;obtain⟨y3,y4⟩:=D9.q2;have y5:=(H2.bw Hu H2.lt).c0;clear hn hG H9 Kv H6 Gr b8 b9 Gq Hu Ks Kt K2 K1 Km X9 D9;go_wp2_with fail;try rw [Gi]
  clear Gi;refine Kh.mono ?_;rintro e Hq ⟨rfl,Hw,K7,N',K6,K5,K3⟩;have bX:Bl s Hq:=H0.trans (Hw.bw (by have:=H0.size;omega));have Kr:NkI [(⟨p,fl,rep,q,v⟩:Lf)] 1 N':=fun z=>by
   rw [K3 z];have h1:=Ko.2 z;constructor
   ·rintro(e|e)
    ·rcases h1.1 e with e|⟨j,hj,_⟩
     ·exact .inl e
     ·omega
    ·exact .inr ⟨0,by omega,by rw [<- Ho.out] at e;exact e⟩
   ·rintro(e|⟨j,hj,e⟩)
    ·exact .inl (h1.2 (.inl e))
    ·obtain rfl:j=0:=by omega
     exact .inr (by rw [<- Ho.out];exact e)
  have Gw:=Qia (g:=gnS p fl) (P:=[(⟨p,fl,rep,q,v⟩:Lf)]) HS Gb Ht.1 (Ht.2.1.gtX Hw K7) Ht.2.2.1 Ht.2.2.2.1 Ht.2.2.2.2 Je (x0:=(s1,s2)) (N:=N') (B:=s.heap.size) (by
   have:=K6.mono (c':=9*1) (by have:=Hp.2.1;omega);rw [<- Ho.out] at this;exact this) K5 Kr
  have Gm:=hid (QhS Hq (Jf.bw bX) Gw.1 Gw.2 (Qi9 _ _) HS.w (Qma HS Gb));obtain⟨X,hX⟩:=zE (chX S (dlS (gnS p fl) S.l [⟨p,fl,rep,q,v⟩]));obtain⟨Y,hY⟩:=zE (chY S (dlS (gnS p fl) S.l [⟨p,fl,rep,q,v⟩]));obtain⟨C,hC⟩:=zE (chC S (dlS (gnS p fl) S.l [⟨p,fl,rep,q,v⟩]));rw [hX,hY,hC] at Gm;have Hs:Hid (wrX S rep p fl v=X/\ wrY S rep p fl v=Y/\ wrC S rep p fl v=C):=hid (by
   obtain⟨z1,z2,z3⟩:=HZ.out;rw [Jq.out] at z1 z2 z3;exact⟨z1.trans hX,z2.trans hY,z3.trans hC⟩)
  have Jo:=hid (Kq);have G8:=Ka.bw bX Ka.lt;obtain⟨l0,l1,l2⟩:=G8.q3;have z0:=Hw.cell y0;have z1:=Hw.cell y1;have z2:=Hw.cell y2;have H5:=hid (Kl.bw bX Kl.lt);have H4:=hid (Ki.bw bX Ki.lt);have Kb:=hid (Qaa Hb bX);clear y0 y1 y2 y3 y4 y5 bX Kr Gw hX hY hC G8 Hw K7 K6 K5 K3 Kh Ht;go_wp2_with fail;refine Gm.mono ?_;rintro e w4 ⟨ra,rc,rx,rd,He,Hh,Hg,Hf,Hd,rfl,ox,oy,b4⟩;have R4:=H5.bw b4 H5.lt;have Q4:=H4.bw b4 H4.lt;have K8:=hid (Qaa Gk (Qaa Kb b4));have Kg:=hid ox;have Gn:=hid oy;have Jp:Hid (w.heap.size+4<=Hq.heap.size):=hid (by have h1:=Jr.out;have h2:=Kb.size;omega);obtain⟨r0,r1,rf⟩:=R4.p2;have HC:=hid (R4.set (.slice ra X.l.length rc) (.slice rx X.n rd));have Q5:=((Q4.setAt ⟨w.heap.size+1+1,0,none⟩ (.slice ra X.l.length rc) (by show w.heap.size+1+1≠w.heap.size+1+1+1;omega)).setAt ⟨w.heap.size+1+1,1,none⟩ (.slice rx X.n rd) (by show w.heap.size+1+1≠w.heap.size+1+1+1;omega));obtain⟨q0,q1,qf⟩:=Q5.p2;have Go:=hid (Q5.set (.slice He Y.l.length Hh) (.slice Hg Y.n Hf));have Jc:=hid ((HC.setAt ⟨w.heap.size+1+1+1,0,none⟩ (.slice He Y.l.length Hh) (by show w.heap.size+1+1+1≠w.heap.size+1+1;omega)).setAt ⟨w.heap.size+1+1+1,1,none⟩ (.slice Hg Y.n Hf) (by show w.heap.size+1+1+1≠w.heap.size+1+1;omega));clear ox oy b4 R4 Q4 Q5 Gm l0 l1 l2 z0 z1 z2;go_wp2_with fail;obtain⟨s0,s1⟩:=Jc.q2;obtain⟨s2,s3⟩:=Go.q2;refine zF (v:=.tuple #[.agg #[.slice ra X.l.length rc,.slice rx X.n rd],.agg #[.slice He Y.l.length Hh,.slice Hg Y.n Hf],.int .i64 C]) (by simp [results,Tryz.results104,go_sem,s0,s1,s2,s3]) ?_;have hz:=Jp.out;have Jx:Hq.heap.size<=Hd:=Kg.hl.1;have A:=Hs.1;have Q:=Hs.2.1;have e3:=Hs.2.2;have G1:SOw ((((w4.setCell ⟨w.heap.size+1+1,0,none⟩ (.slice ra X.l.length rc)).setCell ⟨w.heap.size+1+1,1,none⟩ (.slice rx X.n rd)).setCell ⟨w.heap.size+1+1+1,0,none⟩ (.slice He Y.l.length Hh)).setCell ⟨w.heap.size+1+1+1,1,none⟩ (.slice Hg Y.n Hf)) w.heap.size Hd ra rx rd X:=
   SOw.wide ((((Kg.set ⟨w.heap.size+1+1,0,none⟩ (.slice ra X.l.length rc) (.inl (by show w.heap.size+1+1<Hq.heap.size;omega))).set ⟨w.heap.size+1+1,1,none⟩ (.slice rx X.n rd) (.inl (by show w.heap.size+1+1<Hq.heap.size;omega))).set ⟨w.heap.size+1+1+1,0,none⟩ (.slice He Y.l.length Hh) (.inl (by show w.heap.size+1+1+1<Hq.heap.size;omega))).set ⟨w.heap.size+1+1+1,1,none⟩ (.slice Hg Y.n Hf) (.inl (by show w.heap.size+1+1+1<Hq.heap.size;omega))) (by omega) zL (by simp [World.setCell];exact Nat.le_trans Gn.hl.1 Gn.hl.2)
  have G2:SOw ((((w4.setCell ⟨w.heap.size+1+1,0,none⟩ (.slice ra X.l.length rc)).setCell ⟨w.heap.size+1+1,1,none⟩ (.slice rx X.n rd)).setCell ⟨w.heap.size+1+1+1,0,none⟩ (.slice He Y.l.length Hh)).setCell ⟨w.heap.size+1+1+1,1,none⟩ (.slice Hg Y.n Hf)) Hd ((((w4.setCell ⟨w.heap.size+1+1,0,none⟩ (.slice ra X.l.length rc)).setCell ⟨w.heap.size+1+1,1,none⟩ (.slice rx X.n rd)).setCell ⟨w.heap.size+1+1+1,0,none⟩ (.slice He Y.l.length Hh)).setCell ⟨w.heap.size+1+1+1,1,none⟩ (.slice Hg Y.n Hf)).heap.size He Hg Hf Y:=
   SOw.wide ((((Gn.set ⟨w.heap.size+1+1,0,none⟩ (.slice ra X.l.length rc) (.inl (by show w.heap.size+1+1<Hd;omega))).set ⟨w.heap.size+1+1,1,none⟩ (.slice rx X.n rd) (.inl (by show w.heap.size+1+1<Hd;omega))).set ⟨w.heap.size+1+1+1,0,none⟩ (.slice He Y.l.length Hh) (.inl (by show w.heap.size+1+1+1<Hd;omega))).set ⟨w.heap.size+1+1+1,1,none⟩ (.slice Hg Y.n Hf) (.inl (by show w.heap.size+1+1+1<Hd;omega))) zL (by simp [World.setCell]) zL
  have G3:=(((K8.setCell (p:=⟨w.heap.size+1+1,0,none⟩) (by show w.heap.size<=w.heap.size+1+1;omega) (.slice ra X.l.length rc)).setCell (p:=⟨w.heap.size+1+1,1,none⟩) (by show w.heap.size<=w.heap.size+1+1;omega) (.slice rx X.n rd)).setCell (p:=⟨w.heap.size+1+1+1,0,none⟩) (by show w.heap.size<=w.heap.size+1+1+1;omega) (.slice He Y.l.length Hh)).setCell (p:=⟨w.heap.size+1+1+1,1,none⟩) (by show w.heap.size<=w.heap.size+1+1+1;omega) (.slice Hg Y.n Hf);rw [A,Q,e3];first
   | exact⟨ra,rc,rx,rd,He,Hh,Hg,Hf,Hd,rfl,G1,G2,G3⟩
   | exact⟨ra,rc,rx,rd,He,Hh,Hg,Hf,rfl,Hd,G1,G2,G3⟩
 ·have A:=Gu hc;clear O Gu;subst A;have HZ:=hid (QnX (S:=S) (rep:=rep) (p:=p) (fl:=fl) (v:=v) (fun hn=>hc (Kf.1 hn)));clear hc;obtain⟨t,J⟩:=zE (w1.alloc (.cells #[.int .i64 0,.int .i64 0] 104));have b2:Bl w1 t:=by rw [<- J];exact zO _ _
  have D2:Bx2 t w1.heap.size (.int .i64 0) (.int .i64 0):=by rw [<- J];exact Bx2.made _ _ _ _
  obtain⟨y0,y1,yf⟩:=D2.p2;obtain⟨M,Hn⟩:=zE ((t.setCell ⟨w1.heap.size,0,none⟩ (.int .i64 0)).setCell ⟨w1.heap.size,1,none⟩ (.int .i64 0));have Jv:=Gf.lt;have Ju:=Gd.lt;have Hr:Hid (Bl w M):=hid (by
   have h1:=Gk.size;have h2:=Gl.size;rw [<- Hn];exact((Qaa Gk (Qaa Gl b2)).setCell (p:=⟨w1.heap.size,0,none⟩) (by show w.heap.size<=w1.heap.size;omega) _).setCell (p:=⟨w1.heap.size,1,none⟩) (by show w.heap.size<=w1.heap.size;omega) _)
  have Kk:Hid (Bx2 M (w.heap.size+1+1) (.slice none 0 0) (.slice none 0 0)):=hid (by
   rw [<- Hn];exact((Gf.bw b2 Gf.lt).setAt _ _ (by show w1.heap.size≠w.heap.size+1+1;omega)).setAt _ _ (by show w1.heap.size≠w.heap.size+1+1;omega))
  have Jh:Hid (Bx2 M (w.heap.size+1+1+1) (.slice none 0 0) (.slice none 0 0)):=hid (by
   rw [<- Hn];exact((Gd.bw b2 Gd.lt).setAt _ _ (by show w1.heap.size≠w.heap.size+1+1+1;omega)).setAt _ _ (by show w1.heap.size≠w.heap.size+1+1+1;omega))
  clear D2 Jv Ju;obtain⟨r0,r1,rf⟩:=Kk.p2;have Ja:=hid (Kk.set (.slice none 0 0) (.slice none 0 0));have Q3:=(Jh.setAt ⟨w.heap.size+1+1,0,none⟩ (.slice none 0 0) (by show w.heap.size+1+1≠w.heap.size+1+1+1;omega)).setAt ⟨w.heap.size+1+1,1,none⟩ (.slice none 0 0) (by show w.heap.size+1+1≠w.heap.size+1+1+1;omega);obtain⟨q0,q1,qf⟩:=Q3.p2;have Ji:=hid (Q3.set (.slice none 0 0) (.slice none 0 0));have Jb:=hid ((Ja.setAt ⟨w.heap.size+1+1+1,0,none⟩ (.slice none 0 0) (by show w.heap.size+1+1+1≠w.heap.size+1+1;omega)).setAt ⟨w.heap.size+1+1+1,1,none⟩ (.slice none 0 0) (by show w.heap.size+1+1+1≠w.heap.size+1+1;omega));clear Q3 b2;go_wp2_with fail;try rw [Hn]
  obtain⟨s0,s1⟩:=Jb.q2;obtain⟨s2,s3⟩:=Ji.q2;refine zF (v:=.tuple #[.agg #[.slice none 0 0,.slice none 0 0],.agg #[.slice none 0 0,.slice none 0 0],.int .i64 3]) (by simp [results,Tryz.results104,go_sem,s0,s1,s2,s3]) ⟨none,0,none,0,none,0,none,0,w.heap.size,by rw [HZ.1,HZ.2.1,HZ.2.2];rfl,?_,?_,?_⟩
  ·rw [HZ.1];exact SOw.mt _ Sx.mt rfl rfl _ _ ⟨Nat.le_refl _,by simp [World.setCell];exact Hr.size⟩ _ _ _
  ·rw [HZ.2.1];exact SOw.emp _ _ _ _ _ (by simp [World.setCell];exact Hr.size)
  ·exact(((Hr.setCell (by simp;omega) _).setCell (by simp;omega) _).setCell (by simp;omega) _).setCell (by simp;omega) _
theorem Qf8 (a:Option Addr)(c:Nat)(xa:Option Addr)(d:Nat)(pa:Option Addr)(pc:Nat)(S:Sx)(rep:Int)(p:List ByteArray)(v:ByteArray)(w:World)(hm:S.Sm)(hT:I64 S.T)(h1:QcF w a S.l)(h3:Qa7 w xa S.n S.R S.F S.T)(hp:p.length<=1048576)(hpc:p.length<=pc/\ pc<=9223372036854775807)(hseg:Qaw w pa p)(hv:v.size<=1048576):
  Cl 35 #[.agg #[.slice a S.l.length c,.slice xa S.n d],.int .i64 rep,.slice pa p.length pc,.string v] w fun e w'=>∃a m x t a' m' x' t',e=.returned (.tuple #[.agg #[.slice a (seX S rep p false true v).l.length m,.slice x (seX S rep p false true v).n t],.agg #[.slice a' (seY S rep p false true v).l.length m',.slice x' (seY S rep p false true v).n t'],.int .i64 (seC S rep p false true v)])/\ SNc w' w.heap.size a m x (seX S rep p false true v)/\ SNc w' w.heap.size a' m' x' (seY S rep p false true v)/\ Bl w w':=by
 obtain⟨W,j⟩:=zE (((w.alloc (.cells #[.slice a S.l.length c,.slice xa S.n d] 40)).alloc (.cells #[.slice none 0 0,.slice none 0 0] 40)).alloc (.cells #[.slice none 0 0,.slice none 0 0] 40));have k:Bl w W:=by rw [<- j];exact(Qae _ _ _).alloc (by simp;omega) _
 have C:W.heap.size=w.heap.size+3:=by rw [<- j];simp
 have s:Bx2 W w.heap.size (.slice a S.l.length c) (.slice xa S.n d):=by rw [<- j];exact((Bx2.made w _ _ _).allocs _).allocs _
 have J:Bx2 W (w.heap.size+1) (.slice none 0 0) (.slice none 0 0):=by
  rw [<- j];have:=Bx2.made (w.alloc (.cells #[.slice a S.l.length c,.slice xa S.n d] 40)) (.slice none 0 0) (.slice none 0 0) 40;exact(by simpa using this:Bx2 _ (w.heap.size+1) _ _).allocs _
 have I:Bx2 W (w.heap.size+1+1) (.slice none 0 0) (.slice none 0 0):=by
  rw [<- j];simpa using Bx2.made ((w.alloc (.cells #[.slice a S.l.length c,.slice xa S.n d] 40)).alloc (.cells #[.slice none 0 0,.slice none 0 0] 40)) (.slice none 0 0) (.slice none 0 0) 40
 have He:=hid s;have H:=hid J;have G:=hid I;have P:=hid k;have Hf:=hid C;obtain⟨k0,k1⟩:=s.q2;have A:=hid (Qk0 a c xa d pa pc S rep p false true v W hm hT (h1.bw k) (h3.bw k) hp hpc (hseg.bw k) hv (fun h=>by cases h));obtain⟨X,O⟩:=zE (seX S rep p false true v);obtain⟨Y,Q⟩:=zE (seY S rep p false true v);obtain⟨D,M⟩:=zE (seC S rep p false true v);rw [O,Q,M] at A;have E:=hid (And.intro O (And.intro Q M));have Hd:Hid (w.heap.size+3<=W.heap.size):=hid (by omega);clear k C s J I h1 h3 hseg hpc O Q M;go_enter Tryz.func35,Tryz.ntmps35;go_wp2_with fail;try rw [j]
 clear j;refine A.mono ?_;rintro e w4 ⟨r,y,i,g,u,z,b,o,rfl,N,B,q⟩;have Ha:=hid (H.bw q H.lt);have Hb:=hid (G.bw q G.lt);have U:=hid (Qaa P q);have V:=hid N;have Z:=hid B;clear q N B A k0 k1;obtain⟨r0,r1,rf,q0,q1,qf,Hc⟩:=Qeo Ha Hb (.slice r X.l.length y) (.slice i X.n g) (.slice u Y.l.length z) (.slice b Y.n o);go_wp2_with fail;obtain⟨K,L⟩:=Hc.out;refine zF (v:=.tuple #[.agg #[.slice r X.l.length y,.slice i X.n g],.agg #[.slice u Y.l.length z,.slice b Y.n o],.int .i64 D]) (by simp [results,Tryz.results35,go_sem,K.c0,K.c1,L.c0,L.c1]) ?_;have hz:=Hd.out;rw [E.1,E.2.1,E.2.2];first
  | exact⟨r,y,i,g,u,z,b,o,rfl,Qek V (by omega) _ _ _ _,Qek Z (by omega) _ _ _ _,Qa8 U _ _ _ _⟩
  | exact⟨r,y,i,g,u,z,b,⟨o,rfl⟩,Qek V (by omega) _ _ _ _,Qek Z (by omega) _ _ _ _,Qa8 U _ _ _ _⟩
theorem Qgy (a:Option Addr)(c:Nat)(xa:Option Addr)(d:Nat)(pa:Option Addr)(pc:Nat)(S:Sx)(rep:Int)(p:List ByteArray)(on:Bool)(w:World)(hm:S.Sm)(hT:I64 S.T)(h1:QcF w a S.l)(h3:Qa7 w xa S.n S.R S.F S.T)(hp:p.length<=1048576)(hpc:p.length<=pc/\ pc<=9223372036854775807)(hseg:Qaw w pa p):
  Cl 37 #[.agg #[.slice a S.l.length c,.slice xa S.n d],.int .i64 rep,.slice pa p.length pc,.bool on] w fun e w'=>∃a m x t a' m' x' t',e=.returned (.tuple #[.agg #[.slice a (seX S rep p true on ⟨#[]⟩).l.length m,.slice x (seX S rep p true on ⟨#[]⟩).n t],.agg #[.slice a' (seY S rep p true on ⟨#[]⟩).l.length m',.slice x' (seY S rep p true on ⟨#[]⟩).n t'],.int .i64 (seC S rep p true on ⟨#[]⟩)])/\ SNc w' w.heap.size a m x (seX S rep p true on ⟨#[]⟩)/\ SNc w' w.heap.size a' m' x' (seY S rep p true on ⟨#[]⟩)/\ Bl w w':=by
 obtain⟨W,j⟩:=zE (((w.alloc (.cells #[.slice a S.l.length c,.slice xa S.n d] 40)).alloc (.cells #[.slice none 0 0,.slice none 0 0] 40)).alloc (.cells #[.slice none 0 0,.slice none 0 0] 40));have k:Bl w W:=by rw [<- j];exact(Qae _ _ _).alloc (by simp;omega) _
 have B:W.heap.size=w.heap.size+3:=by rw [<- j];simp
 have b:Bx2 W w.heap.size (.slice a S.l.length c) (.slice xa S.n d):=by rw [<- j];exact((Bx2.made w _ _ _).allocs _).allocs _
 have I:Bx2 W (w.heap.size+1) (.slice none 0 0) (.slice none 0 0):=by
  rw [<- j];have:=Bx2.made (w.alloc (.cells #[.slice a S.l.length c,.slice xa S.n d] 40)) (.slice none 0 0) (.slice none 0 0) 40;exact(by simpa using this:Bx2 _ (w.heap.size+1) _ _).allocs _
 have H:Bx2 W (w.heap.size+1+1) (.slice none 0 0) (.slice none 0 0):=by
  rw [<- j];simpa using Bx2.made ((w.alloc (.cells #[.slice a S.l.length c,.slice xa S.n d] 40)).alloc (.cells #[.slice none 0 0,.slice none 0 0] 40)) (.slice none 0 0) (.slice none 0 0) 40
 have Hd:=hid b;have G:=hid I;have Z:=hid H;have D:=hid k;have He:=hid B;obtain⟨k0,k1⟩:=b.q2;have s:=hid (Qk0 a c xa d pa pc S rep p true on ⟨#[]⟩ W hm hT (h1.bw k) (h3.bw k) hp hpc (hseg.bw k) (by decide) (fun _=>by simp [emB]));obtain⟨X,M⟩:=zE (seX S rep p true on ⟨#[]⟩);obtain⟨Y,O⟩:=zE (seY S rep p true on ⟨#[]⟩);obtain⟨C,E⟩:=zE (seC S rep p true on ⟨#[]⟩);rw [M,O,E] at s;have A:=hid (And.intro M (And.intro O E));have Hc:Hid (w.heap.size+3<=W.heap.size):=hid (by omega);clear k B b I H h1 h3 hseg hpc M O E;go_enter Tryz.func37,Tryz.ntmps37;go_wp2_with fail;try rw [j]
 clear j;refine s.mono ?_;rintro e w4 ⟨r,y,o,h,u,z,i,g,rfl,L,N,q⟩;have P:=hid (G.bw q G.lt);have Ha:=hid (Z.bw q Z.lt);have Q:=hid (Qaa D q);have U:=hid L;have V:=hid N;clear q L N s k0 k1;obtain⟨r0,r1,rf,q0,q1,qf,Hb⟩:=Qeo P Ha (.slice r X.l.length y) (.slice o X.n h) (.slice u Y.l.length z) (.slice i Y.n g);go_wp2_with fail;obtain⟨J,K⟩:=Hb.out;refine zF (v:=.tuple #[.agg #[.slice r X.l.length y,.slice o X.n h],.agg #[.slice u Y.l.length z,.slice i Y.n g],.int .i64 C]) (by simp [results,Tryz.results37,go_sem,J.c0,J.c1,K.c0,K.c1]) ?_;have hz:=Hc.out;rw [A.1,A.2.1,A.2.2];first
  | exact⟨r,y,o,h,u,z,i,g,rfl,Qek U (by omega) _ _ _ _,Qek V (by omega) _ _ _ _,Qa8 Q _ _ _ _⟩
  | exact⟨r,y,o,h,u,z,i,⟨g,rfl⟩,Qek U (by omega) _ _ _ _,Qek V (by omega) _ _ _ _,Qa8 Q _ _ _ _⟩
theorem Qfp (a x pa:Option Addr)(c d pc:Nat)(S:Sx)(rep:Int)(p:List ByteArray)(v:ByteArray)(w:World)(hm:S.Sm)(hi:∀i,LfI (gL S.l i))(h:SAt w a x S)(hp:p.length<=1048576)(hseg:Qaw w pa p)(hvs:v.size<=1048576)(hrep:(Lit.int .i64 rep).wf=true):
  Cl 78 #[.agg #[.slice a S.l.length c,.slice x S.n d],.int .i64 rep,.slice pa p.length pc,.string v] w fun e w'=>∃a c x d a' c' x' d' j,e=.returned (.tuple #[.agg #[.slice a (seX S rep p false true v).l.length c,.slice x (seX S rep p false true v).n d],.agg #[.slice a' (seY S rep p false true v).l.length c',.slice x' (seY S rep p false true v).n d'],.int .i64 (seC S rep p false true v)])/\ SOw w' w.heap.size j a x d (seX S rep p false true v)/\ SOw w' j w'.heap.size a' x' d' (seY S rep p false true v)/\ Bl w w':=by
 obtain⟨W,u⟩:=zE (((w.alloc (.cells #[.slice a S.l.length c,.slice x S.n d] 40)).alloc (.cells #[.slice none 0 0,.slice none 0 0] 40)).alloc (.cells #[.slice none 0 0,.slice none 0 0] 40));have K:Bl w W:=by rw [<- u];exact(Qae _ _ _).alloc (by simp;omega) _
 have zW:W.heap.size=w.heap.size+3:=by rw [<- u];simp
 have P:Bx2 W w.heap.size (.slice a S.l.length c) (.slice x S.n d):=by rw [<- u];exact((Bx2.made w _ _ _).allocs _).allocs _
 have R0:Bx2 W (w.heap.size+1) (.slice none 0 0) (.slice none 0 0):=by
  rw [<- u];have:=Bx2.made (w.alloc (.cells #[.slice a S.l.length c,.slice x S.n d] 40)) (.slice none 0 0) (.slice none 0 0) 40;exact(by simpa using this:Bx2 _ (w.heap.size+1) _ _).allocs _
 have Q0:Bx2 W (w.heap.size+1+1) (.slice none 0 0) (.slice none 0 0):=by
  rw [<- u];simpa using Bx2.made ((w.alloc (.cells #[.slice a S.l.length c,.slice x S.n d] 40)).alloc (.cells #[.slice none 0 0,.slice none 0 0] 40)) (.slice none 0 0) (.slice none 0 0) 40
 have H3:=hid P;have Hl:=hid R0;have Hk:=hid Q0;have Hm:=hid K;have Hx:=hid zW;obtain⟨k0,k1⟩:=P.q2;have O:=hid (Qb9 a x pa c d pc S p v W hm hi (h.bw K) hp (hseg.bw K) hvs);have Hs:=hid (hseg.bw K);have Hq:=hid hrep;obtain⟨C,hC⟩:=zE (ocC S p v);rw [hC] at O;have R:=hid hC;clear K zW P R0 Q0 h hseg hi hm hC hrep;go_enter Tryz.func78,Tryz.ntmps78;go_wp2_with fail;try rw [u]
 clear u;refine O.mono ?_;rintro e w1 ⟨⟨u0,u1,u2,rfl,ho⟩,b1⟩;have Hn:=hid ho;obtain⟨m,N⟩:=zE (w1.alloc (.cells #[.map u0,.map u1,.map u2] 160));have b2:Bl w1 m:=by rw [<- N];exact zO _ _
 have Hu:Hid (Bx3 m w1.heap.size (.map u0) (.map u1) (.map u2)):=hid (by rw [<- N];exact Bx3.made _ _ _ _ _);have H:=hid (Qaa b1 b2);have Hd:=hid b2;have G:=hid (Qaa Hm H);have k:=hid (Hl.bw H Hl.lt);have Q:=hid (Hk.bw H Hk.lt);have Hr:=hid (Hs.bw H);have Hv:Hid (w.heap.size+3<=m.heap.size):=hid (by have h1:=Hx.out;have h2:=H.size;omega);clear b1 b2 ho k0 k1 O;by_cases U:C=0
 ·have Hh:ocC S p v=0:=by rw [R.out];exact U
  have F:=Qf0 Hh;obtain⟨x0,bm,rfl,rfl,rfl,o1⟩:=Hn U;have Ho:=hid (o1.bw Hd);have HS:=hid (Qcx F.1);have Hp:=hid F.2.1;have Ht:=hid F.2.2;have O:=hid Hh;obtain⟨H0,H1,H2⟩:=Hu.q3;subst U;clear o1 F Hh;have T:Hid (seX S rep p false true v=wrX S rep p false v/\ seY S rep p false true v=wrY S rep p false v/\ seC S rep p false true v=wrC S rep p false v):=hid (by
   by_cases L:Qgk S rep
   ·have z:=Qnk (S:=S) (rep:=rep) (p:=p) (fl:=false) (on:=true) (v:=v) O ⟨L.1,fun _=>L.2⟩;have t:=QnY (S:=S) (rep:=rep) (p:=p) (fl:=false) (v:=v) L;exact⟨z.1.trans t.1.symm,z.2.1.trans t.2.1.symm,z.2.2.trans t.2.2.symm⟩
   ·have z:=Qni (S:=S) (rep:=rep) (p:=p) (fl:=false) (on:=true) (v:=v) O (fun h=>L ⟨h.1,h.2 rfl⟩);have t:=QnX (S:=S) (rep:=rep) (p:=p) (fl:=false) (v:=v) L;exact⟨z.1.trans t.1.symm,z.2.1.trans t.2.1.symm,z.2.2.trans t.2.2.symm⟩)
  have Hy:kd false=1:=rfl;have B:=hid (QkJ rep p pa pc false v m Ho HS Hp Ht (fun h=>by cases h) Hq Hr);obtain⟨X,hX⟩:=zE (seX S rep p false true v);obtain⟨Y,hY⟩:=zE (seY S rep p false true v);obtain⟨Cc,Hg⟩:=zE (seC S rep p false true v);rw [<- T.1,<- T.2.1,<- T.2.2,hX,hY,Hg] at B;have Ha:=hid (And.intro hX (And.intro hY Hg));clear hX hY Hg;rw [Hy] at B;go_wp2_with fail;try rw [N]
  refine B.mono ?_;rintro e w4 ⟨y,o,E,s,g,b,M,A,j,rfl,ox,oy,b4⟩;have D:=b4;have Hb:=hid (k.bw D k.lt);have Hc:=hid (Q.bw D Q.lt);have Hi:=hid (Qaa G D);have Hj:=hid ox;have He:=hid oy;have Hw:Hid (w.heap.size+3<=m.heap.size):=hid (by have h1:=Hv.out;omega);clear ox oy b4 D B H0 H1 H2 N k Q G;have k:=Hb;have Q:=Hc;have G:=Hi;clear Hb Hc Hi;have r:=Qhn k Q (show w.heap.size+1≠w.heap.size+1+1 by omega) (.slice y X.l.length o) (.slice E X.n s) (.slice g Y.l.length b) (.slice M Y.n A);obtain⟨r0,r1,rf⟩:=k.p2;obtain⟨q0,q1,qf⟩:=r.1.p2;have Hf:=hid r.2;clear r;go_wp2_with fail;obtain⟨I,J⟩:=Hf.out;refine zF (v:=.tuple #[.agg #[.slice y X.l.length o,.slice E X.n s],.agg #[.slice g Y.l.length b,.slice M Y.n A],.int .i64 Cc]) (by simp [results,Tryz.results78,go_sem,I.c0,I.c1,J.c0,J.c1]) ?_;have U:=Hw.out;have q:=Qbg G (show w.heap.size<=w.heap.size+1 by omega) (show w.heap.size<=w.heap.size+1+1 by omega) (.slice y X.l.length o) (.slice E X.n s) (.slice g Y.l.length b) (.slice M Y.n A);rw [Ha.1,Ha.2.1,Ha.2.2];have Hz:m.heap.size<=j:=Hj.hl.1;have V:=SOw.wide (Qhg (r1:=w.heap.size+1) (r2:=w.heap.size+1+1) Hj (show w.heap.size+1<m.heap.size by omega) (show w.heap.size+1+1<m.heap.size by omega) (.slice y X.l.length o) (.slice E X.n s) (.slice g Y.l.length b) (.slice M Y.n A)) (lo':=w.heap.size) (hi':=j) (by omega) zL (by simp [World.setCell];exact Nat.le_trans He.hl.1 He.hl.2);have Z:=Qhg (r1:=w.heap.size+1) (r2:=w.heap.size+1+1) He (show w.heap.size+1<j by omega) (show w.heap.size+1+1<j by omega) (.slice y X.l.length o) (.slice E X.n s) (.slice g Y.l.length b) (.slice M Y.n A);rw [QdH];first
   | exact⟨y,o,E,s,g,b,M,A,j,rfl,V,Z,q⟩
   | exact⟨y,o,E,s,g,b,M,A,rfl,j,V,Z,q⟩
 ·have HZ:Hid (seX S rep p false true v=Sx.mt/\ seY S rep p false true v=Sx.mt/\ seC S rep p false true v=C):=hid (by
   have:=Qmc (S:=S) (rep:=rep) (p:=p) (fl:=false) (on:=true) (v:=v) (by rw [R.out];exact U);rw [R.out] at this;exact this)
  have H4:(C==0)=false:=by simp [U]
  have r:=Qhn k Q (show w.heap.size+1≠w.heap.size+1+1 by omega) (.slice none 0 0) (.slice none 0 0) (.slice none 0 0) (.slice none 0 0);obtain⟨r0,r1,rf⟩:=k.p2;obtain⟨q0,q1,qf⟩:=r.1.p2;have Hf:=hid r.2;clear r;go_wp2_with fail;try rw [N]
  obtain⟨I,J⟩:=Hf.out;refine zF (v:=.tuple #[.agg #[.slice none 0 0,.slice none 0 0],.agg #[.slice none 0 0,.slice none 0 0],.int .i64 C]) (by simp [results,Tryz.results78,go_sem,I.c0,I.c1,J.c0,J.c1]) ?_;rw [HZ.1,HZ.2.1,HZ.2.2];have q:=Qbg G (show w.heap.size<=w.heap.size+1 by omega) (show w.heap.size<=w.heap.size+1+1 by omega) (.slice none 0 0) (.slice none 0 0) (.slice none 0 0) (.slice none 0 0);have V:SOw _ w.heap.size w.heap.size none none 0 Sx.mt:=SOw.mt _ Sx.mt rfl rfl _ _ ⟨Nat.le_refl _,q.size⟩ _ _ _;have Z:SOw _ w.heap.size _ none none 0 Sx.mt:=SOw.emp _ _ _ _ _ q.size;first
   | exact⟨none,0,none,0,none,0,none,0,w.heap.size,rfl,V,Z,q⟩
   | exact⟨none,0,none,0,none,0,none,0,rfl,w.heap.size,V,Z,q⟩
theorem QfY (a x pa:Option Addr)(c d pc:Nat)(S:Sx)(rep:Int)(p:List ByteArray)(on:Bool)(w:World)(hm:S.Sm)(hi:∀i,LfI (gL S.l i))(h:SAt w a x S)(hp:p.length<=1048576)(hseg:Qaw w pa p)(hrep:(Lit.int .i64 rep).wf=true):
  Cl 79 #[.agg #[.slice a S.l.length c,.slice x S.n d],.int .i64 rep,.slice pa p.length pc,.bool on] w fun e w'=>∃a c x d a' c' x' d' m,e=.returned (.tuple #[.agg #[.slice a (seX S rep p true on ⟨#[]⟩).l.length c,.slice x (seX S rep p true on ⟨#[]⟩).n d],.agg #[.slice a' (seY S rep p true on ⟨#[]⟩).l.length c',.slice x' (seY S rep p true on ⟨#[]⟩).n d'],.int .i64 (seC S rep p true on ⟨#[]⟩)])/\ SOw w' w.heap.size m a x d (seX S rep p true on ⟨#[]⟩)/\ SOw w' m w'.heap.size a' x' d' (seY S rep p true on ⟨#[]⟩)/\ Bl w w':=by
 have H4:(⟨#[]⟩:ByteArray).size<=1048576:=by decide
 obtain⟨W,R⟩:=zE (((w.alloc (.cells #[.slice a S.l.length c,.slice x S.n d] 40)).alloc (.cells #[.slice none 0 0,.slice none 0 0] 40)).alloc (.cells #[.slice none 0 0,.slice none 0 0] 40));have b0:Bl w W:=by rw [<- R];exact(Qae _ _ _).alloc (by simp;omega) _
 have zW:W.heap.size=w.heap.size+3:=by rw [<- R];simp
 have A0:Bx2 W w.heap.size (.slice a S.l.length c) (.slice x S.n d):=by rw [<- R];exact((Bx2.made w _ _ _).allocs _).allocs _
 have R0:Bx2 W (w.heap.size+1) (.slice none 0 0) (.slice none 0 0):=by
  rw [<- R];have:=Bx2.made (w.alloc (.cells #[.slice a S.l.length c,.slice x S.n d] 40)) (.slice none 0 0) (.slice none 0 0) 40;exact(by simpa using this:Bx2 _ (w.heap.size+1) _ _).allocs _
 have Q0:Bx2 W (w.heap.size+1+1) (.slice none 0 0) (.slice none 0 0):=by
  rw [<- R];simpa using Bx2.made ((w.alloc (.cells #[.slice a S.l.length c,.slice x S.n d] 40)).alloc (.cells #[.slice none 0 0,.slice none 0 0] 40)) (.slice none 0 0) (.slice none 0 0) 40
 have H5:=hid A0;have Hs:=hid R0;have Hr:=hid Q0;have Hx:=hid b0;have H2:=hid zW;obtain⟨k0,k1⟩:=A0.q2;have I:=hid (Qb9 a x pa c d pc S p ⟨#[]⟩ W hm hi (h.bw b0) hp (hseg.bw b0) H4);have H0:=hid (hseg.bw b0);have Hz:=hid hrep;obtain⟨C,hC⟩:=zE (ocC S p ⟨#[]⟩);rw [hC] at I;have HC:=hid hC;clear b0 zW A0 R0 Q0 h hseg hi hm hC hrep;go_enter Tryz.func79,Tryz.ntmps79;go_wp2_with fail;try rw [R]
 clear R;refine I.mono ?_;rintro e w1 ⟨⟨u0,u1,u2,rfl,ho⟩,b1⟩;have Hy:=hid ho;obtain⟨M,K⟩:=zE (w1.alloc (.cells #[.map u0,.map u1,.map u2] 160));have b2:Bl w1 M:=by rw [<- K];exact zO _ _
 have Hu:Hid (Bx3 M w1.heap.size (.map u0) (.map u1) (.map u2)):=hid (by rw [<- K];exact Bx3.made _ _ _ _ _);have He:=hid (Qaa b1 b2);have Hk:=hid b2;have G:=hid (Qaa Hx He);have j:=hid (Hs.bw He Hs.lt);have O:=hid (Hr.bw He Hr.lt);have Ht:=hid (H0.bw He);have Hv:Hid (w.heap.size+3<=M.heap.size):=hid (by have h1:=H2.out;have h2:=He.size;omega);clear b1 b2 ho k0 k1 I;by_cases hz:C=0
 ·have Hn:ocC S p ⟨#[]⟩=0:=by rw [HC.out];exact hz
  have Hg:=Qf0 Hn;obtain⟨x0,bm,rfl,rfl,rfl,o1⟩:=Hy hz;have Hq:=hid (o1.bw Hk);have HS:=hid (Qcx Hg.1);have Hf:=hid Hg.2.1;have H1:=hid Hg.2.2;have I:=hid Hn;obtain⟨Hh,Hi,Hj⟩:=Hu.q3;subst hz;clear o1 Hg Hn;cases on with
  | true=>
   have L:Hid (seX S rep p true true ⟨#[]⟩=wrX S rep p true ⟨#[]⟩/\ seY S rep p true true ⟨#[]⟩=wrY S rep p true ⟨#[]⟩/\ seC S rep p true true ⟨#[]⟩=wrC S rep p true ⟨#[]⟩):=hid (by
    by_cases hn:Qgk S rep
    ·have z:=Qnk (S:=S) (rep:=rep) (p:=p) (fl:=true) (on:=true) (v:=⟨#[]⟩) I ⟨hn.1,fun _=>hn.2⟩;have t:=QnY (S:=S) (rep:=rep) (p:=p) (fl:=true) (v:=⟨#[]⟩) hn;exact⟨z.1.trans t.1.symm,z.2.1.trans t.2.1.symm,z.2.2.trans t.2.2.symm⟩
    ·have z:=Qni (S:=S) (rep:=rep) (p:=p) (fl:=true) (on:=true) (v:=⟨#[]⟩) I (fun h=>hn ⟨h.1,h.2 rfl⟩);have t:=QnX (S:=S) (rep:=rep) (p:=p) (fl:=true) (v:=⟨#[]⟩) hn;exact⟨z.1.trans t.1.symm,z.2.1.trans t.2.1.symm,z.2.2.trans t.2.2.symm⟩)
   have H3:kd true=2:=rfl;have J:=hid (QkJ rep p pa pc true ⟨#[]⟩ M Hq HS Hf H1 (by simp [emB]) Hz Ht);obtain⟨X,T⟩:=zE (seX S rep p true true ⟨#[]⟩);obtain⟨Y,hY⟩:=zE (seY S rep p true true ⟨#[]⟩);obtain⟨Cc,P⟩:=zE (seC S rep p true true ⟨#[]⟩);rw [<- L.1,<- L.2.1,<- L.2.2,T,hY,P] at J;have D:=hid (And.intro T (And.intro hY P));clear T hY P;rw [H3] at J;go_wp2_with fail;try rw [K]
   refine J.mono ?_;rintro e w4 ⟨u,g,A,b,y,o,E,s,m,rfl,ox,oy,b4⟩;have H:=b4;have Ha:=hid (j.bw H j.lt);have Hb:=hid (O.bw H O.lt);have Hc:=hid (Qaa G H);have Hd:=hid ox;have N:=hid oy;have Hl:Hid (w.heap.size+3<=M.heap.size):=hid (by have h1:=Hv.out;omega);clear ox oy b4 H J Hh Hi Hj K j O G;have j:=Ha;have O:=Hb;have G:=Hc;clear Ha Hb Hc;have r:=Qhn j O (show w.heap.size+1≠w.heap.size+1+1 by omega) (.slice u X.l.length g) (.slice A X.n b) (.slice y Y.l.length o) (.slice E Y.n s);obtain⟨r0,r1,rf⟩:=j.p2;obtain⟨q0,q1,qf⟩:=r.1.p2;have B:=hid r.2;clear r;go_wp2_with fail;obtain⟨V,Z⟩:=B.out;refine zF (v:=.tuple #[.agg #[.slice u X.l.length g,.slice A X.n b],.agg #[.slice y Y.l.length o,.slice E Y.n s],.int .i64 Cc]) (by simp [results,Tryz.results79,go_sem,V.c0,V.c1,Z.c0,Z.c1]) ?_;have hz:=Hl.out;have q:=Qbg G (show w.heap.size<=w.heap.size+1 by omega) (show w.heap.size<=w.heap.size+1+1 by omega) (.slice u X.l.length g) (.slice A X.n b) (.slice y Y.l.length o) (.slice E Y.n s);rw [D.1,D.2.1,D.2.2];have Hm:M.heap.size<=m:=Hd.hl.1;have Q:=SOw.wide (Qhg (r1:=w.heap.size+1) (r2:=w.heap.size+1+1) Hd (show w.heap.size+1<M.heap.size by omega) (show w.heap.size+1+1<M.heap.size by omega) (.slice u X.l.length g) (.slice A X.n b) (.slice y Y.l.length o) (.slice E Y.n s)) (lo':=w.heap.size) (hi':=m) (by omega) zL (by simp [World.setCell];exact Nat.le_trans N.hl.1 N.hl.2);have U:=Qhg (r1:=w.heap.size+1) (r2:=w.heap.size+1+1) N (show w.heap.size+1<m by omega) (show w.heap.size+1+1<m by omega) (.slice u X.l.length g) (.slice A X.n b) (.slice y Y.l.length o) (.slice E Y.n s);rw [QdH];first
    | exact⟨u,g,A,b,y,o,E,s,m,rfl,Q,U,q⟩
    | exact⟨u,g,A,b,y,o,E,s,rfl,m,Q,U,q⟩
  | false=>
   by_cases hr:0<=rep/\ rep<8
   ·have HR:=hid (QdE rep M hr.1 hr.2);obtain⟨w3,Ho⟩:=zE (M.alloc (.cells #[.int .i64 2] 3));have b3:Bl M w3:=by rw [<- Ho];exact zO _ _
    have Hw:QhD w3 M.heap.size [2]:=by rw [<- Ho];exact Qe8 _ _
    have Hp:=hid b3;have L:Hid (seX S rep p true false ⟨#[]⟩=chX S (dlS (gnS p true) S.l [])/\ seY S rep p true false ⟨#[]⟩=chY S (dlS (gnS p true) S.l [])/\ seC S rep p true false ⟨#[]⟩=chC S (dlS (gnS p true) S.l [])):=hid (Qnk (S:=S) (rep:=rep) (p:=p) (fl:=true) (on:=false) (v:=⟨#[]⟩) I ⟨hr,fun h=>by cases h⟩);have J:=hid (QfA (gnS p true) p pa pc M.heap.size 1 [2] w3 (Hq.bw b3) HS hp (Qdj Hf) (fun k hk=>by rw [List.mem_singleton.1 hk];decide) (by simp) (by have h1:=cW3 (p:=p) Hf.1 S.l;have h2:=HS.2.1;simp;omega) (fun x hx=>by rw [<- Qg3 (p:=p) (fl:=true) (x:=x) Hf.1];exact⟨fun e=>⟨2,by simp,e⟩,fun⟨k,hk,e⟩=>by rw [List.mem_singleton.1 hk] at e;exact e⟩) (Ht.bw b3) Hw);obtain⟨X,T⟩:=zE (seX S rep p true false ⟨#[]⟩);obtain⟨Y,hY⟩:=zE (seY S rep p true false ⟨#[]⟩);obtain⟨Cc,P⟩:=zE (seC S rep p true false ⟨#[]⟩);rw [<- L.1,<- L.2.1,<- L.2.2,T,hY,P] at J;have D:=hid (And.intro T (And.intro hY P));clear T hY P;go_wp2_with fail;try rw [K]
    refine HR.mono ?_;rintro e w9 ⟨rfl,rfl⟩;clear HR hr b3 Hw;obtain⟨Hh,Hi,Hj⟩:=Hu.q3;go_wp2_with fail;try rw [Ho]
    refine J.mono ?_;rintro e w4 ⟨u,g,A,b,y,o,E,s,m,rfl,ox,oy,b4⟩;have H:=Qaa Hp b4;have Ha:=hid (j.bw H j.lt);have Hb:=hid (O.bw H O.lt);have Hc:=hid (Qaa G H);have Hd:=hid ox;have N:=hid oy;have Hl:Hid (w.heap.size+3<=w3.heap.size):=hid (by have h1:=Hv.out;have h3:=Hp.size;omega);clear ox oy b4 H J Hh Hi Hj j O G;have j:=Ha;have O:=Hb;have G:=Hc;clear Ha Hb Hc;have r:=Qhn j O (show w.heap.size+1≠w.heap.size+1+1 by omega) (.slice u X.l.length g) (.slice A X.n b) (.slice y Y.l.length o) (.slice E Y.n s);obtain⟨r0,r1,rf⟩:=j.p2;obtain⟨q0,q1,qf⟩:=r.1.p2;have B:=hid r.2;clear r;go_wp2_with fail;obtain⟨V,Z⟩:=B.out;refine zF (v:=.tuple #[.agg #[.slice u X.l.length g,.slice A X.n b],.agg #[.slice y Y.l.length o,.slice E Y.n s],.int .i64 Cc]) (by simp [results,Tryz.results79,go_sem,V.c0,V.c1,Z.c0,Z.c1]) ?_;have hz:=Hl.out;have q:=Qbg G (show w.heap.size<=w.heap.size+1 by omega) (show w.heap.size<=w.heap.size+1+1 by omega) (.slice u X.l.length g) (.slice A X.n b) (.slice y Y.l.length o) (.slice E Y.n s);rw [D.1,D.2.1,D.2.2];have Hm:w3.heap.size<=m:=Hd.hl.1;have Q:=SOw.wide (Qhg (r1:=w.heap.size+1) (r2:=w.heap.size+1+1) Hd (show w.heap.size+1<w3.heap.size by omega) (show w.heap.size+1+1<w3.heap.size by omega) (.slice u X.l.length g) (.slice A X.n b) (.slice y Y.l.length o) (.slice E Y.n s)) (lo':=w.heap.size) (hi':=m) (by omega) zL (by simp [World.setCell];exact Nat.le_trans N.hl.1 N.hl.2);have U:=Qhg (r1:=w.heap.size+1) (r2:=w.heap.size+1+1) N (show w.heap.size+1<m by omega) (show w.heap.size+1+1<m by omega) (.slice u X.l.length g) (.slice A X.n b) (.slice y Y.l.length o) (.slice E Y.n s);rw [QdH];first
     | exact⟨u,g,A,b,y,o,E,s,m,rfl,Q,U,q⟩
     | exact⟨u,g,A,b,y,o,E,s,rfl,m,Q,U,q⟩
   ·have HR:=hid (QeI rep M hr);have F:=hid (Qni (S:=S) (rep:=rep) (p:=p) (fl:=true) (on:=false) (v:=⟨#[]⟩) I (fun h=>hr h.1));clear hr;go_wp2_with fail;try rw [K]
    refine HR.mono ?_;rintro e w9 ⟨rfl,rfl⟩;clear HR K Hh Hi Hj;have r:=Qhn j O (show w.heap.size+1≠w.heap.size+1+1 by omega) (.slice none 0 0) (.slice none 0 0) (.slice none 0 0) (.slice none 0 0);obtain⟨r0,r1,rf⟩:=j.p2;obtain⟨q0,q1,qf⟩:=r.1.p2;have B:=hid r.2;clear r;go_wp2_with fail;obtain⟨V,Z⟩:=B.out;refine zF (v:=.tuple #[.agg #[.slice none 0 0,.slice none 0 0],.agg #[.slice none 0 0,.slice none 0 0],.int .i64 3]) (by simp [results,Tryz.results79,go_sem,V.c0,V.c1,Z.c0,Z.c1]) ?_;rw [F.1,F.2.1,F.2.2];have q:=Qbg G (show w.heap.size<=w.heap.size+1 by omega) (show w.heap.size<=w.heap.size+1+1 by omega) (.slice none 0 0) (.slice none 0 0) (.slice none 0 0) (.slice none 0 0);have Q:SOw _ w.heap.size w.heap.size none none 0 Sx.mt:=SOw.mt _ Sx.mt rfl rfl _ _ ⟨Nat.le_refl _,q.size⟩ _ _ _;have U:SOw _ w.heap.size _ none none 0 Sx.mt:=SOw.emp _ _ _ _ _ q.size;first
     | exact⟨none,0,none,0,none,0,none,0,w.heap.size,rfl,Q,U,q⟩
     | exact⟨none,0,none,0,none,0,none,0,rfl,w.heap.size,Q,U,q⟩
 ·have F:Hid (seX S rep p true on ⟨#[]⟩=Sx.mt/\ seY S rep p true on ⟨#[]⟩=Sx.mt/\ seC S rep p true on ⟨#[]⟩=C):=hid (by
   have:=Qmc (S:=S) (rep:=rep) (p:=p) (fl:=true) (on:=on) (v:=⟨#[]⟩) (by rw [HC.out];exact hz);rw [HC.out] at this;exact this)
  have H6:(C==0)=false:=by simp [hz]
  have r:=Qhn j O (show w.heap.size+1≠w.heap.size+1+1 by omega) (.slice none 0 0) (.slice none 0 0) (.slice none 0 0) (.slice none 0 0);obtain⟨r0,r1,rf⟩:=j.p2;obtain⟨q0,q1,qf⟩:=r.1.p2;have B:=hid r.2;clear r;go_wp2_with fail;try rw [K]
  obtain⟨V,Z⟩:=B.out;refine zF (v:=.tuple #[.agg #[.slice none 0 0,.slice none 0 0],.agg #[.slice none 0 0,.slice none 0 0],.int .i64 C]) (by simp [results,Tryz.results79,go_sem,V.c0,V.c1,Z.c0,Z.c1]) ?_;rw [F.1,F.2.1,F.2.2];have q:=Qbg G (show w.heap.size<=w.heap.size+1 by omega) (show w.heap.size<=w.heap.size+1+1 by omega) (.slice none 0 0) (.slice none 0 0) (.slice none 0 0) (.slice none 0 0);have Q:SOw _ w.heap.size w.heap.size none none 0 Sx.mt:=SOw.mt _ Sx.mt rfl rfl _ _ ⟨Nat.le_refl _,q.size⟩ _ _ _;have U:SOw _ w.heap.size _ none none 0 Sx.mt:=SOw.emp _ _ _ _ _ q.size;first
   | exact⟨none,0,none,0,none,0,none,0,w.heap.size,rfl,Q,U,q⟩
   | exact⟨none,0,none,0,none,0,none,0,rfl,w.heap.size,Q,U,q⟩
theorem QfP (t e:TypeId)(i:TypeInfo)(z:Value)(size bytes:Nat)(ht:Tryz.prog.underlying t=some (.slice e))(hi:Tryz.prog.info? e=some i)(hz:i.zero=some z)(hsize:i.size=size)(hby:i.bytes=bytes)(hzs:z.cells.size=size)(hsz:0<size)(hb2:bytes<=64)(g off m c:Nat)(C:Nat ->Value)(w:World)(hm:m<=1048576)(hC:∀j,j<m*size ->w.cell? ⟨g,off+j,none⟩=some (C j))(h1:∀j,j<m*size ->(C j).oneCell'=true):
  ∃a y w',(Builtin.append_ #[t,t] t #[.slice none 0 0,.slice (some ⟨g,off,none⟩) m c]).run Tryz.prog w=.ok (.slice a m y) w'/\ w'.ownsRow w.heap.size e size (.slice a m y) m ((List.range (m*size)).map C)/\ Bl w w'/\ (m=0 ->a=none/\ y=0)/\ (0<m ->∃q,a=some ⟨q,0,none⟩/\ w.heap.size<=q/\ q<w'.heap.size/\ Wr w' q e (m*size) C):=by
 obtain⟨v',w',M,b,Q,U,G⟩:=run_append_own_at (P:=Tryz.prog) w w.heap.size t t e i z size bytes ht hi hz hsize hby hzs hsz (.slice none 0 0) 0 [] (World.ownsRow_nil _ _ _ _) ⟨g,off,none⟩ m c ((List.range (m*size)).map C) (by simp) (fun j u v=>by
  simp only [List.getElem?_map,Option.map_eq_some_iff] at v;obtain⟨q,r,rfl⟩:=v;have E:j<m*size:=by
   rcases Nat.lt_or_ge j (m*size) with h|h
   ·exact h
   ·rw [List.getElem?_eq_none (by simpa using h)] at r;cases r
  rw [List.getElem?_range E] at r;have r:=Option.some.inj r;rw [<- r,Qbf];exact hC j E) (fun u hu=>by
  obtain⟨j,v,rfl⟩:=List.mem_map.1 hu;exact h1 j (by simpa using v)) (by unfold maxLen;omega) (by
   have:m*bytes<=1048576*64:=Nat.mul_le_mul hm hb2;rw [Nat.zero_add];omega) zL
 rw [Nat.zero_add,List.nil_append] at b;have A:Bl w w':=zI.grown Q zL (fun k e=>by simp [Value.ownBlock] at e);by_cases o:m=0
 ·have Z:v'=.slice none 0 0:=U.2 ⟨rfl,o⟩;subst Z;subst o;exact⟨none,0,w',M,b,A,fun _=>⟨rfl,rfl⟩,fun h=>by omega⟩
 ·rcases b.2 with ⟨_,Y⟩|⟨q,y,p,rfl,V,r,J,I,H,O⟩
  ·exact absurd Y o
  ·refine⟨_,y,w',M,b,A,fun h=>absurd h o,fun _=>⟨q,rfl,V,(Array.getElem?_eq_some_iff.1 r).1,p,r,?_,fun j v=> ?_⟩⟩
   ·have:=congrArg List.length O;simp at this;omega
   ·have s:(p.toList.take (m*size))[j]? =((List.range (m*size)).map C)[j]? :=by rw [O]
    rw [List.getElem?_take_of_lt v] at s;rw [<- Array.getElem?_toList,s];simp [List.getElem?_range v]
theorem Qjw (g off m c:Nat)(p:List ByteArray)(w:World)(hp:p.length=m)(hm:m<=1048576)(h:∀t,t<m ->w.cell? ⟨g,off+t,none⟩=some (.string (gS p t))):
  Cl 75 #[.slice (some ⟨g,off,none⟩) m c] w fun e w'=>∃a k,e=.returned (.slice a m k)/\ Bl w w'/\ (0<m ->∃q,a=some ⟨q,0,none⟩/\ w.heap.size<=q/\ q<w'.heap.size/\ Wr w' q 9 m (fun t=> .string (gS p t))):=by
 obtain⟨s,hi,o,i,b⟩:=info_parts QcO;obtain⟨a,k,w',u,_,v,_,r⟩:=QfP 30 9 s _ 1 16 Tryz.underlying30 hi o i b rfl (by decide) (by omega) g off m c (fun t=> .string (gS p t)) w hm (fun j hj=>h j (by omega)) (fun _ _=>rfl);rw [Nat.mul_one] at r;have y:=hid v;have z:=hid r;clear v r h;go_enter Tryz.func75,Tryz.ntmps75;go_wp2_with (at_builtin;refine Qab rfl _ _ _ _ rfl u (by rfl) (by rfl) rfl ?_;clear u);go_ret;exact⟨a,k,rfl,y,z⟩
theorem Qng{q:Nat}{R F T:Nat ->Int}(h:Wr w q 124 (n*3) (fun j=>if j%3=0 then .int .i64 (R (j/3)) else if j%3=1 then .int .i64 (F (j/3)) else .int .i64 (T (j/3)))):Qa7 w (some ⟨q,0,none⟩) n R F T:=by
 refine .inr ⟨q,0,rfl,h.lt,fun i hi=> ?_⟩;have k:=h.cell (i:=i*3) (by omega);have m:=h.cell (i:=i*3+1) (by omega);have r:=h.cell (i:=i*3+2) (by omega);rw [if_pos (by omega),show i*3/3=i by omega] at k;rw [if_neg (by omega),if_pos (by omega),show (i*3+1)/3=i by omega] at m;rw [if_neg (by omega),if_neg (by omega),show (i*3+2)/3=i by omega] at r;exact⟨by simpa using k,by simpa using m,by simpa using r⟩
theorem Qjv (g n c:Nat)(R F T:Nat ->Int)(w:World)(hn:n<=1048576)(h:Qa7 w (some ⟨g,0,none⟩) n R F T):
  Cl 76 #[.slice (some ⟨g,0,none⟩) n c] w fun e w'=>∃x d,e=.returned (.slice x n d)/\ Bl w w'/\ Qa7 w' x n R F T/\ (n=0 \/∃q ys,x=some ⟨q,0,none⟩/\ q<w'.heap.size/\ w'.ownsRow w.heap.size 124 3 (.slice (some ⟨q,0,none⟩) n d) n ys):=by
 obtain⟨H,hi,Y,Z,G⟩:=info_parts Tryz.infoRun;obtain⟨a,z,w',o,p,i,_,s⟩:=QfP 36 124 H _ 3 24 Tryz.underlying36 hi Y Z G rfl (by decide) (by omega) g 0 n c (fun j=>if j%3=0 then .int .i64 (R (j/3)) else if j%3=1 then .int .i64 (F (j/3)) else .int .i64 (T (j/3))) w hn (fun j hj=>by
  obtain⟨b,E,e,_,u,v,y⟩:=h.at (k:=j/3) (by omega);have O:g=b:=congrArg Addr.block (Option.some.inj e);have Q:0=E:=congrArg Addr.off (Option.some.inj e);rw [<- O,<- Q] at u v y;by_cases m:j%3=0
  ·rw [if_pos m];rw [show 0+j=0+j/3*3 by omega];exact u
  ·by_cases A:j%3=1
   ·rw [if_neg m,if_pos A];rw [show 0+j=0+j/3*3+1 by omega];exact v
   ·rw [if_neg m,if_neg A];rw [show 0+j=0+j/3*3+2 by omega];exact y) (fun j _=>by split;rfl;split<;>rfl)
 have M:=hid i;have r:Hid (Qa7 w' a n R F T/\ (n=0 \/∃q ys,a=some ⟨q,0,none⟩/\ q<w'.heap.size/\ w'.ownsRow w.heap.size 124 3 (.slice (some ⟨q,0,none⟩) n z) n ys)):=hid (by
  by_cases t:n=0
  ·exact⟨.inl t,.inl t⟩
  ·obtain⟨q,rfl,I,U,V⟩:=s (by omega);exact⟨Qng V,.inr ⟨q,_,rfl,U,p⟩⟩)
 clear i s h p;go_enter Tryz.func76,Tryz.ntmps76;go_wp2_with (at_builtin;refine Qab rfl _ _ _ _ rfl o (by rfl) (by rfl) rfl ?_;clear o);go_ret;exact⟨a,z,rfl,M,r.1,r.2⟩
def lCl (l:List Lf)(A:Nat ->Nat)(j:Nat):Value:=
 if j%5=0 then .slice (some ⟨A (j/5),0,none⟩) (gL l (j/5)).p.length (gL l (j/5)).p.length else if j%5=1 then .bool (gL l (j/5)).fl else if j%5=2 then .int .i64 (gL l (j/5)).r else if j%5=3 then .int .i64 (gL l (j/5)).q else .string (gL l (j/5)).v
theorem Qk1 (l:List Lf)(A:Nat ->Nat)(i:Nat):lCl l A (i*5)=.slice (some ⟨A i,0,none⟩) (gL l i).p.length (gL l i).p.length/\ lCl l A (i*5+1)=.bool (gL l i).fl/\ lCl l A (i*5+2)=.int .i64 (gL l i).r/\ lCl l A (i*5+3)=.int .i64 (gL l i).q/\ lCl l A (i*5+4)=.string (gL l i).v:=by
 unfold lCl;refine⟨?_,?_,?_,?_,?_⟩
 ·rw [if_pos (by omega),show i*5/5=i by omega]
 ·rw [if_neg (by omega),if_pos (by omega),show (i*5+1)/5=i by omega]
 ·rw [if_neg (by omega),if_neg (by omega),if_pos (by omega),show (i*5+2)/5=i by omega]
 ·rw [if_neg (by omega),if_neg (by omega),if_neg (by omega),if_pos (by omega),show (i*5+3)/5=i by omega]
 ·rw [if_neg (by omega),if_neg (by omega),if_neg (by omega),if_neg (by omega),show (i*5+4)/5=i by omega]
structure LBl (w:World)(g:Nat)(l:List Lf)(A:Nat ->Nat):Prop where
 g1:g<w.heap.size
 cel:∀j,j<l.length*5 ->w.cell? ⟨g,j,none⟩=some (lCl l A j)
 a1:∀i,i<l.length ->A i<w.heap.size
 str:∀i,i<l.length ->∀t,t<(gL l i).p.length ->w.cell? ⟨A i,t,none⟩=some (.string (gS (gL l i).p t))
theorem LBl.bw{A:Nat ->Nat}(h:LBl w g l A)(hb:Bl w w'):LBl w' g l A:=
 ⟨Nat.lt_of_lt_of_le h.g1 hb.size,fun j hj=>(hb.cell (p:=⟨g,_,none⟩) h.g1).trans (h.cel j hj),fun i hi=>Nat.lt_of_lt_of_le (h.a1 i hi) hb.size,fun i hi t ht=>(hb.cell (p:=⟨A i,_,none⟩) (h.a1 i hi)).trans (h.str i hi t ht)⟩
theorem QhW (g c:Nat)(l:List Lf)(A:Nat ->Nat)(w:World)(hn:l.length<=1048576)(h:LBl w g l A):
  Cl 74 #[.slice (some ⟨g,0,none⟩) l.length c] w fun e w'=>∃a k,e=.returned (.slice a l.length k)/\ Bl w w'/\ (0<l.length ->∃q,a=some ⟨q,0,none⟩/\ w.heap.size<=q/\ q<w'.heap.size/\ Wr w' q 106 (l.length*5) (lCl l A)):=by
 obtain⟨i,hi,z,t,o⟩:=info_parts QbY;obtain⟨a,k,w',m,_,r,_,u⟩:=QfP 35 106 i _ 5 64 Tryz.underlying35 hi z t o rfl (by decide) (by omega) g 0 l.length c (lCl l A) w hn (fun j hj=>by rw [Nat.zero_add];exact h.cel j hj) (fun j _=>by unfold lCl;split;rfl;split;rfl;split;rfl;split<;>rfl);have v:=hid r;have y:=hid u;clear r u h;go_enter Tryz.func74,Tryz.ntmps74;go_wp2_with (at_builtin;refine Qab rfl _ _ _ _ rfl m (by rfl) (by rfl) rfl ?_;clear m);go_ret;exact⟨a,k,rfl,v,y⟩
open Go.Deep
theorem SNw.bl(h:SNw w lo hi g k S):∃A,LBl w g S.l A:=by
 obtain⟨⟨T,W⟩,_,C⟩:=h.lm;have B:∀i,i<S.l.length ->∃q:Nat,w.cell? ⟨g,i*5,none⟩=some (.slice (some ⟨q,0,none⟩) (gL S.l i).p.length (gL S.l i).p.length)/\ q<hi:=fun i hi'=>by
  obtain⟨q,F,q2,q3,P,q5⟩:=C i hi';exact⟨q,F,P⟩
 obtain⟨A,s⟩:=choose_lt B;have Ha:=h.hl;have M:∀i,i<S.l.length ->∃z pc,w.cell? ⟨g,i*5,none⟩=some (.slice z (gL S.l i).p.length pc)/\ Qaw w z (gL S.l i).p/\ w.cell? ⟨g,i*5+1,none⟩=some (.bool (gL S.l i).fl)/\ w.cell? ⟨g,i*5+2,none⟩=some (.int .i64 (gL S.l i).r)/\ w.cell? ⟨g,i*5+3,none⟩=some (.int .i64 (gL S.l i).q)/\ w.cell? ⟨g,i*5+4,none⟩=some (.string (gL S.l i).v):=fun i hi'=>by
  rcases h.cap.seg with R|⟨b,y,e,D,E⟩
  ·omega
  ·have L:g=b:=congrArg Addr.block (Option.some.inj e);have u:0=y:=congrArg Addr.off (Option.some.inj e);have:=E i hi';rw [<- L,<- u] at this;simpa using this
 refine⟨A,by omega,fun j hj=> ?_,fun i hi'=>by have:=(s i hi').2;omega,fun i hi' t ht=> ?_⟩
 ·have hi':j/5<S.l.length:=by omega
  obtain⟨z,pc,o,_,Q,U,V,Y⟩:=M (j/5) hi';obtain⟨Z,G,H,I,J⟩:=Qk1 S.l A (j/5);rcases (show j%5=0 \/j%5=1 \/j%5=2 \/j%5=3 \/j%5=4 by omega) with m|m|m|m|m
  ·rw [show j=j/5*5 by omega,Z];exact(s _ hi').1
  ·rw [show j=j/5*5+1 by omega,G];exact Q
  ·rw [show j=j/5*5+2 by omega,H];exact U
  ·rw [show j=j/5*5+3 by omega,I];exact V
  ·rw [show j=j/5*5+4 by omega,J];exact Y
 ·obtain⟨z,pc,o,O,_⟩:=M i hi';rw [(s i hi').1] at o;have e:=Option.some.inj o;have K:some (⟨A i,0,none⟩:Addr)=z:=by injection e
  rcases O with O|⟨b,y,u,D,E⟩
  ·omega
  ·rw [<- K] at u;have N:A i=b:=congrArg Addr.block (Option.some.inj u);have X:0=y:=congrArg Addr.off (Option.some.inj u);have:=E t ht;rw [<- N,<- X,Nat.zero_add] at this;exact this
structure LCp (wr:World)(lo b:Nat)(l:List Lf)(A:Nat ->Nat)(P:Nat ->Option Addr)(Q G:Nat ->Nat)(k:Nat):Prop where
 b1:lo<=b
 wr':∃C,Wr wr b 106 (l.length*5) C
 old:∀i,k<=i ->i<l.length ->wr.cell? ⟨b,i*5,none⟩=some (.slice (some ⟨A i,0,none⟩) (gL l i).p.length (gL l i).p.length)
 new:∀i,i<k ->i<l.length ->wr.cell? ⟨b,i*5,none⟩=some (.slice (P i) (gL l i).p.length (Q i))
 cel:∀i,i<l.length ->wr.cell? ⟨b,i*5+1,none⟩=some (.bool (gL l i).fl)/\ wr.cell? ⟨b,i*5+2,none⟩=some (.int .i64 (gL l i).r)/\ wr.cell? ⟨b,i*5+3,none⟩=some (.int .i64 (gL l i).q)/\ wr.cell? ⟨b,i*5+4,none⟩=some (.string (gL l i).v)
 own:∀i,i<k ->i<l.length ->0<(gL l i).p.length ->P i=some ⟨G i,0,none⟩/\ b<G i/\ G i<wr.heap.size/\ Wr wr (G i) 9 (gL l i).p.length (fun t=> .string (gS (gL l i).p t))
 sep:∀i j,i<k ->j<k ->i<l.length ->j<l.length ->0<(gL l i).p.length ->0<(gL l j).p.length ->i≠j ->G i≠G j
theorem LCp.step{A:Nat ->Nat}{P:Nat ->Option Addr}{Q G:Nat ->Nat}(h:LCp wr lo b l A P Q G k)(hk:k<l.length)(hb:Bl wr w1)(pa:Option Addr)(pc:Nat)(hn:0<(gL l k).p.length ->∃q,pa=some ⟨q,0,none⟩/\ wr.heap.size<=q/\ q<w1.heap.size/\ Wr w1 q 9 (gL l k).p.length (fun t=> .string (gS (gL l k).p t))):
  ∃P' Q' G',LCp (w1.setCell ⟨b,k*5,none⟩ (.slice pa (gL l k).p.length pc)) lo b l A P' Q' G' (k+1):=by
 obtain⟨C,u⟩:=h.wr';have M:=u.same (hb.block b u.lt);have m:∀j,j≠k*5 ->(w1.setCell ⟨b,k*5,none⟩ (.slice pa (gL l k).p.length pc)).cell? ⟨b,j,none⟩=wr.cell? ⟨b,j,none⟩:=fun j hj=>by
  rw [show (w1.setCell ⟨b,k*5,none⟩ (.slice pa (gL l k).p.length pc)).cell? ⟨b,j,none⟩=w1.cell? ⟨b,j,none⟩ by simp [World.cell?_setCell_other,Ne.symm hj]];exact hb.cell (p:=⟨b,j,none⟩) u.lt
 have U:∃q,(0<(gL l k).p.length ->pa=some ⟨q,0,none⟩/\ wr.heap.size<=q/\ q<w1.heap.size/\ Wr w1 q 9 (gL l k).p.length (fun t=> .string (gS (gL l k).p t))):=by
  by_cases E:0<(gL l k).p.length
  ·obtain⟨q,r⟩:=hn E;exact⟨q,fun _=>r⟩
  ·exact⟨0,fun h=>absurd h E⟩
 obtain⟨q,g⟩:=U;have V:b<wr.heap.size:=u.lt;have Y:=hb.size;refine⟨fun i=>if i=k then pa else P i,fun i=>if i=k then pc else Q i,fun i=>if i=k then q else G i,h.b1,⟨_,M.set _ _⟩,fun i h1 h2=> ?_,fun i h1 h2=> ?_,fun i h2=> ?_,fun i h1 h2 h3=> ?_,fun i j h1 h2 h3 h4 h5 h6 h7=> ?_⟩
 ·rw [m _ (by omega)];exact h.old i (by omega) h2
 ·by_cases e:i=k
  ·subst e;simp only [if_pos];exact World.cell?_setCell_same _ _ _ (M.cell (i:=i*5) (by omega))
  ·simp only [if_neg e];rw [m _ (by omega)];exact h.new i (by omega) h2
 ·rw [m _ (by omega),m _ (by omega),m _ (by omega),m _ (by omega)];exact h.cel i h2
 ·by_cases e:i=k
  ·subst e;simp only [if_pos];obtain⟨v,s,y,z⟩:=g h3;exact⟨v,by omega,by simpa [World.setCell] using y,z.same (zH _ _ _ _ (by simp;omega))⟩
  ·simp only [if_neg e];obtain⟨v,s,y,z⟩:=h.own i (by omega) h2 h3;exact⟨v,s,by simp [World.setCell];omega,(z.same (hb.block _ y)).same (zH _ _ _ _ (by simp;omega))⟩
 ·by_cases e:i=k
  ·subst e;have O:j≠i:=Ne.symm h7;simp only [if_pos,if_neg O];have:=(g h5).2.1;have:=(h.own j (by omega) h4 h6).2.2.1;omega
  ·by_cases o:j=k
   ·subst o;simp only [if_pos,if_neg e];have:=(g h6).2.1;have:=(h.own i (by omega) h3 h5).2.2.1;omega
   ·simp only [if_neg e,if_neg o];exact h.sep i j (by omega) (by omega) h3 h4 h5 h6 h7
theorem LCp.done{A:Nat ->Nat}{P:Nat ->Option Addr}{Q G:Nat ->Nat}(h:LCp wr lo b l A P Q G l.length){lo':Nat}(hh:wr.heap.size<=hi)(hl:lo'<=lo):QbD wr (some ⟨b,0,none⟩) l/\ LWy lo' hi b l P G/\∀k0,LIn wr wr lo' hi b l P Q G k0 0 0:=by
 obtain⟨C,q⟩:=h.wr';have s:=q.lt;refine⟨.inr ⟨b,0,rfl,q.lt,fun i hi'=> ?_⟩,⟨Nat.le_trans hl h.b1,by omega,fun i hi' k=> ?_,fun i j h1 h2 h3 h4 h5=>h.sep i j h1 h2 h1 h2 h3 h4 h5⟩,fun k0=>⟨Btw.refl _ _ _,fun _ _ _=>rfl,⟨C,q⟩,fun i hi'=>h.new i hi' hi',fun i _ hi' k=>(h.own i hi' hi' k).2.2.2.pmk,fun i h1=>by omega,fun i h1=>by omega⟩⟩
 ·obtain⟨v,y,z,g⟩:=h.cel i hi';refine⟨P i,Q i,by simpa using h.new i hi' hi',?_,by simpa using v,by simpa using y,by simpa using z,by simpa using g⟩;by_cases k:0<(gL l i).p.length
  ·obtain⟨m,o,r,u⟩:=h.own i hi' hi' k;exact .inr ⟨G i,0,m,r,fun t ht=>by simpa using u.cell ht⟩
  ·exact .inl (by omega)
 ·obtain⟨m,o,r,u⟩:=h.own i hi' hi' k;exact⟨m,by omega,by have:=h.b1;omega,by omega⟩
theorem LCp.same{A:Nat ->Nat}{P:Nat ->Option Addr}{Q G:Nat ->Nat}(h:LCp wr lo b l A P Q G k)(hs:wr.heap.size<=w'.heap.size)(hq:∀q,lo<=q ->q<wr.heap.size ->w'.heap[q]? =wr.heap[q]?):LCp w' lo b l A P Q G k:=by
 obtain⟨C,u⟩:=h.wr';have r:=hq b h.b1 u.lt;have m:∀j,w'.cell? ⟨b,j,none⟩=wr.cell? ⟨b,j,none⟩:=fun j=>World.cell?_of_block (a:=⟨b,j,none⟩) r;refine⟨h.b1,⟨C,u.same r⟩,fun i h1 h2=>by rw [m];exact h.old i h1 h2,fun i h1 h2=>by rw [m];exact h.new i h1 h2,fun i h2=>by rw [m,m,m,m];exact h.cel i h2,fun i h1 h2 h3=> ?_,h.sep⟩;obtain⟨v,y,z,g⟩:=h.own i h1 h2 h3;exact⟨v,y,by omega,g.same (hq _ (by have:=h.b1;omega) z)⟩
theorem LCp.start{A:Nat ->Nat}(hb:lo<=b)(h:Wr w1 b 106 (l.length*5) (lCl l A)):LCp w1 lo b l A (fun _=>none) (fun _=>0) (fun _=>0) 0:=
 ⟨hb,⟨_,h⟩,fun i _ hi=>by rw [h.cell (by omega),(Qk1 l A i).1],fun i h1=>by omega,fun i hi=>⟨by rw [h.cell (by omega),(Qk1 l A i).2.1],by rw [h.cell (by omega),(Qk1 l A i).2.2.1],by rw [h.cell (by omega),(Qk1 l A i).2.2.2.1],by rw [h.cell (by omega),(Qk1 l A i).2.2.2.2]⟩,fun i h1=>by omega,fun i j h1=>by omega⟩
theorem QdW (g k lo hi c d:Nat)(S:Sx)(w:World)(hm:S.Sm)(h:SNw w lo hi g k S):
  Cl 44 #[.agg #[.slice (some ⟨g,0,none⟩) S.l.length c,.slice (some ⟨k,0,none⟩) S.n d]] w fun e w'=>∃a c' x d',e=.returned (.agg #[.slice a S.l.length c',.slice x S.n d'])/\ SOw w' w.heap.size w'.heap.size a x d' S/\ Bl w w':=by
 obtain⟨A,hA⟩:=h.bl;obtain⟨W,O⟩:=zE ((w.alloc (.cells #[.slice (some ⟨g,0,none⟩) S.l.length c,.slice (some ⟨k,0,none⟩) S.n d] 40)).alloc (.cells #[.slice none 0 0,.slice none 0 0] 40));have M:Bl w W:=by rw [<- O];exact Qae _ _ _
 have I:Bx2 W w.heap.size (.slice (some ⟨g,0,none⟩) S.l.length c) (.slice (some ⟨k,0,none⟩) S.n d):=by rw [<- O];exact(Bx2.made _ _ _ _).bw (zO _ _) (by simp)
 have F0:Bx2 W (w.heap.size+1) (.slice none 0 0) (.slice none 0 0):=by
  rw [<- O];have:=Bx2.made (w.alloc (.cells #[.slice (some ⟨g,0,none⟩) S.l.length c,.slice (some ⟨k,0,none⟩) S.n d] 40)) (.slice none 0 0) (.slice none 0 0) 40;simpa using this
 have Y:=hid F0;obtain⟨k0,k1⟩:=I.q2;have HX:=hid I;have J:=hid M;have HA:=hid (hA.bw M);have Hq:=hid (h.rn.bw M);have HL:=hid (QhW g c S.l A W hm.l1 (hA.bw M));clear h M I F0 hA;go_enter Tryz.func44,Tryz.ntmps44;go_wp2_with fail;try rw [O]
 clear O;refine HL.mono ?_;rintro e w1 ⟨m,z,rfl,D,Hl⟩;have Hc:Hid (Bl W w1/\ (0<S.l.length ->∃b P Q G,m=some ⟨b,0,none⟩/\ LCp w1 W.heap.size b S.l A P Q G 0)):=hid ⟨D,fun s=>by
  obtain⟨q,e1,e2,e3,e4⟩:=Hl s;exact⟨q,_,_,_,e1,LCp.start e2 e4⟩⟩
 have Hs:=hm.l1;have Hp:=hid hm.p1;clear D Hl HL k0 k1;go_wp2_with fail;go_loopw [10] (fun i wr=>∃j:Nat,j<=S.l.length/\ i=.int .i64 (j:Int)/\ Hid (Bl W wr/\ (0<S.l.length ->∃b P Q G,m=some ⟨b,0,none⟩/\ LCp wr W.heap.size b S.l A P Q G j))) (fun i _=>S.l.length - (intOf i).toNat);case atStart=>exact⟨0,Nat.zero_le _,rfl,Hc⟩
 case round=>
  clear Hc;obtain⟨j,hj,rfl,r⟩:=hrel;by_cases Z:j<S.l.length
  ·obtain⟨b,P,Q,G,rfl,V⟩:=r.2 (by omega);have N:=hid V;have i1:(0:Int)<=(j:Int):=Int.natCast_nonneg _;have i2:(j:Int)<(S.l.length:Int):=by omega
   have c0:=V.old j zL Z;have Hf:=HA.bw r.1;have L:=hid (Qjw (A j) 0 (gL S.l j).p.length (gL S.l j).p.length (gL S.l j).p wr rfl (Hp j) (fun t ht=>by rw [Nat.zero_add];exact Hf.str j Z t ht));have B:Hid (∀w1 E pc,Bl wr w1 ->(0<(gL S.l j).p.length ->∃q,E=some ⟨q,0,none⟩/\ wr.heap.size<=q/\ q<w1.heap.size/\ Wr w1 q 9 (gL S.l j).p.length (fun t=> .string (gS (gL S.l j).p t))) ->(∃u,w1.cell? ⟨b,j*5,none⟩=some u)/\ (w1.frozen? ⟨b,j*5,none⟩=false)/\ Bl W (w1.setCell ⟨b,j*5,none⟩ (.slice E (gL S.l j).p.length pc))/\ (0<S.l.length ->∃b' P Q G,some (⟨b,0,none⟩:Addr)=some ⟨b',0,none⟩/\ LCp (w1.setCell ⟨b,j*5,none⟩ (.slice E (gL S.l j).p.length pc)) W.heap.size b' S.l A P Q G (j+1))):=hid (fun w1 E pc U hn=>by
    obtain⟨C,hC⟩:=N.wr';have Hg:=hC.same (U.block b hC.lt);obtain⟨P',Q',G',h'⟩:=N.step Z U E pc hn;exact⟨⟨_,Hg.cell (i:=j*5) (by omega)⟩,Hg.frozen _,(r.1.trans (U.mono r.1.size)).setCell (by have:=N.b1;simp;omega) _,fun _=>⟨b,P',Q',G',rfl,h'⟩⟩)
   obtain⟨np,Hb⟩:=zE ((gL S.l j).p.length);obtain⟨pj,Hk⟩:=zE ((gL S.l j).p);rw [Hb,Hk] at L B;rw [Hb] at c0;clear Hb Hk V Hf;go_wp2_with fail;refine L.mono ?_;rintro e w2 ⟨E,pc,rfl,b2,Hj⟩;obtain⟨⟨u,hu⟩,hf,He,Hh⟩:=B w2 E pc b2 Hj;have Ho:=hid (And.intro He Hh);clear c0 b2 Hj He Hh L B;go_wp2_with fail;go_roundw;case rel=>exact⟨j+1,Z,by go_num,Ho⟩
   case measure=>simp [intOf];omega
  ·obtain rfl:j=S.l.length:=by omega
   have X:=HX.bw r.1 HX.lt;obtain⟨k0,k1⟩:=X.q2;have HR:=hid (Qjv k S.n d S.R S.F S.T wr hm.n1 (Hq.bw r.1));clear X;go_wp2_with fail;refine HR.mono ?_;rintro e o ⟨x,d',rfl,b3,Hn,Hm⟩;have F3:=(Y.bw r.1 Y.lt).bw b3 (Nat.lt_of_lt_of_le Y.lt r.1.size);obtain⟨f0,f1,ff⟩:=F3.p2;have Hr:=hid Hn;have Hd:=hid Hm;have K:=hid b3;have Hv:w.heap.size+1<W.heap.size:=Y.lt;have Hw:W.heap.size<=wr.heap.size:=r.1.size;clear k0 k1 Hn Hm b3 F3 HR;go_wp2_with fail;have Hu:wr.heap.size<=o.heap.size:=K.size;have Ha:∀q,W.heap.size<=q ->q<wr.heap.size ->((o.setCell ⟨w.heap.size+1,0,none⟩ (.slice m S.l.length z)).setCell ⟨w.heap.size+1,1,none⟩ (.slice x S.n d')).heap[q]? =wr.heap[q]? :=fun q h1 h2=>by
    rw [zH _ _ _ _ (by simp;omega),zH _ _ _ _ (by simp;omega)];exact K.block q h2
   have Ht:((o.setCell ⟨w.heap.size+1,0,none⟩ (.slice m S.l.length z)).setCell ⟨w.heap.size+1,1,none⟩ (.slice x S.n d')).heap.size=o.heap.size:=by simp [World.setCell]
   have Hi:QbD ((o.setCell ⟨w.heap.size+1,0,none⟩ (.slice m S.l.length z)).setCell ⟨w.heap.size+1,1,none⟩ (.slice x S.n d')) m S.l/\ (S.l.length=0 \/∃b P Q G,m=some ⟨b,0,none⟩/\ LWy w.heap.size ((o.setCell ⟨w.heap.size+1,0,none⟩ (.slice m S.l.length z)).setCell ⟨w.heap.size+1,1,none⟩ (.slice x S.n d')).heap.size b S.l P G/\∀k0,LIn ((o.setCell ⟨w.heap.size+1,0,none⟩ (.slice m S.l.length z)).setCell ⟨w.heap.size+1,1,none⟩ (.slice x S.n d')) ((o.setCell ⟨w.heap.size+1,0,none⟩ (.slice m S.l.length z)).setCell ⟨w.heap.size+1,1,none⟩ (.slice x S.n d')) w.heap.size ((o.setCell ⟨w.heap.size+1,0,none⟩ (.slice m S.l.length z)).setCell ⟨w.heap.size+1,1,none⟩ (.slice x S.n d')).heap.size b S.l P Q G k0 0 0):=by
    by_cases s:0<S.l.length
    ·obtain⟨b,P,Q,G,rfl,V⟩:=r.2 s;obtain⟨d1,d2,d3⟩:=(V.same (by omega) Ha).done (lo':=w.heap.size) zL (by omega);exact⟨d1,.inr ⟨b,P,Q,G,rfl,d2,d3⟩⟩
    ·exact⟨.inl (by omega),.inl (by omega)⟩
   refine zF (v:=.agg #[.slice m S.l.length z,.slice x S.n d']) (by simp [results,Tryz.results44,go_sem,f0,f1]) ⟨m,z,x,d',rfl,⟨Hi.1,?_,Hi.2,?_,by omega,Nat.le_refl _⟩,?_⟩
   ·rcases Hd.out with s|⟨q,ys,rfl,hq,H⟩
    ·exact .inl s
    ·have U:=(H.lt q rfl).1;exact(Hr.set _ _ (fun y hy=>by injection hy with hy;subst hy;simp;omega)).set _ _ (fun y hy=>by injection hy with hy;subst hy;simp;omega)
   ·rcases Hd.out with s|⟨q,ys,rfl,hq,H⟩
    ·exact .inl s
    ·have U:=(H.lt q rfl).1;exact .inr ⟨q,ys,rfl,by omega,Qb2 (Qbr (Qbr H _ _ (by simp;omega)) _ _ (by simp;omega)) (by omega)⟩
   ·exact(((J.trans (r.1.mono J.size)).trans (K.mono (by have:=J.size;omega))).setCell (by simp) _).setCell (by simp) _
end Go.Proofs.YtgmjgboibfdaeaaGreatDoor
