import Derived.Test.YtdeolligikjieaaGreatDoorFkg09
import Derived.Test.YtdeolligikjieaaGreatDoorFkg05
import Derived.Test.YtdeolligikjieaaGreatDoorFkg07
import Derived.Test.YtdeolligikjieaaGreatDoorFkg08
import Derived.Test.YtdeolligikjieaaGreatDoorFkg02
import Derived.RegionTactic
import Derived.BigRegion
import Derived.Deep.RegionLaw
import Derived.Test.YtdeolligikjieaaGreatDoorFkg06
set_option linter.unusedVariables false
set_option linter.unusedSimpArgs false
set_option maxRecDepth 100000
set_option maxHeartbeats 40000000
namespace Go.Proofs.YtdeolligikjieaaGreatDoor
open Go.ChangeShapes Go.WideShapes Go.ChangeAt Go.RowKit Go.Deep
theorem Qmw (g off m c:Nat)(p:List ByteArray)(w:World)(hp:p.length=m)(hm:m<=1048576)(hg:g<w.heap.size)(h:∀t,t<m ->w.cell? ⟨g,off+t,none⟩=some (.string (gS p t))):
  Calls Tryz.prog 85 #[.slice (some ⟨g,off,none⟩) m c] w fun e w'=>∃q cap,e=.returned (.slice (some ⟨q,0,none⟩) m cap)/\ Below w.heap.size w w'/\ w.heap.size<=q/\ q<w'.heap.size/\ Wr w' q 9 m (fun t=> .string (gS p t))/\ m<=cap/\ cap<=9223372036854775807/\ w'.ownsRow w.heap.size 9 1 (.slice (some ⟨q,0,none⟩) m cap) m (Qcf p):=by
 obtain⟨H,U,Y,Z,G⟩:=info_parts QeW;have r:Below w.heap.size w (w.alloc (.cells #[] 9)):=zO _ _;have b:(w.alloc (.cells #[] 9)).ownsRow w.heap.size 9 1 (.slice (some ⟨w.heap.size,0,none⟩) 0 0) 0 []:=by
  have:=World.ownsRow_lit (base:=w.heap.size) (e:=9) (size:=1) w #[] 0 zL (by unfold maxLen;omega) rfl;simpa using this
 obtain⟨q,cap,w',o,u,i,s⟩:=Qha 65 9 H _ 1 16 Tryz.underlying65 U Y Z G rfl (by decide) (by omega) w.heap.size g off m c (fun t=> .string (gS p t)) (w.alloc (.cells #[] 9)) w.heap.size hm b (by simp) (fun j hj=>(r.cell (p:=⟨g,off+j,none⟩) hg).trans (h j (by omega))) (fun _ _=>rfl);have v:=QcV u;rw [Nat.mul_one] at v;have y:Hid (m<=cap/\ cap<=9223372036854775807):=hid (by
  rcases u.2 with ⟨O,_⟩|⟨K,I,J,V,C,B,L,Q,N,X⟩
  ·cases O
  ·injection V with e1 e2 e3;unfold maxLen at Q;omega)
 have A:Hid (Below w.heap.size w w'):=hid (r.grown i r.size (fun k e=>by injection e with e;omega));have z:=hid v;have E:Hid (w'.ownsRow w.heap.size 9 1 (.slice (some ⟨q,0,none⟩) m cap) m (Qcf p)):=hid (by unfold Qcf;rw [hp];exact u);have M:Hid (w.heap.size<=q):=hid (by rcases s with e|e<;>rw [e];exact Nat.le_refl _;simp);clear u i s v h b r;go_enter Tryz.func85,Tryz.ntmps85;go_wp2_with (at_builtin;refine Qaa rfl _ _ _ _ rfl o (by rfl) (by rfl) rfl ?_;clear o);go_ret;exact⟨q,cap,rfl,A.out,M.out,z.lt,z.out,y.1,y.2,E.out⟩
theorem Qg4 (g off m c:Nat)(y:Lf)(w:World)(hp:y.p.length=m)(hm:m<=1048576)(hg:g<w.heap.size)(h:∀t,t<m ->w.cell? ⟨g,off+t,none⟩=some (.string (gS y.p t))):
  Calls Tryz.prog 52 #[.agg #[.slice (some ⟨g,off,none⟩) m c,.bool y.fl,.int .i64 y.r,.int .i64 y.q,.string y.v]] w fun e w'=>∃q cap,e=.returned (.agg #[.slice (some ⟨q,0,none⟩) m cap,.bool y.fl,.int .i64 y.r,.int .i64 y.q,.string y.v])/\ Below w.heap.size w w'/\ w.heap.size<=q/\ q<w'.heap.size/\ Wr w' q 9 m (fun t=> .string (gS y.p t))/\ m<=cap/\ cap<=9223372036854775807/\ w'.ownsRow w.heap.size 9 1 (.slice (some ⟨q,0,none⟩) m cap) m (Qcf y.p):=by
 obtain⟨W,u⟩:∃W,(w.alloc (.cells #[.slice (some ⟨g,off,none⟩) m c,.bool y.fl,.int .i64 y.r,.int .i64 y.q,.string y.v] 69)).alloc (.cells #[.slice none 0 0,.bool false,.int .i64 0,.int .i64 0,.string ⟨#[]⟩] 69)=W:=⟨_,rfl⟩;have z:Below w.heap.size w W:=by rw [<- u];exact Qak _ _ _
 have i:Bx5 W w.heap.size (.slice (some ⟨g,off,none⟩) m c) (.bool y.fl) (.int .i64 y.r) (.int .i64 y.q) (.string y.v):=by rw [<- u];exact(Bx5.new _ _ _ _ _ _ _).up _
 have b:Bx5 W (w.heap.size+1) (.slice none 0 0) (.bool false) (.int .i64 0) (.int .i64 0) (.string ⟨#[]⟩):=by
  rw [<- u];have:=Bx5.new (w.alloc (.cells #[.slice (some ⟨g,off,none⟩) m c,.bool y.fl,.int .i64 y.r,.int .i64 y.q,.string y.v] 69)) (.slice none 0 0) (.bool false) (.int .i64 0) (.int .i64 0) (.string ⟨#[]⟩) 69;simpa using this
 have A:=hid (Qmw g off m c y.p W hp hm (Nat.lt_of_lt_of_le hg z.size) (fun t ht=>(z.cell (p:=⟨g,off+t,none⟩) hg).trans (h t ht)));have L:=i.c0;have s:=hid i;have E:=hid b;have V:=hid z;have Ha:w.heap.size+1<W.heap.size:=b.lt;clear z i b h;go_enter Tryz.func52,Tryz.ntmps52;go_wp2_with fail;try rw [u]
 clear u;refine A.mono ?_;rintro e w1 ⟨q,cap,rfl,o,O,Q,U,I,J,M⟩;have j:=s.below o s.lt;have k:=E.below o E.lt;have C:=j.c0;have D:=j.c1;have F:=j.c2;have P:=j.c3;have R:=j.c4;have S:=j.f;have N:=k.c0;have r1:=k.c1;have r2:=k.c2;have X:=k.c3;have B:=k.c4;have T:=k.f;have H:=hid U;have Z:Hid (w1.ownsRow w.heap.size 9 1 (.slice (some ⟨q,0,none⟩) m cap) m (Qcf y.p)):=hid (QaV M (by omega));clear M;have Y:=hid (Qab V.out o);have G:Hid (W.heap.size<=q/\ q<w1.heap.size):=hid ⟨O,Q⟩;clear L A U O Q o j k;go_wp2_with fail;have K:=G.out;refine zF (v:=.agg #[.slice (some ⟨q,0,none⟩) m cap,.bool y.fl,.int .i64 y.r,.int .i64 y.q,.string y.v]) (by simp [results,Tryz.results52,go_sem,N,r1,r2,X,B]) ⟨q,cap,rfl,?_,by omega,?_,?_,I,J,?_⟩
 ·repeat (refine Below.setCell ?_ (by simp) _)
  exact Y.out
 ·simp [World.setCell];exact K.2
 ·repeat (refine Wr.same (w:=_) ?_ (zH _ _ _ _ (by simp;omega)))
  exact H.out
 ·refine Qaq Z.out (fun g hg=> ?_);have e:q=g:=by simpa [Value.ownBlock] using hg
  repeat (rw [zH _ _ _ _ (by simp;omega)])
theorem QcT (g off m c:Nat)(y:Lf)(w:World)(hp:y.p.length=m)(hm:m<=1048576)(hg:g<w.heap.size)(h:∀t,t<m ->w.cell? ⟨g,off+t,none⟩=some (.string (gS y.p t))):
  Calls Tryz.prog 52 #[.agg #[.slice (some ⟨g,off,none⟩) m c,.bool y.fl,.int .i64 y.r,.int .i64 y.q,.string y.v]] w fun e w'=>∃q cap,e=.returned (.agg #[.slice (some ⟨q,0,none⟩) m cap,.bool y.fl,.int .i64 y.r,.int .i64 y.q,.string y.v])/\ Below w.heap.size w w'/\ w.heap.size<=q/\ q<w'.heap.size/\ Wr w' q 9 m (fun t=> .string (gS y.p t))/\ m<=cap/\ cap<=9223372036854775807:=
 (Qg4 g off m c y w hp hm hg h).mono fun e w' ⟨q,cap,a1,a2,a3,a4,a5,a6,a7,_⟩=>⟨q,cap,a1,a2,a3,a4,a5,a6,a7⟩
theorem Bx5.setFar {w:World}{b:Nat}{v0 v1 v2 v3 v4:Value}(h:Bx5 w b v0 v1 v2 v3 v4)(t:Nat)(u:Value)(hne:b≠t):Bx5 (w.setCell ⟨t,0,none⟩ u) b v0 v1 v2 v3 v4:=by
 have e:(w.setCell ⟨t,0,none⟩ u).heap[b]? =w.heap[b]? :=zH _ _ _ _ hne;have q:=fun o=>World.cell?_of_block (w:=w) (w':=w.setCell ⟨t,0,none⟩ u) (a:=⟨b,o,none⟩) e;exact⟨(q 0).trans h.c0,(q 1).trans h.c1,(q 2).trans h.c2,(q 3).trans h.c3,(q 4).trans h.c4,fun i=>(World.frozen?_of_block (a:=⟨b,i,none⟩) e).trans (h.f i),by simp [World.setCell];exact h.lt⟩
theorem FR.setFar {w:World}{B:Nat}{v:Value}{l:List Rn}(h:FR w B v l)(q:Addr)(u:Value)(hv:v.ownBlock≠some q.block):FR (w.setCell q u) B v l:=by
 refine World.ownsRow.kept h (w':=w.setCell q u) (row:=some q.block) ⟨rfl,rfl,rfl,by simp [World.setCell],fun k hk hne=>zH _ _ _ _ (fun e=>hne (by rw [e]))⟩ ?_;cases e:v.ownBlock with
 | none=>exact .inl rfl
 | some b=>exact .inr (fun e2=>hv (by rw [e];exact e2))
theorem LC.set {w:World}{lo:Nat}{v:Value}{l:List Lf}{P Q:Nat ->Nat}(h:LC w lo v l P Q)(q:Addr)(u:Value)(hg:v.ownBlock≠some q.block)(hP:∀i,i<l.length ->P i≠q.block):LC (w.setCell q u) lo v l P Q:=
 ⟨Qaq h.row (fun g hg'=>zH _ _ _ _ (fun e=>hg (by rw [hg',e]))),fun i hi=>by
  obtain⟨k,m,r,j⟩:=h.pt i hi;exact⟨k,by simp [World.setCell];exact m,r,j.1.same (zH _ _ _ _ (hP i hi)),j.2⟩⟩
structure JS (w wr:World)(t:Nat)(va0 va1 vb0 vb1:Value)(g c:Nat)(vr:Value)(l:List Lf)(lr:List Rn)(P Q:Nat ->Nat):Prop where
 low:Below w.heap.size w wr
 a:Bx2 wr w.heap.size va0 va1
 b:Bx2 wr (w.heap.size+1) vb0 vb1
 r:Bx2 wr (w.heap.size+1+1) (.slice none 0 0) (.slice none 0 0)
 o:Bx2 wr t (.slice (some ⟨g,0,none⟩) l.length c) vr
 lc:LC wr w.heap.size (.slice (some ⟨g,0,none⟩) l.length c) l P Q
 fr:FR wr w.heap.size vr lr
 ht:w.heap.size+3<=t
 hv:vr.ownBlock≠some t
 hg:w.heap.size+3<=g
 hv2:∀b,vr.ownBlock=some b ->w.heap.size+3<=b
section
variable {w wr w1 : World} {t : Nat} {va0 va1 vb0 vb1 : Value} {g c : Nat} {vr : Value} {l : List Lf} {lr : List Rn} {P Q : Nat -> Nat}
theorem JS.below (h:JS w wr t va0 va1 vb0 vb1 g c vr l lr P Q)(hb:Below wr.heap.size wr w1):JS w w1 t va0 va1 vb0 vb1 g c vr l lr P Q:=
 ⟨h.low.trans (hb.mono h.low.size),h.a.below hb h.a.lt,h.b.below hb h.b.lt,h.r.below hb h.r.lt,h.o.below hb h.o.lt,h.lc.below hb,h.fr.below hb,h.ht,h.hv,h.hg,h.hv2⟩
theorem JS.set {g2 c2 n2:Nat}{l2:List Lf}{P2 Q2:Nat ->Nat}(h:JS w wr t va0 va1 vb0 vb1 g c vr l lr P Q)(hb:Below wr.heap.size wr w1)(h2:LC w1 w.heap.size (.slice (some ⟨g2,0,none⟩) n2 c2) l2 P2 Q2)(hn:n2=l2.length)(hg:wr.heap.size<=g2)(hp:∀i,i<l2.length ->1<=(gL l2 i).p.length):JS w (w1.setCell ⟨t,0,none⟩ (.slice (some ⟨g2,0,none⟩) n2 c2)) t va0 va1 vb0 vb1 g2 c2 vr l2 lr P2 Q2:=by
 subst hn;have j:=h.below hb;have u:=h.o.lt;have m:=h.ht;refine⟨j.low.setCell (by show w.heap.size<=t;omega) _,j.a.setAt _ _ (by show t≠w.heap.size;omega),j.b.setAt _ _ (by show t≠w.heap.size+1;omega),j.r.setAt _ _ (by show t≠w.heap.size+1+1;omega),j.o.set0 _,h2.set _ _ (fun e=>by have:=Qbk e;have:g2=t:=this;omega) (fun i hi e=> ?_),?_,h.ht,h.hv,by omega,h.hv2⟩
 ·have q:=(h2.pt i hi).2.2.2.1.cell (i:=0) (by have:=hp i hi;omega);have e:P2 i=t:=e;rw [e,j.o.c0] at q;cases q
 ·refine World.ownsRow.kept j.fr (w':=w1.setCell ⟨t,0,none⟩ _) (row:=some t) ⟨rfl,rfl,rfl,by simp [World.setCell],fun k hk hne=>zH _ _ _ _ (fun e=>hne (by rw [e]))⟩ ?_;cases e:vr.ownBlock with
  | none=>exact .inl rfl
  | some b=>exact .inr (fun e2=>h.hv (by rw [e];exact e2))
end
structure Put (C:Lf ->Prop)(ls:List Lf)(L:Nat ->List Lf)(s:Nat):Prop where
 yes:∀k,k<ls.length ->C (gL ls k) ->L (k+1)=Qcs (gL ls k) (L k)
 no:∀k,k<ls.length ->¬C (gL ls k) ->L (k+1)=L k
 len:∀k,k<=ls.length ->(L k).length<=s+k
 pth:∀k,k<=ls.length ->∀i,i<(L k).length ->1<=(gL (L k) i).p.length/\ (gL (L k) i).p.length<=8
theorem Put.of (C:Lf ->Prop)(ls out:List Lf)(s:Nat)(ho:out.length<=s)(h1:∀i,i<ls.length ->1<=(gL ls i).p.length/\ (gL ls i).p.length<=8)(h2:∀i,i<out.length ->1<=(gL out i).p.length/\ (gL out i).p.length<=8):Put C ls (Qeh C ls out) s:=
 ⟨fun k hk h=>Qfj h,fun k hk h=>QgC h,fun k hk=>by have:=Qdu (P:=C) (ls:=ls) (out:=out) k;omega,fun k hk i hi=>by
  have m:=Qa1.2 ⟨i,hi,rfl⟩;rcases Qcl.1 m with h|⟨t,j,_,e⟩
  ·obtain⟨t,j,e⟩:=Qa1.1 h;rw [<- e];exact h2 t j
  ·rw [<- e];exact h1 t (by omega)⟩
theorem Qja (a b:Option Addr)(ca cb:Nat)(la lb:List Lf)(xa:Option Addr)(n d:Nat)(R F T:Nat ->Int)(x':Option Addr)(n' d':Nat)(R' F' T':Nat ->Int)(w:World)(hn:n<=1000)(hn':n'<=1000)(ho:Qeg R F T n)(ho':Qeg R' F' T' n')(G9:la.length<=1000)(Ka:lb.length<=1000)(hpa:∀i,i<la.length ->1<=(gL la i).p.length/\ (gL la i).p.length<=8)(Hq:∀i,i<lb.length ->1<=(gL lb i).p.length/\ (gL lb i).p.length<=8)
  (h1:Qef w a la) (h2:Qef w b lb) (h3:Qb3 w xa n R F T) (h4:Qb3 w x' n' R' F' T'):
  Calls Tryz.prog 22 #[.agg #[.slice a la.length ca,.slice xa n d],.agg #[.slice b lb.length cb,.slice x' n' d']] w fun e w'=>(∃g c ra rc P Q,e=.returned (.agg #[.slice (some ⟨g,0,none⟩) (jn R F T n la R' F' T' n' lb).length c,.slice ra (unL R F T n R' F' T' n').length rc])/\ LC w' w.heap.size (.slice (some ⟨g,0,none⟩) (jn R F T n la R' F' T' n' lb).length c) (jn R F T n la R' F' T' n' lb) P Q/\ FR w' w.heap.size (.slice ra (unL R F T n R' F' T' n').length rc) (unL R F T n R' F' T' n'))/\ Below w.heap.size w w':=by
 obtain⟨W,hW⟩:∃W,(((w.alloc (.cells #[.slice a la.length ca,.slice xa n d] 28)).alloc (.cells #[.slice b lb.length cb,.slice x' n' d'] 28)).alloc (.cells #[.slice none 0 0,.slice none 0 0] 28)).alloc (.cells #[] 69)=W:=⟨_,rfl⟩;have b0:Below w.heap.size w W:=by rw [<- hW];exact((Qak _ _ _).alloc (by simp;omega) _).alloc (by simp;omega) _
 have zW:W.heap.size=w.heap.size+4:=by rw [<- hW];simp
 have A0:Bx2 W w.heap.size (.slice a la.length ca) (.slice xa n d):=by rw [<- hW];exact(((Bx2.made w _ _ _).allocs _).allocs _).allocs _
 have B0:Bx2 W (w.heap.size+1) (.slice b lb.length cb) (.slice x' n' d'):=by
  rw [<- hW];have:=Bx2.made (w.alloc (.cells #[.slice a la.length ca,.slice xa n d] 28)) (.slice b lb.length cb) (.slice x' n' d') 28;exact((by simpa using this:Bx2 _ (w.heap.size+1) _ _).allocs _).allocs _
 have R0:Bx2 W (w.heap.size+1+1) (.slice none 0 0) (.slice none 0 0):=by
  rw [<- hW];have:=Bx2.made ((w.alloc (.cells #[.slice a la.length ca,.slice xa n d] 28)).alloc (.cells #[.slice b lb.length cb,.slice x' n' d'] 28)) (.slice none 0 0) (.slice none 0 0) 28;exact(by simpa using this:Bx2 _ (w.heap.size+1+1) _ _).allocs _
 have L0:LC W w.heap.size (.slice (some ⟨w.heap.size+3,0,none⟩) 0 0) [] (fun _=>0) (fun _=>0):=by
  refine⟨?_,fun i hi=>by simp at hi⟩;have:=World.ownsRow_lit (base:=w.heap.size) (e:=69) (size:=5) (((w.alloc (.cells #[.slice a la.length ca,.slice xa n d] 28)).alloc (.cells #[.slice b lb.length cb,.slice x' n' d'] 28)).alloc (.cells #[.slice none 0 0,.slice none 0 0] 28)) #[] 0 (by simp;omega) (by unfold maxLen;omega) rfl;rw [hW] at this;simpa using this
 have Gg:=hid A0;have Gk:=hid B0;have Gn:=hid R0;have Gv:=hid L0;have Gi:=hid b0;have G1:=hid zW;have HU:=hid (Qe5 xa n d R F T x' n' d' R' F' T' W hn hn' (h3.below b0) (h4.below b0) ho ho');have H1:=hid h1;have H2:=hid h2;have H3:=hid h3;have H4:=hid h4;have Gw:=hid hpa;have Gx:=hid Hq;have Gc:=hid (And.intro G9 Ka);obtain⟨z,Gd⟩:∃z,Qeh (fun x=>x∈lb \/¬Qcn R' F' T' n' x) la []=z:=⟨_,rfl⟩;obtain⟨LB,Ge⟩:∃LB,Qeh (fun x=>¬Qcn R F T n x) lb (z la.length)=LB:=⟨_,rfl⟩;obtain⟨J,hJ⟩:∃J,jn R F T n la R' F' T' n' lb=J:=⟨_,rfl⟩;have Hm:Hid (Put (fun x=>x∈lb \/¬Qcn R' F' T' n' x) la z 0):=hid (by rw [<- Gd];exact Put.of _ la [] 0 zL hpa (fun i hi=>by simp at hi));have Hz:Hid (Put (fun x=>¬Qcn R F T n x) lb LB la.length):=hid (by rw [<- Ge];exact Put.of _ lb _ _ (by have:=Hm.len la.length zL;omega) Hq (Hm.pth la.length zL));have Gh:Hid (z 0=[]):=hid (by rw [<- Gd];rfl);have Gj:Hid (LB 0=z la.length):=hid (by rw [<- Ge];rfl);have Gu:Hid (LB lb.length=J):=hid (by rw [<- Ge,<- Gd,<- hJ];rfl);rw [hJ];have k1:=A0.c1;have k2:=B0.c1;clear A0 B0 R0 L0 b0 zW h1 h2 h3 h4 hpa Hq hJ Gd Ge;go_enter Tryz.func22,Tryz.ntmps22;go_wp2_with fail;try rw [hW]
 clear hW;refine HU.mono ?_;rintro e w1 ⟨vr,rfl,f1,b1⟩;obtain⟨ul,Gq⟩:∃ul,unL R F T n R' F' T' n'=ul:=⟨_,rfl⟩;rw [Gq] at f1;obtain⟨ra,rc,Kb,_⟩:=f1.fs;subst Kb;obtain⟨w2,Gf⟩:∃w2,w1.alloc (.cells #[.slice (some ⟨w.heap.size+1+1+1,0,none⟩) 0 0,.slice ra ul.length rc] 28)=w2:=⟨_,rfl⟩;have b2:Below w1.heap.size w1 w2:=by rw [<- Gf];exact zO _ _
 have H5:=Qab b1 b2;have Gm:Hid (JS w w2 w1.heap.size (.slice a la.length ca) (.slice xa n d) (.slice b lb.length cb) (.slice x' n' d') (w.heap.size+1+1+1) 0 (.slice ra ul.length rc) (z 0) ul (fun _=>0) (fun _=>0)):=hid (by
  have hz:=G1.out;have Kd:=b1.size;rw [Gh.out];refine⟨Gi.trans (H5.mono Gi.size),Gg.below H5 Gg.lt,Gk.below H5 Gk.lt,Gn.below H5 Gn.lt,by rw [<- Gf];exact Bx2.made _ _ _ _,Gv.below H5,(f1.below b2).weak (by omega),by omega,fun e=> ?_,by omega,fun b e=> ?_⟩
  ·have:=(World.ownsRow.lt f1 _ e).2;omega
  ·have:=(World.ownsRow.lt f1 _ e).1;omega)
 have Gz:=hid Gq;clear f1 b1 b2 H5 k1 k2 HU Gg Gk Gn Gv Gi G1 Gq;go_wp2_with fail;try rw [Gf]
 clear Gf;obtain⟨t,hT⟩:∃t,w1.heap.size=t:=⟨_,rfl⟩;rw [hT] at Gm ⊢;clear hT;go_loopw [6] (fun i wr=>∃(j g c:Nat) (P Q:Nat ->Nat),j<=la.length/\ i=.int .i64 j/\ Hid (JS w wr t (.slice a la.length ca) (.slice xa n d) (.slice b lb.length cb) (.slice x' n' d') g c (.slice ra ul.length rc) (z j) ul P Q)) (fun i _=>la.length - (intOf i).toNat);case atStart=>exact⟨0,_,_,_,_,Nat.zero_le _,rfl,Gm⟩
 case round=>
  clear Gm;obtain⟨j,g,c,P,Q,hj,rfl,HS⟩:=hrel;have a0:=HS.a.c0;by_cases He:j<la.length
  ·have i1:(0:Int)<=(j:Int):=Int.natCast_nonneg _;have i2:(j:Int)<(la.length:Int):=by omega
   obtain⟨ab,ao,rfl,Gp,Ga⟩:=(H1.below HS.low).resolve_left (by omega);obtain⟨pa,pc,⟨Z,d0⟩,sg,N,c2,c3,c4⟩:=Ga j He;obtain⟨B,C,rfl,Hq,Hs⟩:=sg.resolve_left (by have:=(Gw j He).1;omega);have Ht:=Gw j He;obtain⟨y,hy⟩:∃y,gL la j=y:=⟨_,rfl⟩;rw [hy] at Z N c2 c3 c4 d0 Hs Ht;have HY:=hid hy;obtain⟨m,G,Y,O,H⟩:=y;dsimp only at Z N c2 c3 c4 d0 Hs Ht;obtain⟨w5,H0⟩:∃w5,wr.alloc (.cells #[.slice (some ⟨B,C,none⟩) m.length pc,.bool G,.int .i64 Y,.int .i64 O,.string H] 69)=w5:=⟨_,rfl⟩;have b5:Below wr.heap.size wr w5:=by rw [<- H0];exact zO _ _
   have X5:Bx5 w5 wr.heap.size (.slice (some ⟨B,C,none⟩) m.length pc) (.bool G) (.int .i64 Y) (.int .i64 O) (.string H):=by rw [<- H0];exact Bx5.new _ _ _ _ _ _ _
   have Hv:=hid (HS.below b5);have H8:=hid X5;have Gl:=hid d0;have Hr:=hid Ht;have H7:Hid (QaR w5 (some ⟨B,C,none⟩) m):=hid (.inr ⟨B,C,rfl,Nat.lt_of_lt_of_le Hq b5.size,fun i hi=>(b5.cell (p:=⟨B,C+i,none⟩) Hq).trans (Hs i hi)⟩);have x0:=X5.c0;have x1:=X5.c1;have x2:=X5.c2;have x3:=X5.c3;have x4:=X5.c4;clear hy Ga sg Hs Hq Gp b5 X5 d0 Ht HS;have hf:=hid (fun M (b6:Below w5.heap.size w5 M)=>Qmu b (some ⟨B,C,none⟩) cb pc lb m G Y O H M (by have:=Gc.out;omega) Gl.1 Gl.2 ((H2.below Hv.low).below b6) (H7.below b6));have e0:=Hv.b.c0;have e1:=Hv.b.c1;go_wp2_with fail;refine(hf w5 zI).mono ?_;rintro e M ⟨⟨fi,rfl,G2⟩,b6⟩;have s:=hid (Hv.below b6);have Hd:=hid (H8.below b6 H8.lt);have Hy:=hid b6;have Gt:=hid G2;clear e0 e1 hf G2 b6 x0 x1 x2 x3 x4 a0 Z N c2 c3 c4 H0;by_cases Hj:(⟨m,G,Y,O,H⟩:Lf)∈lb
   ·have e0:(0:Int)<=fi:=Gt.2 Hj;have Hx:Hid (Qcs ⟨m,G,Y,O,H⟩ (z j)=z (j+1)):=hid (by rw [Hm.yes j He (by rw [HY.out];exact .inl Hj),HY.out]);clear Hj;have D:Hid (∀w',Below M.heap.size M w' ->(w'.cell? ⟨wr.heap.size,0,none⟩=some (.slice (some ⟨B,C,none⟩) m.length pc)/\ w'.cell? ⟨wr.heap.size,1,none⟩=some (.bool G)/\ w'.cell? ⟨wr.heap.size,2,none⟩=some (.int .i64 Y)/\ w'.cell? ⟨wr.heap.size,3,none⟩=some (.int .i64 O)/\ w'.cell? ⟨wr.heap.size,4,none⟩=some (.string H))):=hid (fun w' b=>by
     have X:=Hd.below b Hd.lt;exact⟨X.c0,X.c1,X.c2,X.c3,X.c4⟩)
    have Hk:Hid (∀w',Below M.heap.size M w' ->Calls Tryz.prog 52 #[.agg #[.slice (some ⟨B,C,none⟩) m.length pc,.bool G,.int .i64 Y,.int .i64 O,.string H]] w' fun e w''=>∃q cap,e=.returned (.agg #[.slice (some ⟨q,0,none⟩) m.length cap,.bool G,.int .i64 Y,.int .i64 O,.string H])/\ Below w'.heap.size w' w''/\ w'.heap.size<=q/\ q<w''.heap.size/\ Wr w'' q 9 m.length (fun t=> .string (gS m t))/\ m.length<=cap/\ cap<=9223372036854775807):=hid (fun w' b=>by
     obtain⟨G6,G7,e,Hp,H9⟩:=((H7.below Hy.out).below b).resolve_left (by have:=Hr.1;omega);injection e with e;injection e with e1 e2;subst e1;subst e2;exact QcT B C m.length pc ⟨m,G,Y,O,H⟩ w' rfl (by have:=Hr.2;omega) Hp H9)
    have Hl:Hid (∀u q cap,Below M.heap.size M u ->M.heap.size<=q ->q<u.heap.size ->Wr u q 9 m.length (fun t=> .string (gS m t)) ->m.length<=cap/\ cap<=9223372036854775807 ->Calls Tryz.prog 55 #[.slice (some ⟨g,0,none⟩) (z j).length c,.agg #[.slice (some ⟨q,0,none⟩) m.length cap,.bool G,.int .i64 Y,.int .i64 O,.string H]] u fun e w'=>(∃g' cap' P' Q',e=.returned (.slice (some ⟨g',0,none⟩) ((z j).length+1) cap')/\ u.heap.size<=g'/\ LC w' w.heap.size (.slice (some ⟨g',0,none⟩) ((z j).length+1) cap') (z (j+1)) P' Q')/\ Below u.heap.size u w'):=hid (fun u q cap b7 hq1 hq2 hw hcap=>by
     have hJ:=s.below b7;have hs:=hJ.low.size;have G4:=s.low.size;rw [<- Hx.out];exact QfH g c (z j) P Q u w.heap.size q cap m G Y O H hJ.lc hs (by have h1:=Hm.len j (by omega);have h2:=Gc.out;omega) (fun i hi=>by have:=(Hm.pth j (by omega) i hi).2;omega) (by have:=Hr.2;omega) ⟨by omega,hq2⟩ hw hcap)
    have Hu:Hid ((z j).length+1=(z (j+1)).length):=hid (by rw [<- Hx.out,Qby]);have Hw:Hid (wr.heap.size≠t):=hid (fun e=>by
     have h1:=Hd.c1;rw [e,s.o.c1] at h1;cases h1)
    have t0:=(s.o.below zI.drew s.o.lt).c0;go_wp2_with fail;refine zR (S:=fun w'=>w'.cell? ⟨wr.heap.size,0,none⟩=some (.slice (some ⟨B,C,none⟩) m.length pc)/\ w'.cell? ⟨wr.heap.size,1,none⟩=some (.bool G)/\ w'.cell? ⟨wr.heap.size,2,none⟩=some (.int .i64 Y)/\ w'.cell? ⟨wr.heap.size,3,none⟩=some (.int .i64 O)/\ w'.cell? ⟨wr.heap.size,4,none⟩=some (.string H)) (D _ zI.drew) (fun qh=> ?_);refine tZ 0 42 ?_;refine tZ 2 44 ?_;refine QaO (i:=1) (j:=3) (d:=some 43) (d':=some 45) (by kernel_rfl) (by kernel_rfl) (by kernel_rfl) ?_ ?_
    ·
     intro o ho Gb K k;simp only [gZa,gZb,gZc,gZd] at ho;subst ho;go_simp;refine k.out _ _ (D _ zI.drew) (fun qh=> ?_);clear k K;try simp only [zP]
     clear t0;refine cZ 3 ?_;intro K k;go_simp;refine(Hk _ zI.drew).mono ?_;rintro e u ⟨q7,Hf,rfl,b7,Hb,Hc,Hi,Ha⟩;have V:Below M.heap.size M u:=⟨b7.os,b7.tape,b7.output,b7.size,b7.block⟩;refine k.out _ _ (D _ V) (fun qh=> ?_);clear k K;try simp only [zP]
     have Hg:=hid (Hl u q7 Hf V Hb Hc Hi Ha);clear Hi Ha Hb Hc;refine cZ 4 ?_;intro K k;go_simp;refine Hg.mono ?_;rintro e L ⟨⟨E,A,P8,Q8,rfl,Ho,l8⟩,b8⟩;have I:=Qab V b8;have Hn:=hid (s.set I l8 Hu.out (by have:=V.size;omega) (fun i hi=>(Hm.pth (j+1) He i hi).1));have O8:=s.o.below I s.o.lt;refine k.out _ _ (D _ I) (fun qh=> ?_);clear k K;try simp only [zP]
     refine tZ 5 47 ?_;have o0:=O8.c0;have of:=O8.f 0;have U:=((Hd.below I Hd.lt).setFar t (.slice (some ⟨E,0,none⟩) ((z j).length+1) A) Hw.out);have Hh:=hid (⟨U.c0,U.c1,U.c2,U.c3,U.c4⟩:(L.setCell ⟨t,0,none⟩ (.slice (some ⟨E,0,none⟩) ((z j).length+1) A)).cell? ⟨wr.heap.size,0,none⟩=some (.slice (some ⟨B,C,none⟩) m.length pc)/\ (L.setCell ⟨t,0,none⟩ (.slice (some ⟨E,0,none⟩) ((z j).length+1) A)).cell? ⟨wr.heap.size,1,none⟩=some (.bool G)/\ (L.setCell ⟨t,0,none⟩ (.slice (some ⟨E,0,none⟩) ((z j).length+1) A)).cell? ⟨wr.heap.size,2,none⟩=some (.int .i64 Y)/\ (L.setCell ⟨t,0,none⟩ (.slice (some ⟨E,0,none⟩) ((z j).length+1) A)).cell? ⟨wr.heap.size,3,none⟩=some (.int .i64 O)/\ (L.setCell ⟨t,0,none⟩ (.slice (some ⟨E,0,none⟩) ((z j).length+1) A)).cell? ⟨wr.heap.size,4,none⟩=some (.string H));clear O8 U;refine cZ 6 ?_;intro K k;go_simp;refine k.out _ _ Hh.out (fun qh=> ?_);clear k K;try simp only [zP]
     refine zD ?_;clear qh b7 V b8 I l8 Ho o0 of Hg Hl Hk D Hh;go_wp2_with fail;go_roundw;case rel=>exact⟨j+1,E,A,P8,Q8,He,by go_num,Hn⟩
     case measure=>simp [intOf];omega
    ·
     clear t0;intro o ho Gb K k;simp only [gZa,gZb,gZc,gZd] at ho;subst ho;go_simp;refine(Hk _ zI.drew).mono ?_;rintro e u ⟨q7,Hf,rfl,b7,Hb,Hc,Hi,Ha⟩;have V:Below M.heap.size M u:=⟨b7.os,b7.tape,b7.output,b7.size,b7.block⟩;refine k.out _ _ (D _ V) (fun qh=> ?_);clear k K;try simp only [zP]
     have t0:=(s.o.below V s.o.lt).c0;refine cZ 1 ?_;intro K k;go_simp;refine k.out _ _ (D _ V) (fun qh=> ?_);clear k K;try simp only [zP]
     clear t0;have Hg:=hid (Hl u q7 Hf V Hb Hc Hi Ha);clear Hi Ha Hb Hc;refine cZ 4 ?_;intro K k;go_simp;refine Hg.mono ?_;rintro e L ⟨⟨E,A,P8,Q8,rfl,Ho,l8⟩,b8⟩;have I:=Qab V b8;have Hn:=hid (s.set I l8 Hu.out (by have:=V.size;omega) (fun i hi=>(Hm.pth (j+1) He i hi).1));have O8:=s.o.below I s.o.lt;refine k.out _ _ (D _ I) (fun qh=> ?_);clear k K;try simp only [zP]
     refine tZ 5 47 ?_;have o0:=O8.c0;have of:=O8.f 0;have U:=((Hd.below I Hd.lt).setFar t (.slice (some ⟨E,0,none⟩) ((z j).length+1) A) Hw.out);have Hh:=hid (⟨U.c0,U.c1,U.c2,U.c3,U.c4⟩:(L.setCell ⟨t,0,none⟩ (.slice (some ⟨E,0,none⟩) ((z j).length+1) A)).cell? ⟨wr.heap.size,0,none⟩=some (.slice (some ⟨B,C,none⟩) m.length pc)/\ (L.setCell ⟨t,0,none⟩ (.slice (some ⟨E,0,none⟩) ((z j).length+1) A)).cell? ⟨wr.heap.size,1,none⟩=some (.bool G)/\ (L.setCell ⟨t,0,none⟩ (.slice (some ⟨E,0,none⟩) ((z j).length+1) A)).cell? ⟨wr.heap.size,2,none⟩=some (.int .i64 Y)/\ (L.setCell ⟨t,0,none⟩ (.slice (some ⟨E,0,none⟩) ((z j).length+1) A)).cell? ⟨wr.heap.size,3,none⟩=some (.int .i64 O)/\ (L.setCell ⟨t,0,none⟩ (.slice (some ⟨E,0,none⟩) ((z j).length+1) A)).cell? ⟨wr.heap.size,4,none⟩=some (.string H));clear O8 U;refine cZ 6 ?_;intro K k;go_simp;refine k.out _ _ Hh.out (fun qh=> ?_);clear k K;try simp only [zP]
     refine zD ?_;clear qh b7 V b8 I l8 Ho o0 of Hg Hl Hk D Hh;go_wp2_with fail;go_roundw;case rel=>exact⟨j+1,E,A,P8,Q8,He,by go_num,Hn⟩
     case measure=>simp [intOf];omega
   ·have e0:¬(0:Int)<=fi:=fun h=>Hj (Gt.1 h);have hh:=hid (fun u (b7:Below M.heap.size M u)=>Qms x' n' d' R' F' T' Y O u (by omega) ((H4.below s.low).below b7));have y2:=Hd.c2;have y3:=Hd.c3;have z1:=s.b.c1;go_wp2_with fail;refine(hh M zI).mono ?_;rintro e u ⟨rfl,b7⟩;have Gy:=hid (s.below b7);have G0:=hid (Hd.below b7 Hd.lt);have Gs:=hid (Qab Hy.out b7);clear b7 y2 y3 z1 hh s Hd Hy;have s:=Gy;have Hd:=G0;have Hy:=Gs;clear Gy G0 Gs;obtain⟨G8,Gr⟩:∃G8,G8=M:=⟨_,rfl⟩;subst Gr;obtain⟨M,Kc⟩:∃M,M=u:=⟨_,rfl⟩;subst Kc;cases hh:Qco R' F' T' Y O O n' with
    | false=>
     have Hx:Hid (Qcs ⟨m,G,Y,O,H⟩ (z j)=z (j+1)):=hid (by rw [Hm.yes j He (by rw [HY.out];exact .inr (fun h=>by unfold Qcn at h;rw [hh] at h;cases h)),HY.out]);clear hh Hj;have D:Hid (∀w',Below M.heap.size M w' ->(w'.cell? ⟨wr.heap.size,0,none⟩=some (.slice (some ⟨B,C,none⟩) m.length pc)/\ w'.cell? ⟨wr.heap.size,1,none⟩=some (.bool G)/\ w'.cell? ⟨wr.heap.size,2,none⟩=some (.int .i64 Y)/\ w'.cell? ⟨wr.heap.size,3,none⟩=some (.int .i64 O)/\ w'.cell? ⟨wr.heap.size,4,none⟩=some (.string H))):=hid (fun w' b=>by
      have X:=Hd.below b Hd.lt;exact⟨X.c0,X.c1,X.c2,X.c3,X.c4⟩)
     have Hk:Hid (∀w',Below M.heap.size M w' ->Calls Tryz.prog 52 #[.agg #[.slice (some ⟨B,C,none⟩) m.length pc,.bool G,.int .i64 Y,.int .i64 O,.string H]] w' fun e w''=>∃q cap,e=.returned (.agg #[.slice (some ⟨q,0,none⟩) m.length cap,.bool G,.int .i64 Y,.int .i64 O,.string H])/\ Below w'.heap.size w' w''/\ w'.heap.size<=q/\ q<w''.heap.size/\ Wr w'' q 9 m.length (fun t=> .string (gS m t))/\ m.length<=cap/\ cap<=9223372036854775807):=hid (fun w' b=>by
      obtain⟨G6,G7,e,Hp,H9⟩:=((H7.below Hy.out).below b).resolve_left (by have:=Hr.1;omega);injection e with e;injection e with e1 e2;subst e1;subst e2;exact QcT B C m.length pc ⟨m,G,Y,O,H⟩ w' rfl (by have:=Hr.2;omega) Hp H9)
     have Hl:Hid (∀u q cap,Below M.heap.size M u ->M.heap.size<=q ->q<u.heap.size ->Wr u q 9 m.length (fun t=> .string (gS m t)) ->m.length<=cap/\ cap<=9223372036854775807 ->Calls Tryz.prog 55 #[.slice (some ⟨g,0,none⟩) (z j).length c,.agg #[.slice (some ⟨q,0,none⟩) m.length cap,.bool G,.int .i64 Y,.int .i64 O,.string H]] u fun e w'=>(∃g' cap' P' Q',e=.returned (.slice (some ⟨g',0,none⟩) ((z j).length+1) cap')/\ u.heap.size<=g'/\ LC w' w.heap.size (.slice (some ⟨g',0,none⟩) ((z j).length+1) cap') (z (j+1)) P' Q')/\ Below u.heap.size u w'):=hid (fun u q cap b7 hq1 hq2 hw hcap=>by
      have hJ:=s.below b7;have hs:=hJ.low.size;have G4:=s.low.size;rw [<- Hx.out];exact QfH g c (z j) P Q u w.heap.size q cap m G Y O H hJ.lc hs (by have h1:=Hm.len j (by omega);have h2:=Gc.out;omega) (fun i hi=>by have:=(Hm.pth j (by omega) i hi).2;omega) (by have:=Hr.2;omega) ⟨by omega,hq2⟩ hw hcap)
     have Hu:Hid ((z j).length+1=(z (j+1)).length):=hid (by rw [<- Hx.out,Qby]);have Hw:Hid (wr.heap.size≠t):=hid (fun e=>by
      have h1:=Hd.c1;rw [e,s.o.c1] at h1;cases h1)
     have t0:=(s.o.below zI.drew s.o.lt).c0;go_wp2_with fail;refine zR (S:=fun w'=>w'.cell? ⟨wr.heap.size,0,none⟩=some (.slice (some ⟨B,C,none⟩) m.length pc)/\ w'.cell? ⟨wr.heap.size,1,none⟩=some (.bool G)/\ w'.cell? ⟨wr.heap.size,2,none⟩=some (.int .i64 Y)/\ w'.cell? ⟨wr.heap.size,3,none⟩=some (.int .i64 O)/\ w'.cell? ⟨wr.heap.size,4,none⟩=some (.string H)) (D _ zI.drew) (fun qh=> ?_);refine tZ 0 42 ?_;refine tZ 2 44 ?_;refine QaO (i:=1) (j:=3) (d:=some 43) (d':=some 45) (by kernel_rfl) (by kernel_rfl) (by kernel_rfl) ?_ ?_
     ·
      intro o ho Gb K k;simp only [gZa,gZb,gZc,gZd] at ho;subst ho;go_simp;refine k.out _ _ (D _ zI.drew) (fun qh=> ?_);clear k K;try simp only [zP]
      clear t0;refine cZ 3 ?_;intro K k;go_simp;refine(Hk _ zI.drew).mono ?_;rintro e u ⟨q7,Hf,rfl,b7,Hb,Hc,Hi,Ha⟩;have V:Below M.heap.size M u:=⟨b7.os,b7.tape,b7.output,b7.size,b7.block⟩;refine k.out _ _ (D _ V) (fun qh=> ?_);clear k K;try simp only [zP]
      have Hg:=hid (Hl u q7 Hf V Hb Hc Hi Ha);clear Hi Ha Hb Hc;refine cZ 4 ?_;intro K k;go_simp;refine Hg.mono ?_;rintro e L ⟨⟨E,A,P8,Q8,rfl,Ho,l8⟩,b8⟩;have I:=Qab V b8;have Hn:=hid (s.set I l8 Hu.out (by have:=V.size;omega) (fun i hi=>(Hm.pth (j+1) He i hi).1));have O8:=s.o.below I s.o.lt;refine k.out _ _ (D _ I) (fun qh=> ?_);clear k K;try simp only [zP]
      refine tZ 5 47 ?_;have o0:=O8.c0;have of:=O8.f 0;have U:=((Hd.below I Hd.lt).setFar t (.slice (some ⟨E,0,none⟩) ((z j).length+1) A) Hw.out);have Hh:=hid (⟨U.c0,U.c1,U.c2,U.c3,U.c4⟩:(L.setCell ⟨t,0,none⟩ (.slice (some ⟨E,0,none⟩) ((z j).length+1) A)).cell? ⟨wr.heap.size,0,none⟩=some (.slice (some ⟨B,C,none⟩) m.length pc)/\ (L.setCell ⟨t,0,none⟩ (.slice (some ⟨E,0,none⟩) ((z j).length+1) A)).cell? ⟨wr.heap.size,1,none⟩=some (.bool G)/\ (L.setCell ⟨t,0,none⟩ (.slice (some ⟨E,0,none⟩) ((z j).length+1) A)).cell? ⟨wr.heap.size,2,none⟩=some (.int .i64 Y)/\ (L.setCell ⟨t,0,none⟩ (.slice (some ⟨E,0,none⟩) ((z j).length+1) A)).cell? ⟨wr.heap.size,3,none⟩=some (.int .i64 O)/\ (L.setCell ⟨t,0,none⟩ (.slice (some ⟨E,0,none⟩) ((z j).length+1) A)).cell? ⟨wr.heap.size,4,none⟩=some (.string H));clear O8 U;refine cZ 6 ?_;intro K k;go_simp;refine k.out _ _ Hh.out (fun qh=> ?_);clear k K;try simp only [zP]
      refine zD ?_;clear qh b7 V b8 I l8 Ho o0 of Hg Hl Hk D Hh;go_wp2_with fail;go_roundw;case rel=>exact⟨j+1,E,A,P8,Q8,He,by go_num,Hn⟩
      case measure=>simp [intOf];omega
     ·
      clear t0;intro o ho Gb K k;simp only [gZa,gZb,gZc,gZd] at ho;subst ho;go_simp;refine(Hk _ zI.drew).mono ?_;rintro e u ⟨q7,Hf,rfl,b7,Hb,Hc,Hi,Ha⟩;have V:Below M.heap.size M u:=⟨b7.os,b7.tape,b7.output,b7.size,b7.block⟩;refine k.out _ _ (D _ V) (fun qh=> ?_);clear k K;try simp only [zP]
      have t0:=(s.o.below V s.o.lt).c0;refine cZ 1 ?_;intro K k;go_simp;refine k.out _ _ (D _ V) (fun qh=> ?_);clear k K;try simp only [zP]
      clear t0;have Hg:=hid (Hl u q7 Hf V Hb Hc Hi Ha);clear Hi Ha Hb Hc;refine cZ 4 ?_;intro K k;go_simp;refine Hg.mono ?_;rintro e L ⟨⟨E,A,P8,Q8,rfl,Ho,l8⟩,b8⟩;have I:=Qab V b8;have Hn:=hid (s.set I l8 Hu.out (by have:=V.size;omega) (fun i hi=>(Hm.pth (j+1) He i hi).1));have O8:=s.o.below I s.o.lt;refine k.out _ _ (D _ I) (fun qh=> ?_);clear k K;try simp only [zP]
      refine tZ 5 47 ?_;have o0:=O8.c0;have of:=O8.f 0;have U:=((Hd.below I Hd.lt).setFar t (.slice (some ⟨E,0,none⟩) ((z j).length+1) A) Hw.out);have Hh:=hid (⟨U.c0,U.c1,U.c2,U.c3,U.c4⟩:(L.setCell ⟨t,0,none⟩ (.slice (some ⟨E,0,none⟩) ((z j).length+1) A)).cell? ⟨wr.heap.size,0,none⟩=some (.slice (some ⟨B,C,none⟩) m.length pc)/\ (L.setCell ⟨t,0,none⟩ (.slice (some ⟨E,0,none⟩) ((z j).length+1) A)).cell? ⟨wr.heap.size,1,none⟩=some (.bool G)/\ (L.setCell ⟨t,0,none⟩ (.slice (some ⟨E,0,none⟩) ((z j).length+1) A)).cell? ⟨wr.heap.size,2,none⟩=some (.int .i64 Y)/\ (L.setCell ⟨t,0,none⟩ (.slice (some ⟨E,0,none⟩) ((z j).length+1) A)).cell? ⟨wr.heap.size,3,none⟩=some (.int .i64 O)/\ (L.setCell ⟨t,0,none⟩ (.slice (some ⟨E,0,none⟩) ((z j).length+1) A)).cell? ⟨wr.heap.size,4,none⟩=some (.string H));clear O8 U;refine cZ 6 ?_;intro K k;go_simp;refine k.out _ _ Hh.out (fun qh=> ?_);clear k K;try simp only [zP]
      refine zD ?_;clear qh b7 V b8 I l8 Ho o0 of Hg Hl Hk D Hh;go_wp2_with fail;go_roundw;case rel=>exact⟨j+1,E,A,P8,Q8,He,by go_num,Hn⟩
      case measure=>simp [intOf];omega
    | true=>
     have Go:Hid (JS w M t (.slice (some ⟨ab,ao,none⟩) la.length ca) (.slice xa n d) (.slice b lb.length cb) (.slice x' n' d') g c (.slice ra ul.length rc) (z (j+1)) ul P Q):=hid (by
      rw [Hm.no j He (by rw [HY.out];exact fun h=>h.elim Hj (fun h=>h hh))];exact s.out)
     clear hh Hj;go_wp2_with fail;go_roundw;case rel=>exact⟨j+1,g,c,P,Q,He,by go_num,Go⟩
     case measure=>simp [intOf];omega
  ·obtain rfl:j=la.length:=by omega
   have H6:Hid (JS w wr t (.slice a la.length ca) (.slice xa n d) (.slice b lb.length cb) (.slice x' n' d') g c (.slice ra ul.length rc) (LB 0) ul P Q):=hid (by rw [Gj.out];exact HS.out);clear HS;go_wp2_with fail;clear a0;try go_frame
   go_loopw [8] (fun i wr=>∃(j g c:Nat) (P Q:Nat ->Nat),j<=lb.length/\ i=.int .i64 j/\ Hid (JS w wr t (.slice a la.length ca) (.slice xa n d) (.slice b lb.length cb) (.slice x' n' d') g c (.slice ra ul.length rc) (LB j) ul P Q)) (fun i _=>lb.length - (intOf i).toNat);case atStart=>exact⟨0,_,_,_,_,Nat.zero_le _,rfl,H6⟩
   case round=>
    clear H6;obtain⟨j,g,c,P,Q,hj,rfl,HS⟩:=hrel;have a0:=HS.b.c0;by_cases He:j<lb.length
    ·have i1:(0:Int)<=(j:Int):=Int.natCast_nonneg _;have i2:(j:Int)<(lb.length:Int):=by omega
     obtain⟨ab,ao,rfl,Gp,Ga⟩:=(H2.below HS.low).resolve_left (by omega);obtain⟨pa,pc,⟨Z,d0⟩,sg,N,c2,c3,c4⟩:=Ga j He;obtain⟨B,C,rfl,Hq,Hs⟩:=sg.resolve_left (by have:=(Gx j He).1;omega);have Ht:=Gx j He;obtain⟨y,hy⟩:∃y,gL lb j=y:=⟨_,rfl⟩;rw [hy] at Z N c2 c3 c4 d0 Hs Ht;have HY:=hid hy;obtain⟨m,G,Y,O,H⟩:=y;dsimp only at Z N c2 c3 c4 d0 Hs Ht;obtain⟨w5,H0⟩:∃w5,wr.alloc (.cells #[.slice (some ⟨B,C,none⟩) m.length pc,.bool G,.int .i64 Y,.int .i64 O,.string H] 69)=w5:=⟨_,rfl⟩;have b5:Below wr.heap.size wr w5:=by rw [<- H0];exact zO _ _
     have X5:Bx5 w5 wr.heap.size (.slice (some ⟨B,C,none⟩) m.length pc) (.bool G) (.int .i64 Y) (.int .i64 O) (.string H):=by rw [<- H0];exact Bx5.new _ _ _ _ _ _ _
     have Hv:=hid (HS.below b5);have H8:=hid X5;have Gl:=hid d0;have Hr:=hid Ht;have H7:Hid (QaR w5 (some ⟨B,C,none⟩) m):=hid (.inr ⟨B,C,rfl,Nat.lt_of_lt_of_le Hq b5.size,fun i hi=>(b5.cell (p:=⟨B,C+i,none⟩) Hq).trans (Hs i hi)⟩);have x0:=X5.c0;have x1:=X5.c1;have x2:=X5.c2;have x3:=X5.c3;have x4:=X5.c4;clear hy Ga sg Hs Hq Gp b5 X5 d0 Ht HS;have hh:=hid (fun u (b7:Below w5.heap.size w5 u)=>Qms xa n d R F T Y O u (by omega) ((H3.below Hv.low).below b7));have z1:=Hv.a.c1;go_wp2_with fail;refine(hh w5 zI).mono ?_;rintro e M ⟨rfl,b6⟩;have s:=hid (Hv.below b6);have Hd:=hid (H8.below b6 H8.lt);have Hy:=hid b6;clear z1 hh b6 x0 x1 x2 x3 x4 a0 Z N c2 c3 c4 H0;cases hh:Qco R F T Y O O n with
     | false=>
      have Hx:Hid (Qcs ⟨m,G,Y,O,H⟩ (LB j)=LB (j+1)):=hid (by rw [Hz.yes j He (by rw [HY.out];exact fun h=>by unfold Qcn at h;rw [hh] at h;cases h),HY.out]);clear hh;have D:Hid (∀w',Below M.heap.size M w' ->(w'.cell? ⟨wr.heap.size,0,none⟩=some (.slice (some ⟨B,C,none⟩) m.length pc)/\ w'.cell? ⟨wr.heap.size,1,none⟩=some (.bool G)/\ w'.cell? ⟨wr.heap.size,2,none⟩=some (.int .i64 Y)/\ w'.cell? ⟨wr.heap.size,3,none⟩=some (.int .i64 O)/\ w'.cell? ⟨wr.heap.size,4,none⟩=some (.string H))):=hid (fun w' b=>by
       have X:=Hd.below b Hd.lt;exact⟨X.c0,X.c1,X.c2,X.c3,X.c4⟩)
      have Hk:Hid (∀w',Below M.heap.size M w' ->Calls Tryz.prog 52 #[.agg #[.slice (some ⟨B,C,none⟩) m.length pc,.bool G,.int .i64 Y,.int .i64 O,.string H]] w' fun e w''=>∃q cap,e=.returned (.agg #[.slice (some ⟨q,0,none⟩) m.length cap,.bool G,.int .i64 Y,.int .i64 O,.string H])/\ Below w'.heap.size w' w''/\ w'.heap.size<=q/\ q<w''.heap.size/\ Wr w'' q 9 m.length (fun t=> .string (gS m t))/\ m.length<=cap/\ cap<=9223372036854775807):=hid (fun w' b=>by
       obtain⟨G6,G7,e,Hp,H9⟩:=((H7.below Hy.out).below b).resolve_left (by have:=Hr.1;omega);injection e with e;injection e with e1 e2;subst e1;subst e2;exact QcT B C m.length pc ⟨m,G,Y,O,H⟩ w' rfl (by have:=Hr.2;omega) Hp H9)
      have Hl:Hid (∀u q cap,Below M.heap.size M u ->M.heap.size<=q ->q<u.heap.size ->Wr u q 9 m.length (fun t=> .string (gS m t)) ->m.length<=cap/\ cap<=9223372036854775807 ->Calls Tryz.prog 55 #[.slice (some ⟨g,0,none⟩) (LB j).length c,.agg #[.slice (some ⟨q,0,none⟩) m.length cap,.bool G,.int .i64 Y,.int .i64 O,.string H]] u fun e w'=>(∃g' cap' P' Q',e=.returned (.slice (some ⟨g',0,none⟩) ((LB j).length+1) cap')/\ u.heap.size<=g'/\ LC w' w.heap.size (.slice (some ⟨g',0,none⟩) ((LB j).length+1) cap') (LB (j+1)) P' Q')/\ Below u.heap.size u w'):=hid (fun u q cap b7 hq1 hq2 hw hcap=>by
       have hJ:=s.below b7;have hs:=hJ.low.size;have G4:=s.low.size;rw [<- Hx.out];exact QfH g c (LB j) P Q u w.heap.size q cap m G Y O H hJ.lc hs (by have h1:=Hz.len j (by omega);have h2:=Gc.out;omega) (fun i hi=>by have:=(Hz.pth j (by omega) i hi).2;omega) (by have:=Hr.2;omega) ⟨by omega,hq2⟩ hw hcap)
      have Hu:Hid ((LB j).length+1=(LB (j+1)).length):=hid (by rw [<- Hx.out,Qby]);have Hw:Hid (wr.heap.size≠t):=hid (fun e=>by
       have h1:=Hd.c1;rw [e,s.o.c1] at h1;cases h1)
      have t0:=(s.o.below zI.drew s.o.lt).c0;go_wp2_with fail;refine zR (S:=fun w'=>w'.cell? ⟨wr.heap.size,0,none⟩=some (.slice (some ⟨B,C,none⟩) m.length pc)/\ w'.cell? ⟨wr.heap.size,1,none⟩=some (.bool G)/\ w'.cell? ⟨wr.heap.size,2,none⟩=some (.int .i64 Y)/\ w'.cell? ⟨wr.heap.size,3,none⟩=some (.int .i64 O)/\ w'.cell? ⟨wr.heap.size,4,none⟩=some (.string H)) (D _ zI.drew) (fun qh=> ?_);refine tZ 0 66 ?_;refine tZ 2 68 ?_;refine QaO (i:=1) (j:=3) (d:=some 67) (d':=some 69) (by kernel_rfl) (by kernel_rfl) (by kernel_rfl) ?_ ?_
      ·
       intro o ho Gb K k;simp only [gZa,gZb,gZc,gZd] at ho;subst ho;go_simp;refine k.out _ _ (D _ zI.drew) (fun qh=> ?_);clear k K;try simp only [zP]
       clear t0;refine cZ 3 ?_;intro K k;go_simp;refine(Hk _ zI.drew).mono ?_;rintro e u ⟨q7,Hf,rfl,b7,Hb,Hc,Hi,Ha⟩;have V:Below M.heap.size M u:=⟨b7.os,b7.tape,b7.output,b7.size,b7.block⟩;refine k.out _ _ (D _ V) (fun qh=> ?_);clear k K;try simp only [zP]
       have Hg:=hid (Hl u q7 Hf V Hb Hc Hi Ha);clear Hi Ha Hb Hc;refine cZ 4 ?_;intro K k;go_simp;refine Hg.mono ?_;rintro e L ⟨⟨E,A,P8,Q8,rfl,Ho,l8⟩,b8⟩;have I:=Qab V b8;have Hn:=hid (s.set I l8 Hu.out (by have:=V.size;omega) (fun i hi=>(Hz.pth (j+1) He i hi).1));have O8:=s.o.below I s.o.lt;refine k.out _ _ (D _ I) (fun qh=> ?_);clear k K;try simp only [zP]
       refine tZ 5 71 ?_;have o0:=O8.c0;have of:=O8.f 0;have U:=((Hd.below I Hd.lt).setFar t (.slice (some ⟨E,0,none⟩) ((LB j).length+1) A) Hw.out);have Hh:=hid (⟨U.c0,U.c1,U.c2,U.c3,U.c4⟩:(L.setCell ⟨t,0,none⟩ (.slice (some ⟨E,0,none⟩) ((LB j).length+1) A)).cell? ⟨wr.heap.size,0,none⟩=some (.slice (some ⟨B,C,none⟩) m.length pc)/\ (L.setCell ⟨t,0,none⟩ (.slice (some ⟨E,0,none⟩) ((LB j).length+1) A)).cell? ⟨wr.heap.size,1,none⟩=some (.bool G)/\ (L.setCell ⟨t,0,none⟩ (.slice (some ⟨E,0,none⟩) ((LB j).length+1) A)).cell? ⟨wr.heap.size,2,none⟩=some (.int .i64 Y)/\ (L.setCell ⟨t,0,none⟩ (.slice (some ⟨E,0,none⟩) ((LB j).length+1) A)).cell? ⟨wr.heap.size,3,none⟩=some (.int .i64 O)/\ (L.setCell ⟨t,0,none⟩ (.slice (some ⟨E,0,none⟩) ((LB j).length+1) A)).cell? ⟨wr.heap.size,4,none⟩=some (.string H));clear O8 U;refine cZ 6 ?_;intro K k;go_simp;refine k.out _ _ Hh.out (fun qh=> ?_);clear k K;try simp only [zP]
       refine zD ?_;clear qh b7 V b8 I l8 Ho o0 of Hg Hl Hk D Hh;go_wp2_with fail;go_roundw;case rel=>exact⟨j+1,E,A,P8,Q8,He,by go_num,Hn⟩
       case measure=>simp [intOf];omega
      ·
       clear t0;intro o ho Gb K k;simp only [gZa,gZb,gZc,gZd] at ho;subst ho;go_simp;refine(Hk _ zI.drew).mono ?_;rintro e u ⟨q7,Hf,rfl,b7,Hb,Hc,Hi,Ha⟩;have V:Below M.heap.size M u:=⟨b7.os,b7.tape,b7.output,b7.size,b7.block⟩;refine k.out _ _ (D _ V) (fun qh=> ?_);clear k K;try simp only [zP]
       have t0:=(s.o.below V s.o.lt).c0;refine cZ 1 ?_;intro K k;go_simp;refine k.out _ _ (D _ V) (fun qh=> ?_);clear k K;try simp only [zP]
       clear t0;have Hg:=hid (Hl u q7 Hf V Hb Hc Hi Ha);clear Hi Ha Hb Hc;refine cZ 4 ?_;intro K k;go_simp;refine Hg.mono ?_;rintro e L ⟨⟨E,A,P8,Q8,rfl,Ho,l8⟩,b8⟩;have I:=Qab V b8;have Hn:=hid (s.set I l8 Hu.out (by have:=V.size;omega) (fun i hi=>(Hz.pth (j+1) He i hi).1));have O8:=s.o.below I s.o.lt;refine k.out _ _ (D _ I) (fun qh=> ?_);clear k K;try simp only [zP]
       refine tZ 5 71 ?_;have o0:=O8.c0;have of:=O8.f 0;have U:=((Hd.below I Hd.lt).setFar t (.slice (some ⟨E,0,none⟩) ((LB j).length+1) A) Hw.out);have Hh:=hid (⟨U.c0,U.c1,U.c2,U.c3,U.c4⟩:(L.setCell ⟨t,0,none⟩ (.slice (some ⟨E,0,none⟩) ((LB j).length+1) A)).cell? ⟨wr.heap.size,0,none⟩=some (.slice (some ⟨B,C,none⟩) m.length pc)/\ (L.setCell ⟨t,0,none⟩ (.slice (some ⟨E,0,none⟩) ((LB j).length+1) A)).cell? ⟨wr.heap.size,1,none⟩=some (.bool G)/\ (L.setCell ⟨t,0,none⟩ (.slice (some ⟨E,0,none⟩) ((LB j).length+1) A)).cell? ⟨wr.heap.size,2,none⟩=some (.int .i64 Y)/\ (L.setCell ⟨t,0,none⟩ (.slice (some ⟨E,0,none⟩) ((LB j).length+1) A)).cell? ⟨wr.heap.size,3,none⟩=some (.int .i64 O)/\ (L.setCell ⟨t,0,none⟩ (.slice (some ⟨E,0,none⟩) ((LB j).length+1) A)).cell? ⟨wr.heap.size,4,none⟩=some (.string H));clear O8 U;refine cZ 6 ?_;intro K k;go_simp;refine k.out _ _ Hh.out (fun qh=> ?_);clear k K;try simp only [zP]
       refine zD ?_;clear qh b7 V b8 I l8 Ho o0 of Hg Hl Hk D Hh;go_wp2_with fail;go_roundw;case rel=>exact⟨j+1,E,A,P8,Q8,He,by go_num,Hn⟩
       case measure=>simp [intOf];omega
     | true=>
      have Go:Hid (JS w M t (.slice a la.length ca) (.slice xa n d) (.slice (some ⟨ab,ao,none⟩) lb.length cb) (.slice x' n' d') g c (.slice ra ul.length rc) (LB (j+1)) ul P Q):=hid (by
       rw [Hz.no j He (by rw [HY.out];exact fun h=>h hh)];exact s.out)
      clear hh;go_wp2_with fail;go_roundw;case rel=>exact⟨j+1,g,c,P,Q,He,by go_num,Go⟩
      case measure=>simp [intOf];omega
    ·obtain rfl:j=lb.length:=by omega
     rw [Gu.out] at HS;have o0:=HS.o.c0;have o1:=HS.o.c1;have r0:=HS.r.c0;have r1:=HS.r.c1;have f0:=HS.r.f 0;have f1:=HS.r.f 1;have HC:=hid (HS.r.set (.slice (some ⟨g,0,none⟩) J.length c) (.slice ra ul.length rc));go_wp2_with fail;have s0:=HC.c0;have s1:=HC.c1;have hP:∀i,i<J.length ->P i≠w.heap.size+1+1:=fun i hi e=>by
      have hp:=Hz.pth lb.length zL;rw [Gu.out] at hp;have hw:=(HS.lc.pt i hi).2.2.2.1.cell (i:=0) (by have:=(hp i hi).1;omega);rw [e,HS.r.c0] at hw;cases hw
     have G3:(Value.slice (some ⟨g,0,none⟩) J.length c).ownBlock≠some (w.heap.size+1+1):=fun e=>by have h1:=Qbk e;have h2:=HS.hg;omega
     have G5:(Value.slice ra ul.length rc).ownBlock≠some (w.heap.size+1+1):=fun e=>by have:=HS.hv2 _ e;omega
     refine zF (v:=.agg #[.slice (some ⟨g,0,none⟩) J.length c,.slice ra ul.length rc]) (by simp [results,Tryz.results22,go_sem,s0,s1]) ⟨⟨g,c,ra,rc,P,Q,by rw [Gz.out],?_,?_⟩,?_⟩
     ·exact(HS.lc.set _ _ G3 hP).set _ _ G3 hP
     ·rw [Gz.out];exact(HS.fr.setFar _ _ G5).setFar _ _ G5
     ·exact(HS.low.setCell (by simp;omega) _).setCell (by simp;omega) _
def jnU (S S':Sx):List Rn:=unL S.R S.F S.T S.n S'.R S'.F S'.T S'.n
noncomputable def jnS (S S':Sx):Sx:=⟨jn S.R S.F S.T S.n S.l S'.R S'.F S'.T S'.n S'.l,(jnU S S').length,fun i=>(gR (jnU S S') i).1,fun i=>(gR (jnU S S') i).2.1,fun i=>(gR (jnU S S') i).2.2⟩
noncomputable def stB (S:Sx):Bool:=yes (Qbe S.R S.F S.T S.n S.l)
noncomputable def jnF (S S':Sx):Bool:=decide ((jnS S S').l.length<=1000) && decide ((jnS S S').n<=1000)
noncomputable def jnB (S S':Sx):Bool:=stB S && stB S' && jnF S S'
def Sx.mt:Sx:=⟨[],0,fun _=>0,fun _=>0,fun _=>0⟩
noncomputable def jnZ (S S':Sx):Sx:=if jnB S S' then jnS S S' else Sx.mt
theorem Qid {S:Sx}(h:stB S=true):Qbe S.R S.F S.T S.n S.l:=Classical.byContradiction fun hn=>by unfold stB at h;rw [Qaj hn] at h;cases h
theorem Qmr {S S':Sx}(h:jnB S S'=true):jnZ S S'=jnS S S':=by unfold jnZ;rw [if_pos h]
theorem Qmq {S S':Sx}(h:jnB S S'=false):jnZ S S'=Sx.mt:=by unfold jnZ;rw [if_neg (by rw [h];simp)]
structure SNc (w:World)(lo:Nat)(a:Option Addr)(c:Nat)(x:Option Addr)(S:Sx):Prop where
 nc:∀w':World,w.heap.size<=w'.heap.size ->(∀q,lo<=q ->q<w.heap.size ->w'.heap[q]? =w.heap[q]?) ->Qef w' a S.l/\ Qb3 w' x S.n S.R S.F S.T
 cp:S.l.length<=c/\ c<=9223372036854775807
theorem SNc.at {w:World}{lo c:Nat}{a x:Option Addr}{S:Sx}(h:SNc w lo a c x S):Qef w a S.l/\ Qb3 w x S.n S.R S.F S.T:=h.nc w zL (fun _ _ _=>rfl)
theorem SNc.move {w w1:World}{lo lo' c:Nat}{a x:Option Addr}{S:Sx}(h:SNc w lo a c x S)(hl:lo'<=lo)(hs:w.heap.size<=w1.heap.size)(hq:∀q,lo<=q ->q<w.heap.size ->w1.heap[q]? =w.heap[q]?):SNc w1 lo' a c x S:=
 ⟨fun w' h1 h2=>h.nc w' (Nat.le_trans hs h1) (fun q h3 h4=>(h2 q (Nat.le_trans hl h3) (Nat.lt_of_lt_of_le h4 hs)).trans (hq q h3 h4)),h.cp⟩
theorem SNc.below {w w1:World}{lo c:Nat}{a x:Option Addr}{S:Sx}(h:SNc w lo a c x S)(hb:Below w.heap.size w w1):SNc w1 lo a c x S:=h.move zL hb.size (fun q _ h2=>hb.block q h2)
theorem SNc.mt (w:World)(lo:Nat)(a x:Option Addr):SNc w lo a 0 x Sx.mt:=⟨fun w' _ _=>⟨.inl rfl,.inl rfl⟩,Nat.le_refl _,by omega⟩
theorem LC.cp {w:World}{lo g n c:Nat}{l:List Lf}{P Q:Nat ->Nat}(h:LC w lo (.slice (some ⟨g,0,none⟩) n c) l P Q)(hn:l.length=n):l.length<=c/\ c<=9223372036854775807:=by
 rcases h.row.2 with ⟨e,r⟩|⟨u,m,q,j,y,v,z,k,t,o⟩
 ·injection e with e1 e2 e3;cases e1
 ·injection j with e1 e2 e3;subst e3;unfold maxLen at k;omega
theorem LC.lcap {w:World}{lo g n c:Nat}{l:List Lf}{P Q:Nat ->Nat}(h:LC w lo (.slice (some ⟨g,0,none⟩) n c) l P Q)(hn:n=l.length):Qef w (some ⟨g,0,none⟩) l:=by
 refine .inr ⟨g,0,rfl,(h.lt g rfl).2,fun i hi=> ?_⟩;obtain⟨j,k,m,q,r⟩:=h.cell hn hi;refine⟨some ⟨P i,0,none⟩,Q i,⟨?_,(h.pt i hi).2.2.2.2⟩,h.seg hi,?_,?_,?_,?_⟩
 ·rw [Nat.zero_add];exact j
 ·rw [Nat.zero_add];exact k
 ·rw [Nat.zero_add];exact m
 ·rw [Nat.zero_add];exact q
 ·rw [Nat.zero_add];exact r
theorem Qnw {w:World}{lo g c:Nat}{ra:Option Addr}{rc:Nat}{S S':Sx}{P Q:Nat ->Nat}(h:LC w lo (.slice (some ⟨g,0,none⟩) (jnS S S').l.length c) (jnS S S').l P Q)(hf:FR w lo (.slice ra (jnU S S').length rc) (jnU S S')):SNc w lo (some ⟨g,0,none⟩) c ra (jnS S S'):=⟨fun w' h1 h2=>by
 have k:=h.move h1 h2;have j:FR w' lo (.slice ra (jnU S S').length rc) (jnU S S'):=Qaq hf (fun q hq=>h2 q (World.ownsRow.lt hf q hq).1 (World.ownsRow.lt hf q hq).2);obtain⟨a,m,e,s,_,_⟩:=j.fs;injection e with e1 e2 e3;subst e1;exact⟨k.lcap rfl,s.rseg⟩,h.cp rfl⟩
theorem QdP {S:Sx}(h:Qbe S.R S.F S.T S.n S.l):∀i,i<S.l.length ->1<=(gL S.l i).p.length/\ (gL S.l i).p.length<=8:=fun i hi=>by
 have:=(h.2.2.1 i hi).1;exact⟨this.1.1,this.1.2.1⟩
theorem Qlp {S S':Sx}(hs:StW S.R S.F S.T S.n S.l)(hs':StW S'.R S'.F S'.T S'.n S'.l):(jnS S S').l.length<=2000/\ (jnU S S').length<=4000:=by
 have k:=hs.2.1;have m:=hs'.2.1;have q:=hs.1;have r:=hs'.1;constructor
 ·have e:(jnS S S').l=Qeh (fun x=>¬Qcn S.R S.F S.T S.n x) S'.l (Qeh (fun x=>x∈S'.l \/¬Qcn S'.R S'.F S'.T S'.n x) S.l [] S.l.length) S'.l.length:=rfl;rw [e];have u:=Qdu (P:=fun x=>¬Qcn S.R S.F S.T S.n x) (ls:=S'.l) (out:=Qeh (fun x=>x∈S'.l \/¬Qcn S'.R S'.F S'.T S'.n x) S.l [] S.l.length) S'.l.length;have j:=Qdu (P:=fun x=>x∈S'.l \/¬Qcn S'.R S'.F S'.T S'.n x) (ls:=S.l) (out:=[]) S.l.length;simp at j;omega
 ·have:=QcZ (flat S'.R S'.F S'.T S'.n) (flat S.R S.F S.T S.n);rw [QaU,QaU] at this;show (unF (flat S.R S.F S.T S.n) (flat S'.R S'.F S'.T S'.n)).length<=4000;omega
theorem Qg3 (a x:Option Addr)(m n c d:Nat)(w:World)(hm:m<=1048576)(hn:n<=1048576):Calls Tryz.prog 79 #[.agg #[.slice a m c,.slice x n d]] w fun e w'=>e=.returned (.bool (decide (m<=1000) && decide (n<=1000)))/\ Below w.heap.size w w':=by
 obtain⟨W,q⟩:∃W,w.alloc (.cells #[.slice a m c,.slice x n d] 28)=W:=⟨_,rfl⟩;have v:Below w.heap.size w W:=by rw [<- q];exact zO _ _
 have u:Bx2 W w.heap.size (.slice a m c) (.slice x n d):=by rw [<- q];exact Bx2.made _ _ _ _
 have r:=hid v;have i:=u.c0;have p:=u.c1;have j:Hid (∀b:Bool,(b=true↔m<=1000/\ n<=1000) ->(decide (m<=1000) && decide (n<=1000))=b):=hid (fun b hb=>by
  cases b with
  | true=>have:=hb.1 rfl;simp [this.1,this.2]
  | false=>
   cases h:(decide (m<=1000) && decide (n<=1000)) with
   | false=>rfl
   | true=>exact absurd (hb.2 (by simpa using h)) (by simp))
 obtain⟨B,g⟩:∃B,(decide (m<=1000) && decide (n<=1000))=B:=⟨_,rfl⟩;rw [g] at j ⊢;clear v u g;by_cases y:m<=1000
 ·have t:(m:Int)<=1000:=by omega
  by_cases z:n<=1000
  ·have o:(n:Int)<=1000:=by omega
   have k:=hid (j true ⟨fun _=>⟨y,z⟩,fun _=>rfl⟩);clear j;go_enter Tryz.func79,Tryz.ntmps79;go_wp2_with fail;try rw [q]
   go_ret;exact⟨Qa3 k.symm,r.out⟩
  ·have o:¬(n:Int)<=1000:=by omega
   have k:=hid (j false ⟨fun h=>by simp at h,fun h=>absurd h.2 z⟩);clear j;go_enter Tryz.func79,Tryz.ntmps79;go_wp2_with fail;try rw [q]
   go_ret;exact⟨Qa3 k.symm,r.out⟩
 ·have t:¬(m:Int)<=1000:=by omega
  have k:=hid (j false ⟨fun h=>by simp at h,fun h=>absurd h.1 y⟩);clear j;go_enter Tryz.func79,Tryz.ntmps79;go_wp2_with fail;try rw [q]
  go_ret;exact⟨Qa3 k.symm,r.out⟩
theorem Qj4 (sa sx ta tx:Option Addr)(c d c' d':Nat)(S S':Sx)(w:World)(hm:S.Sm)(hm':S'.Sm)(h:SCt w sa sx S)(h':SCt w ta tx S'):
  Calls Tryz.prog 47 #[.agg #[.slice sa S.l.length c,.slice sx S.n d],.agg #[.slice ta S'.l.length c',.slice tx S'.n d']] w fun e w'=>∃a m x t,e=.returned (.tuple #[.agg #[.slice a (jnZ S S').l.length m,.slice x (jnZ S S').n t],.bool (jnB S S')])/\ SNc w' w.heap.size a m x (jnZ S S')/\ Below w.heap.size w w'/\ (jnZ S S').l.length<=m/\ m<=9223372036854775807:=by
 obtain⟨W,E⟩:∃W,((w.alloc (.cells #[.slice sa S.l.length c,.slice sx S.n d] 28)).alloc (.cells #[.slice ta S'.l.length c',.slice tx S'.n d'] 28)).alloc (.cells #[.slice none 0 0,.slice none 0 0] 28)=W:=⟨_,rfl⟩;have D:Below w.heap.size w W:=by rw [<- E];exact(Qak _ _ _).alloc (by simp;omega) _
 have K:Bx2 W w.heap.size (.slice sa S.l.length c) (.slice sx S.n d):=by rw [<- E];exact((Bx2.made w _ _ _).allocs _).allocs _
 have B0:Bx2 W (w.heap.size+1) (.slice ta S'.l.length c') (.slice tx S'.n d'):=by
  rw [<- E];have:=Bx2.made (w.alloc (.cells #[.slice sa S.l.length c,.slice sx S.n d] 28)) (.slice ta S'.l.length c') (.slice tx S'.n d') 28;exact(by simpa using this:Bx2 _ (w.heap.size+1) _ _).allocs _
 have R0:Bx2 W (w.heap.size+1+1) (.slice none 0 0) (.slice none 0 0):=by
  rw [<- E];simpa using Bx2.made ((w.alloc (.cells #[.slice sa S.l.length c,.slice sx S.n d] 28)).alloc (.cells #[.slice ta S'.l.length c',.slice tx S'.n d'] 28)) (.slice none 0 0) (.slice none 0 0) 28
 have zW:W.heap.size=w.heap.size+3:=by rw [<- E];simp
 have HS:=hid (h.below D);have Hm:=hid (h'.below D);have X:=hid (Qbt sa c S.l sx S.n d S.R S.F S.T W hm.l1 hm.p1 hm.n1 HS.lf HS.rn);have Hc:=hid (fun w1 (k:Below W.heap.size W w1)=>Qbt ta c' S'.l tx S'.n d' S'.R S'.F S'.T w1 hm'.l1 hm'.p1 hm'.n1 (Hm.below k).lf (Hm.below k).rn);have L:=hid K;have i:=hid B0;have Hy:=hid R0;have Ht:=hid D;have H7:=hid zW;have k0:=K.c0;have k1:=K.c1;change Hid (Calls _ _ _ _ fun e w'=>e=.returned (.bool (stB S))/\ _) at X;obtain⟨B,A⟩:∃B,stB S=B:=⟨_,rfl⟩;obtain⟨B',Hp⟩:∃B,stB S'=B:=⟨_,rfl⟩;have Ho:=hid A;have Hb:=hid Hp;have Hd:Hid (∀w1,Below W.heap.size W w1 ->Calls Tryz.prog 11 #[.agg #[.slice ta S'.l.length c',.slice tx S'.n d']] w1 fun e w'=>e=.returned (.bool B')/\ Below w1.heap.size w1 w'):=hid (fun w1 k=>by rw [<- Hp];exact Hc w1 k);rw [A] at X;clear D K B0 R0 zW h h' A Hp Hc;go_enter Tryz.func47,Tryz.ntmps47;go_wp2_with fail;try rw [E]
 clear E;refine X.mono ?_;rintro e w1 ⟨rfl,k⟩;have Hf:=hid (Ht.trans (k.mono Ht.size));have H0:=hid k;have b:=hid (Hy.below k Hy.lt);clear k0 k1 X;cases B with
 | false=>
  have j:Hid (jnB S S'=false/\ jnZ S S'=Sx.mt):=hid (by
   have e:jnB S S'=false:=by unfold jnB;rw [Ho.out];rfl
   exact⟨e,Qmq e⟩)
  clear k;have r0:=b.c0;have r1:=b.c1;have f0:=b.f 0;have f1:=b.f 1;have r:=hid (b.set (.slice none 0 0) (.slice none 0 0));go_wp2_with fail;have U:=r.c0;have V:=r.c1;refine zF (v:=.tuple #[.agg #[.slice none 0 0,.slice none 0 0],.bool false]) (by simp [results,Tryz.results47,go_sem,U,V]) ⟨none,0,none,0,by rw [j.1,j.2];rfl,?_,?_⟩
  ·rw [j.2];exact SNc.mt _ _ _ _
  ·exact⟨(Hf.setCell (by simp;omega) _).setCell (by simp;omega) _,by rw [j.2];exact⟨Nat.le_refl _,by omega⟩⟩
 | true=>
  have l0:=(i.below k i.lt).c0;have J:=(i.below k i.lt).c1;clear k;go_wp2_with fail;refine(Hd w1 H0.out).mono ?_;rintro e w2 ⟨rfl,b2⟩;have Hg:=hid (Hf.trans (b2.mono Hf.size));have s:=hid (Qab H0.out b2);have p:=hid (b.below b2 b.lt);clear b2 l0 J Hd;cases B' with
  | false=>
   have j:Hid (jnB S S'=false/\ jnZ S S'=Sx.mt):=hid (by
    have e:jnB S S'=false:=by unfold jnB;rw [Hb.out];simp
    exact⟨e,Qmq e⟩)
   have r0:=p.c0;have r1:=p.c1;have f0:=p.f 0;have f1:=p.f 1;have r:=hid (p.set (.slice none 0 0) (.slice none 0 0));go_wp2_with fail;have U:=r.c0;have V:=r.c1;refine zF (v:=.tuple #[.agg #[.slice none 0 0,.slice none 0 0],.bool false]) (by simp [results,Tryz.results47,go_sem,U,V]) ⟨none,0,none,0,by rw [j.1,j.2];rfl,?_,?_⟩
   ·rw [j.2];exact SNc.mt _ _ _ _
   ·exact⟨(Hg.setCell (by simp;omega) _).setCell (by simp;omega) _,by rw [j.2];exact⟨Nat.le_refl _,by omega⟩⟩
  | true=>
   have H:=Qid Ho.out;have I:=Qid Hb.out;have hc:=Qam.1 H.1;have Hs:=Qam.1 I.1;have Hn:=HS.below s.out;have Ha:=Hm.below s.out;have Hj:=hid (Qja sa ta c c' S.l S'.l sx S.n d S.R S.F S.T tx S'.n d' S'.R S'.F S'.T w2 hc.2 Hs.2 hc.1 Hs.1 H.2.1 I.2.1 (QdP H) (QdP I) Hn.lf Ha.lf Hn.rn Ha.rn);have Hl:Hid ((jnS S S').l.length<=2000/\ (jnU S S').length<=4000):=hid (Qlp H.w I.w);have l0:=(L.below s.out L.lt).c0;have J:=(L.below s.out L.lt).c1;have l2:=(i.below s.out i.lt).c0;have l3:=(i.below s.out i.lt).c1;have Hi:Hid (jn S.R S.F S.T S.n S.l S'.R S'.F S'.T S'.n S'.l=(jnS S S').l/\ unL S.R S.F S.T S.n S'.R S'.F S'.T S'.n=jnU S S'):=hid ⟨rfl,rfl⟩;rw [Hi.1,Hi.2] at Hj;obtain⟨y,Hq⟩:∃y,(jnS S S').l.length=y:=⟨_,rfl⟩;obtain⟨z,Hr⟩:∃z,(jnU S S').length=z:=⟨_,rfl⟩;rw [Hq,Hr] at Hj Hl;have N:=hid Hq;have Hk:=hid Hr;clear H I hc Hs Hn Ha Hq Hr Hi;go_wp2_with fail;refine Hj.mono ?_;rintro e w3 ⟨⟨M,o,O,Y,P,Q,rfl,jl,jf⟩,b3⟩;obtain⟨Z,He⟩:∃Z,w3.alloc (.cells #[.slice (some ⟨M,0,none⟩) y o,.slice O z Y] 28)=Z:=⟨_,rfl⟩;have b4:Below w3.heap.size w3 Z:=by rw [<- He];exact zO _ _
   have C:Bx2 Z w3.heap.size (.slice (some ⟨M,0,none⟩) y o) (.slice O z Y):=by rw [<- He];exact Bx2.made _ _ _ _
   have H5:Hid (SNc Z w2.heap.size (some ⟨M,0,none⟩) o O (jnS S S')):=hid (SNc.below (Qnw (by rw [N.out];exact jl) (by rw [Hk.out];exact jf)) b4);have Hu:=hid (Hg.trans ((Qab b3 b4).mono Hg.size));have Hz:=hid (p.below (Qab b3 b4) p.lt);have Hh:=hid (Qg3 (some ⟨M,0,none⟩) O y z o Y Z (by have:=Hl.out;omega) (by have:=Hl.out;omega));have H1:=hid C;have H3:Hid (w.heap.size+3<=w2.heap.size):=hid (by have h1:=H7.out;have h2:=s.size;omega);have x0:=C.c0;have x1:=C.c1;have Hw:Hid ((decide (y<=1000) && decide (z<=1000))=jnF S S'):=hid (by rw [<- N.out,<- Hk.out];rfl);rw [Hw.out] at Hh;obtain⟨B,A⟩:∃B,jnF S S'=B:=⟨_,rfl⟩;have Hx:=hid A;rw [A] at Hh;have H4:Hid (y<=o/\ o<=9223372036854775807):=hid (by
    rcases jl.row.2 with ⟨e,_⟩|⟨g,cap,Ga,e,_,_,H9,H8,_⟩
    ·cases e
    ·injection e with e1 e2 e3;rw [e3,e2];exact⟨H9,by unfold maxLen at H8;omega⟩)
   clear jl jf b3 b4 C l0 J l2 l3 A Hw;go_wp2_with fail;try rw [He]
   clear He;refine Hh.mono ?_;rintro e w5 ⟨rfl,G⟩;have Hv:=hid (Hu.trans (G.mono Hu.size));have u:=hid (Hz.below G Hz.lt);have H2:=hid (H1.below G H1.lt);have H6:=hid (H5.below G);clear x0 x1 G;cases B with
   | false=>
    have j:Hid (jnB S S'=false/\ jnZ S S'=Sx.mt):=hid (by
     have e:jnB S S'=false:=by unfold jnB;rw [Hx.out];simp
     exact⟨e,Qmq e⟩)
    have r0:=u.c0;have r1:=u.c1;have f0:=u.f 0;have f1:=u.f 1;have r:=hid (u.set (.slice none 0 0) (.slice none 0 0));go_wp2_with fail;have U:=r.c0;have V:=r.c1;refine zF (v:=.tuple #[.agg #[.slice none 0 0,.slice none 0 0],.bool false]) (by simp [results,Tryz.results47,go_sem,U,V]) ⟨none,0,none,0,by rw [j.1,j.2];rfl,?_,?_⟩
    ·rw [j.2];exact SNc.mt _ _ _ _
    ·exact⟨(Hv.setCell (by simp;omega) _).setCell (by simp;omega) _,by rw [j.2];exact⟨Nat.le_refl _,by omega⟩⟩
   | true=>
    have j:Hid (jnB S S'=true/\ jnZ S S'=jnS S S'):=hid (by
     have e:jnB S S'=true:=by unfold jnB;rw [Hx.out,Ho.out,Hb.out];rfl
     exact⟨e,Qmr e⟩)
    have r0:=u.c0;have r1:=u.c1;have f0:=u.f 0;have f1:=u.f 1;have x0:=H2.c0;have x1:=H2.c1;have r:=hid (u.set (.slice (some ⟨M,0,none⟩) y o) (.slice O z Y));go_wp2_with fail;have U:=r.c0;have V:=r.c1;refine zF (v:=.tuple #[.agg #[.slice (some ⟨M,0,none⟩) y o,.slice O z Y],.bool true]) (by simp [results,Tryz.results47,go_sem,U,V]) ⟨some ⟨M,0,none⟩,o,O,Y,by rw [j.1,j.2,N.out,show (jnS S S').n=z from Hk.out],?_,?_⟩
    ·rw [j.2];exact H6.move (by have:=H3.out;omega) (by simp [World.setCell]) (fun q h1 h2=>by
      have:=H3.out;rw [zH _ _ _ _ (by simp;omega),zH _ _ _ _ (by simp;omega)])
    ·exact⟨(Hv.setCell (by simp;omega) _).setCell (by simp;omega) _,by rw [j.2,N.out];exact H4.out⟩
theorem QfS (sa sx ta tx:Option Addr)(c d c' d':Nat)(S S':Sx)(w:World)(hm:S.Sm)(hm':S'.Sm)(h:SCt w sa sx S)(h':SCt w ta tx S'):
  Calls Tryz.prog 47 #[.agg #[.slice sa S.l.length c,.slice sx S.n d],.agg #[.slice ta S'.l.length c',.slice tx S'.n d']] w fun e w'=>∃a m x t,e=.returned (.tuple #[.agg #[.slice a (jnZ S S').l.length m,.slice x (jnZ S S').n t],.bool (jnB S S')])/\ SNc w' w.heap.size a m x (jnZ S S')/\ Below w.heap.size w w':=
 (Qj4 sa sx ta tx c d c' d' S S' w hm hm' h h').mono fun e w' ⟨a,m,x,t,h1,h2,h3,_⟩=>⟨a,m,x,t,h1,h2,h3⟩
open Go.Maps
theorem QeX (R F T:Nat ->Int)(r f t:Int):∀n,Qco R F T r f t n=true ->∃k,k<n/\ R k=r/\ F k<=f/\ t<=T k
 | 0,h=>by simp [Qco] at h
 | n+1,h=>by
  simp only [Qco,Bool.or_eq_true,decide_eq_true_eq] at h;rcases h with h|h
  ·obtain⟨k,j,r⟩:=QeX R F T r f t n h;exact⟨k,by omega,r⟩
  ·exact⟨n,by omega,h⟩
theorem QnY {R F T:Nat ->Int}{n:Nat}{l:List Lf}(h:StW R F T n l):∀x∈l,(0<=x.r/\ x.r<8)/\ (0<=x.q/\ x.q<=1000000000)/\ x.v.size<=200/\ x.p.length<=8:=fun x hx=>by
 obtain⟨i,y,e⟩:=Qa1.1 hx;have b:=h.1.1;obtain⟨k,o,z,g,t⟩:=QeX R F T _ _ _ n (h.2.2.1 i y).2.1;have:=(b k o).1;simp only [QaJ,Bool.and_eq_true,decide_eq_true_eq] at this;have j:=(h.2.2.1 i y).1;have m:=j.1.2.1;have u:=j.2.1;rw [e] at z g t m u;exact⟨by omega,by omega,u,m⟩
theorem Qnx {S S':Sx}(h:StW S.R S.F S.T S.n S.l)(h':StW S'.R S'.F S'.T S'.n S'.l):∀x∈(jnS S S').l,(0<=x.r/\ x.r<8)/\ (0<=x.q/\ x.q<=1000000000)/\ x.v.size<=200/\ x.p.length<=8:=fun x hx=>by
 rcases QeY x hx with j|j
 ·exact QnY h x j
 ·exact QnY h' x j.1
theorem Qhf {l:List Lf}{i:Nat}(h:¬i<l.length):(gL l i).p=[]:=by simp [gL,List.getD,h]
def EqS (A B:Sx):Prop:=A.l=B.l/\ A.n=B.n/\∀i,i<A.n ->A.R i=B.R i/\ A.F i=B.F i/\ A.T i=B.T i
theorem Qgp (l:List Rn):flat (fun i=>(gR l i).1) (fun i=>(gR l i).2.1) (fun i=>(gR l i).2.2) l.length=l:=by
 refine List.ext_getElem (by simp [flat]) (fun i h1 h2=> ?_);simp [flat,gR,List.getD,h2]
theorem QiH {l:List Rn}(h:QbT l):Qeg (fun i=>(gR l i).1) (fun i=>(gR l i).2.1) (fun i=>(gR l i).2.2) l.length:=by
 intro i k;have e:∀j,(hj:j<l.length) ->gR l j=l[j]:=fun j hj=>by simp [gR,List.getD,hj]
 refine⟨?_,fun h0=> ?_⟩
 ·have:=h.2 _ (List.getElem_mem k);rw [<- e i k] at this;exact QbC this
 ·have:=List.pairwise_iff_getElem.1 h.1 (i - 1) i (by omega) k (by omega);rw [<- e i k,<- e (i - 1) (by omega)] at this;unfold QaC;exact decide_eq_true this
theorem Qgq (R F T:Nat ->Int)(r x:Int)(n:Nat):Qco R F T r x x n=true↔RI (flat R F T n) r x:=by
 rw [QeQ,<- Qgu];unfold inB In;simp
theorem Qgr {R F T:Nat ->Int}{n:Nat}{x:Lf}:Qcn R F T n x↔RI (flat R F T n) x.r x.q:=Qgq R F T x.r x.q n
def mkS (l:List Lf)(u:List Rn):Sx:=⟨l,u.length,fun i=>(gR u i).1,fun i=>(gR u i).2.1,fun i=>(gR u i).2.2⟩
theorem Qln (S S':Sx):jnS S S'=mkS (jn S.R S.F S.T S.n S.l S'.R S'.F S'.T S'.n S'.l) (jnU S S'):=rfl
theorem Qjf {l:List Lf}{u:List Rn}{x:Lf}:Qcn (mkS l u).R (mkS l u).F (mkS l u).T (mkS l u).n x↔RI u x.r x.q:=by
 rw [Qgr];unfold mkS;simp only;rw [Qgp]
def dtR (x:Lf):Rn:=(x.r,x.q,x.q)
theorem QiA {l:List Lf}{r x:Int}:RI (l.map dtR) r x↔∃y∈l,y.r=r/\ y.q=x:=by
 unfold RI InR dtR;constructor
 ·rintro⟨p,v,j,m,u⟩;obtain⟨y,k,rfl⟩:=List.mem_map.1 v;exact⟨y,k,j,by simp only at m u;omega⟩
 ·rintro⟨y,k,j,m⟩;exact⟨_,List.mem_map.2 ⟨y,k,rfl⟩,j,by simp only;omega,by simp only;omega⟩
noncomputable def goL (g:Lf ->Prop)(l:List Lf):List Lf:=l.filter fun x=>yes (g x)
noncomputable def stL (g:Lf ->Prop)(l:List Lf):List Lf:=l.filter fun x=> !yes (g x)
noncomputable def dlU (g:Lf ->Prop)(l P:List Lf):List Rn:=unF [] ((goL g l).map dtR++P.map dtR)
noncomputable def dlS (g:Lf ->Prop)(l P:List Lf):Sx:=mkS P (dlU g l P)
def nxU (S:Sx)(P:List Lf):List Rn:=unF (flat S.R S.F S.T S.n) (P.map dtR)
noncomputable def nxL (g:Lf ->Prop)(l P:List Lf):List Lf:=P.foldl (fun o y=>Qcs y o) (stL g l)
noncomputable def nxS (g:Lf ->Prop)(S:Sx)(P:List Lf):Sx:=mkS (nxL g S.l P) (nxU S P)
theorem QcQ {g:Lf ->Prop}{l:List Lf}{x:Lf}:x∈goL g l↔x∈l/\ g x:=by
 unfold goL;rw [List.mem_filter];exact and_congr_right fun _=>⟨fun h=>Classical.byContradiction fun hn=>(by rw [Qaj hn] at h;cases h),fun h=>Qal h⟩
theorem QgK {g:Lf ->Prop}{l:List Lf}{x:Lf}:x∈stL g l↔x∈l/\¬g x:=by
 unfold stL;rw [List.mem_filter];exact and_congr_right fun _=>⟨fun h hn=>(by rw [Qal hn] at h;cases h),fun h=>(by rw [Qaj h];rfl)⟩
structure PtO (S:Sx)(P:List Lf):Prop where
 one:P.length<=1
 ok:∀y∈P,QbV y
 dot:∀y∈P,Rok (dtR y)
 new:∀y∈P,¬Qcn S.R S.F S.T S.n y
theorem PtO.nil (S:Sx):PtO S []:=⟨by simp,fun y h=>(by cases h),fun y h=>(by cases h),fun y h=>(by cases h)⟩
theorem Qez {S:Sx}(h:Qbe S.R S.F S.T S.n S.l):∀z∈S.l,Qcn S.R S.F S.T S.n z:=fun z hz=>by
 obtain⟨j,k,e⟩:=Qa1.1 hz;have:=(h.2.2.1 j k).2.1;rw [e] at this;exact this
theorem Qgs {R F T:Nat ->Int}{n:Nat}(h:Qeg R F T n){x:Lf}(hx:Qcn R F T n x):Rok (dtR x):=by
 obtain⟨k,j,m,q,r⟩:=QeX R F T _ _ _ n hx;have:=(h k j).1;simp only [QaJ,Bool.and_eq_true,decide_eq_true_eq] at this;unfold Rok dtR;simp only;omega
theorem Qcw {S:Sx}(h:Qbe S.R S.F S.T S.n S.l):Qeg S.R S.F S.T S.n:=(Qam.1 h.1).1
section
variable {g : Lf -> Prop} {S : Sx} {P : List Lf}
theorem Qlf (h:Qbe S.R S.F S.T S.n S.l)(hp:PtO S P):∀p∈(goL g S.l).map dtR++P.map dtR,Rok p:=fun p j=>by
 rcases List.mem_append.1 j with j|j
 ·obtain⟨x,k,rfl⟩:=List.mem_map.1 j;exact Qgs (Qcw h) (Qez h x (QcQ.1 k).1)
 ·obtain⟨x,k,rfl⟩:=List.mem_map.1 j;exact hp.dot x k
theorem Qlh:QbT []:=⟨List.Pairwise.nil,fun p h=>by cases h⟩
theorem Qf7 (h:Qbe S.R S.F S.T S.n S.l)(hp:PtO S P):QbT (dlU g S.l P)/\∀r x,RI (dlU g S.l P) r x↔(∃y,(y∈S.l/\ g y)/\ y.r=r/\ y.q=x) \/∃y∈P,y.r=r/\ y.q=x:=by
 obtain⟨k,m⟩:=Qdj ((goL g S.l).map dtR++P.map dtR) [] Qlh (Qlf h hp);refine⟨k,fun r x=>(m r x).trans ?_⟩;rw [Qbp,QiA,QiA];constructor
 ·rintro(e|⟨y,j,e⟩|e)
  ·exact absurd e Qir
  ·exact .inl ⟨y,QcQ.1 j,e⟩
  ·exact .inr e
 ·rintro(⟨y,j,e⟩|e)
  ·exact .inr (.inl ⟨y,QcQ.2 j,e⟩)
  ·exact .inr (.inr e)
theorem Qme (h:Qbe S.R S.F S.T S.n S.l)(hp:PtO S P):(dlU g S.l P).length<=1001:=by
 have j:=QcZ ((goL g S.l).map dtR++P.map dtR) [];have k:(goL g S.l).length<=S.l.length:=List.length_filter_le _ _;have m:=h.2.1;have q:=hp.one;simp at j;show (unF [] ((goL g S.l).map dtR++P.map dtR)).length<=1001;omega
theorem QnE (hp:PtO S P){R F T:Nat ->Int}{n:Nat}(hh:∀y∈P,Qcn R F T n y):QbQ R F T n P P.length/\ Dis P P.length:=by
 have m:=hp.one;refine⟨fun i hi=> ?_,fun i hi j hj=>by omega⟩;have k:gL P i∈P:=Qa1.2 ⟨i,hi,rfl⟩;exact⟨hp.ok _ k,hh _ k,fun h0=>by omega⟩
theorem QoX (h:Qbe S.R S.F S.T S.n S.l)(hp:PtO S P):StW (dlS g S.l P).R (dlS g S.l P).F (dlS g S.l P).T (dlS g S.l P).n (dlS g S.l P).l:=by
 have k:=(Qf7 (g:=g) h hp).1;have m:=Qme (g:=g) h hp;have j:=QnE hp (R:=(dlS g S.l P).R) (F:=(dlS g S.l P).F) (T:=(dlS g S.l P).T) (n:=(dlS g S.l P).n) (fun y hy=>Qjf.2 (((Qf7 h hp).2 _ _).2 (.inr ⟨y,hy,rfl,rfl⟩)));exact⟨⟨QiH k,by show (dlU g S.l P).length<=2000;omega⟩,by show P.length<=1000;have:=hp.one;omega,j.1,j.2⟩
theorem Qe6 (h:Qbe S.R S.F S.T S.n S.l):(stL g S.l).Pairwise (fun a b=>QaG a b<0):=by
 refine List.Pairwise.filter _ (List.pairwise_iff_getElem.2 fun i j hi hj hij=> ?_);have:=h.2.2.1.lt j hij hj;have k:gL S.l i=S.l[i]:=by simp [gL,List.getD,hi]
 have m:gL S.l j=S.l[j]:=by simp [gL,List.getD,hj]
 rw [k,m] at this;exact this
theorem Qfd {l:List Lf}{z:Lf}:∀{P:List Lf} {o:List Lf},z∈P.foldl (fun o y=>Qcs y o) o↔z∈o \/z∈P
 | [],o=>by simp
 | y::P,o=>by
  rw [List.foldl_cons,Qfd (l:=l) (P:=P),Qdr,List.mem_cons];constructor
  ·rintro((e|e)|e)
   ·exact .inr (.inl e)
   ·exact .inl e
   ·exact .inr (.inr e)
  ·rintro(e|e|e)
   ·exact .inl (.inr e)
   ·exact .inl (.inl e)
   ·exact .inr e
theorem QhU (h:Qbe S.R S.F S.T S.n S.l)(hp:PtO S P):(nxL g S.l P).Pairwise (fun a b=>QaG a b<0):=by
 unfold nxL;match P,hp with
 | [],_=>exact Qe6 h
 | [y],hp=>
  refine Qct (Qe6 h) (fun z hz e=> ?_);exact hp.new y (List.mem_singleton.2 rfl) ((Qhh e).1 (Qez h z (QgK.1 hz).1))
 | _::_::_,hp=>exact absurd hp.one (by simp)
theorem Qow (h:Qbe S.R S.F S.T S.n S.l)(hp:PtO S P):(jnS S (dlS g S.l P)).l=nxL g S.l P:=by
 refine Qho (QdH h.w (QoX h hp)) (QhU h hp) (fun z=> ?_);show z∈jnL S.l P _ _↔_;rw [QiQ];unfold nxL;rw [Qfd (l:=S.l),QgK];have v:Qcn (dlS g S.l P).R (dlS g S.l P).F (dlS g S.l P).T (dlS g S.l P).n z↔_:=Qjf.trans ((Qf7 (g:=g) h hp).2 z.r z.q);rw [v];constructor
 ·rintro(⟨j,k⟩|⟨j,_⟩)
  ·rcases k with k|k
   ·exact .inr k
   ·exact .inl ⟨j,fun m=>k (.inl ⟨z,⟨j,m⟩,rfl,rfl⟩)⟩
  ·exact .inr j
 ·rintro(⟨j,k⟩|j)
  ·refine .inl ⟨j,.inr ?_⟩;rintro(⟨y,⟨u,m⟩,e⟩|⟨y,u,e⟩)
   ·exact k ((Qgk h.2.2.2 u j e) ▸ m)
   ·refine hp.new y u ?_;have:=Qez h z j;unfold Qcn at this ⊢;rw [e.1,e.2];exact this
  ·exact .inr ⟨j,hp.new z j⟩
theorem QnB (h:Qbe S.R S.F S.T S.n S.l)(hp:PtO S P):QbT (nxU S P)/\∀r x,RI (nxU S P) r x↔RI (flat S.R S.F S.T S.n) r x \/∃y∈P,y.r=r/\ y.q=x:=by
 obtain⟨j,k⟩:=Qdj (P.map dtR) (flat S.R S.F S.T S.n) (Qbv S.n (Qcw h)) (fun p hq=>by
  obtain⟨x,m,rfl⟩:=List.mem_map.1 hq;exact hp.dot x m)
 refine⟨j,fun r x=>(k r x).trans ?_⟩;rw [QiA]
theorem Qoy (h:Qbe S.R S.F S.T S.n S.l)(hp:PtO S P):jnU S (dlS g S.l P)=nxU S P:=by
 have j:=Qf7 (g:=g) h hp;have k:jnU S (dlS g S.l P)=unF (flat S.R S.F S.T S.n) (dlU g S.l P):=by
  unfold jnU unL dlS mkS;simp only;rw [Qgp]
 rw [k];obtain⟨u,v⟩:=Qdj (dlU g S.l P) (flat S.R S.F S.T S.n) (Qbv S.n (Qcw h)) j.1.2;obtain⟨z,t⟩:=QnB h hp;refine uniq u z (fun r x=> ?_);rw [v,t,j.2];constructor
 ·rintro(e|⟨y,⟨o,_⟩,m,q⟩|e)
  ·exact .inl e
  ·have:=Qgr.1 (Qez h y o);rw [m,q] at this;exact .inl this
  ·exact .inr e
 ·rintro(e|e)
  ·exact .inl e
  ·exact .inr (.inr e)
theorem Qox (h:Qbe S.R S.F S.T S.n S.l)(hp:PtO S P):jnS S (dlS g S.l P)=nxS g S P:=by
 rw [Qln,Qoy h hp];have:=Qow (g:=g) h hp;unfold nxS;rw [<- this];rfl
end
abbrev Vd (S:Sx):Prop:=Qbe S.R S.F S.T S.n S.l
def fS (S:Sx):List Rn:=flat S.R S.F S.T S.n
def Hs (S:Sx)(x:Lf):Prop:=RI (fS S) x.r x.q
theorem QiE (l:List Lf)(u:List Rn):fS (mkS l u)=u:=Qgp u
theorem Qca (S:Sx):(fS S).length=S.n:=QaU _ _ _ _
theorem Qfy (S:Sx):Qcn S.R S.F S.T S.n=Hs S:=funext fun x=>propext Qgr
theorem QcB (S S':Sx):jnS S S'=mkS (jnL S.l S'.l (Hs S) (Hs S')) (unF (fS S) (fS S')):=by
 rw [Qln,<- Qfy,<- Qfy];rfl
theorem QiD {A B:Sx}:EqS A B↔A.l=B.l/\ fS A=fS B:=by
 constructor
 ·rintro⟨u,j,y⟩;refine⟨u,List.ext_getElem (by rw [Qca,Qca,j]) (fun i h4 h5=> ?_)⟩;have k:i<A.n:=by rw [<- Qca];exact h4
  obtain⟨m,q,r⟩:=y i k;simp [fS,flat,m,q,r]
 ·rintro⟨u,j⟩;have v:A.n=B.n:=by rw [<- Qca,<- Qca,j]
  refine⟨u,v,fun i k=> ?_⟩;have e:gR (fS A) i=gR (fS B) i:=by rw [j]
  unfold fS at e;rw [Qgo _ _ _ _ _ k,Qgo _ _ _ _ _ (v ▸ k)] at e;injection e with m e;injection e with q r;exact⟨m,q,r⟩
theorem QhH {S:Sx}(h:Vd S):QbT (fS S):=Qbv S.n (Qcw h)
section
variable {S S' S2 : Sx}
theorem Qnz (h:Vd S)(h':Vd S'):QbT (fS (jnS S S'))/\∀y x,RI (fS (jnS S S')) y x↔(RI (fS S) y x \/RI (fS S') y x):=by
 rw [QcB,QiE];exact Qdj _ _ (QhH h) (QhH h').2
theorem Qo5 (h:Vd S)(h':Vd S'){z:Lf}:Hs (jnS S S') z↔Hs S z \/Hs S' z:=(Qnz h h').2 _ _
theorem Qmp:jnF S S'=true↔(jnS S S').l.length<=1000/\ (jnS S S').n<=1000:=by unfold jnF;rw [Bool.and_eq_true,decide_eq_true_eq,decide_eq_true_eq]
theorem Qn0 (h:Vd S)(h':Vd S')(hf:jnF S S'=true):Vd (jnS S S'):=by
 obtain⟨k,m⟩:=Qmp.1 hf;have j:=(Qnz h h').1;rw [QcB,QiE] at j;refine⟨Qam.2 ⟨?_,m⟩,k,?_,Qny h.w h'.w⟩
 ·rw [QcB];exact QiH j
 ·refine Qo7 h.w h'.w (fun z hz=> ?_);rw [Qfy,Qfy] at hz;rw [Qfy];exact(Qo5 h h').2 hz
theorem QoB:Vd Sx.mt:=⟨Qam.2 ⟨fun i hi=>absurd hi (Nat.not_lt_zero _),Nat.zero_le _⟩,Nat.zero_le _,fun i hi=>absurd hi (Nat.not_lt_zero _),fun i hi=>absurd hi (Nat.not_lt_zero _)⟩
theorem Qmo:jnB S S'=true↔Vd S/\ Vd S'/\ jnF S S'=true:=by
 unfold jnB;rw [Bool.and_eq_true,Bool.and_eq_true];exact⟨fun h=>⟨Qid h.1.1,Qid h.1.2,h.2⟩,fun h=>⟨⟨Qal h.1,Qal h.2.1⟩,h.2.2⟩⟩
end
open Go.Sort
def QbU (w:World)(B:Nat)(v:Value)(l:List Rn):Prop:=QaL w B 3 v l.length (Qah l)
theorem QiF:∀(l:List Rn) (i:Nat),i<l.length ->(Qah l)[i*3]? =some (.int .i64 (gR l i).1)/\ (Qah l)[i*3+1]? =some (.int .i64 (gR l i).2.1)/\ (Qah l)[i*3+2]? =some (.int .i64 (gR l i).2.2)
 | [],i,hi=>by simp at hi
 | a::l,0,hi=>by simp [Qah,gR]
 | a::l,i+1,hi=>by
  have:=QiF l i (by simpa using hi);have e:Qah (a::l)=.int .i64 a.1::.int .i64 a.2.1::.int .i64 a.2.2::Qah l:=by simp [Qah]
  rw [e,show (i+1)*3=i*3+1+1+1 from by omega];simpa [gR] using this
theorem QbU.fs {w:World}{B:Nat}{v:Value}{l:List Rn}(h:QbU w B v l):∃g off c,v=.slice (some ⟨g,off,none⟩) l.length c/\ FS w (some ⟨g,off,none⟩) l/\ l.length<=c/\ c<=9223372036854775807/\ B<=g/\ g<w.heap.size:=by
 obtain⟨g,off,c,e,m,k,r,q,b,j,t,o⟩:=h;refine⟨g,off,c,e,.inr ⟨g,off,rfl,k,fun i hi=> ?_⟩,r,by unfold maxLen at q;omega,m,k⟩;obtain⟨u,y,z⟩:=QiF l i hi;rw [j _ (by omega),Nat.add_assoc,j _ (by omega),Nat.add_assoc,j _ (by omega)];exact⟨u,y,z⟩
def BRn (l:List Rn):Prop:=∀p∈l,0<=p.1/\ p.1<=7/\ 0<=p.2.1/\ p.2.1<=1000000000/\ 0<=p.2.2/\ p.2.2<=1000000000
theorem QbT.br {l:List Rn}(h:QbT l):BRn l:=fun p hp=>by
 have:=h.2 p hp;unfold Rok at this;omega
theorem Qiz (w:World)(a b c:Value)(t:TypeId):∀j u,[a,b,c][j]? =some u ->(w.alloc (.cells #[a,b,c] t)).cell? ((⟨w.heap.size,0,none⟩:Addr).add j)=some u:=by
 intro j u k;match j,k with
 | 0,k=>simp at k;subst k;simp [Addr.add]
 | 1,k=>simp at k;subst k;simp [Addr.add]
 | 2,k=>simp at k;subst k;simp [Addr.add]
theorem QaL.put1 {w:World}{B size g off n c:Nat}{xs:List Value}(h:QaL w B size (.slice (some ⟨g,off,none⟩) n c) n xs)(j:Nat)(hj:j<n*size)(a:Value):QaL (w.setCell ⟨g,off+j,none⟩ a) B size (.slice (some ⟨g,off,none⟩) n c) n (xs.set j a):=by
 obtain⟨A,M,s,e,z,i,q,o,b,v,m,y⟩:=h;injection e with e1 _ e3;injection e1 with e1;injection e1 with e1 e2 _;subst e1 e2 e3;have E:n*size<=c*size:=Nat.mul_le_mul_right _ q;have p:∃u,w.cell? ⟨g,off+j,none⟩=some u:=Option.isSome_iff_exists.1 (m j (by omega));obtain⟨u,r⟩:=p;refine⟨g,off,c,rfl,z,by simp [World.setCell];exact i,q,o,by simp [b],fun t ht=> ?_,fun t ht=> ?_,fun t ht=> ?_⟩
 ·by_cases k:t=j
  ·subst k;rw [World.cell?_setCell_same _ _ _ r,List.getElem?_set_self (by omega)]
  ·rw [World.cell?_setCell_other _ _ _ _ (by intro e;injection e with _ e;omega),List.getElem?_set_ne (fun e=>k e.symm)];exact v t ht
 ·by_cases k:t=j
  ·subst k;rw [World.cell?_setCell_same _ _ _ r];rfl
  ·rw [World.cell?_setCell_other _ _ _ _ (by intro e;injection e with _ e;omega)];exact m t ht
 ·rw [World.frozen?_setCell];exact y t ht
theorem Qes:∀(l:List Rn) (i:Nat) (a b c:Int),Qah (l.set i (a,b,c))=(((Qah l).set (i*3) (.int .i64 a)).set (i*3+1) (.int .i64 b)).set (i*3+2) (.int .i64 c)
 | [],i,a,b,c=>by simp [Qah]
 | p::l,0,a,b,c=>by simp [Qah]
 | p::l,i+1,a,b,c=>by
  have e:∀q:Rn,∀m:List Rn,Qah (q::m)=.int .i64 q.1::.int .i64 q.2.1::.int .i64 q.2.2::Qah m:=fun q m=>by simp [Qah]
  rw [List.set_cons_succ,e,e,Qes l i a b c,show (i+1)*3=i*3+1+1+1 from by omega];simp [List.set_cons_succ]
theorem QbU.put {w:World}{B g off c:Nat}{l:List Rn}(h:QbU w B (.slice (some ⟨g,off,none⟩) l.length c) l)(i:Nat)(hi:i<l.length)(a b d:Int):
  QbU (((w.setCell ⟨g,off+i*3,none⟩ (.int .i64 a)).setCell ⟨g,off+i*3+1,none⟩ (.int .i64 b)).setCell ⟨g,off+i*3+2,none⟩ (.int .i64 d)) B (.slice (some ⟨g,off,none⟩) l.length c) (l.set i (a,b,d)):=by
 have j:=QaL.put1 h (i*3) (by omega) (.int .i64 a);have k:=QaL.put1 j (i*3+1) (by omega) (.int .i64 b);have m:=QaL.put1 k (i*3+2) (by omega) (.int .i64 d);unfold QbU;rw [List.length_set,Qes];exact m
structure FrB (w w':World)(C rb:Nat):Prop where
 os:w'.os=w.os
 tape:w'.tape=w.tape
 output:w'.output=w.output
 size:w.heap.size<=w'.heap.size
 block:∀k,k<C ->k≠rb ->w'.heap[k]? =w.heap[k]?
def BSn (l:List Rn):Prop:=∀p∈l, -100<=p.1/\ p.1<=100/\ -100<=p.2.1/\ p.2.1<=2000000000/\ -100<=p.2.2/\ p.2.2<=2000000000
theorem BRn.bs {l:List Rn}(h:BRn l):BSn l:=fun p hp=>by have:=h p hp;omega
theorem BSn.set {l:List Rn}(h:BSn l)(i:Nat)(a b c:Int)(h0: -100<=a/\ a<=100/\ -100<=b/\ b<=2000000000/\ -100<=c/\ c<=2000000000):BSn (l.set i (a,b,c)):=fun p j=>by
 rcases List.mem_or_eq_of_mem_set j with j|j
 ·exact h p j
 ·subst j;exact h0
theorem BSn.snoc {l:List Rn}(h:BSn l)(a b c:Int)(h0: -100<=a/\ a<=100/\ -100<=b/\ b<=2000000000/\ -100<=c/\ c<=2000000000):BSn (l++[(a,b,c)]):=fun p j=>by
 rcases List.mem_append.1 j with j|j
 ·exact h p j
 ·simp at j;subst j;exact h0
theorem QbU.lit1 (w:World)(B:Nat)(hB:B<=w.heap.size)(a b c:Int):QbU (w.alloc (.cells #[.int .i64 a,.int .i64 b,.int .i64 c] 113)) B (.slice (some ⟨w.heap.size,0,none⟩) 1 1) [(a,b,c)]:=by
 refine⟨w.heap.size,0,1,rfl,hB,by simp,Nat.le_refl _,by unfold maxLen;omega,rfl,fun j hj=> ?_,fun j hj=> ?_,fun j hj=> ?_⟩
 ·have k:j<3:=by simpa using hj
  rw [Nat.zero_add];match j,k with
  | 0,_=>simp [Qah]
  | 1,_=>simp [Qah]
  | 2,_=>simp [Qah]
 ·have k:j<3:=by simpa using hj
  rw [Nat.zero_add];match j,k with
  | 0,_=>simp
  | 1,_=>simp
  | 2,_=>simp
 ·simp
theorem QbU.at {w:World}{B g off c n:Nat}{l:List Rn}(h:QbU w B (.slice (some ⟨g,off,none⟩) n c) l)(i:Nat)(hi:i<l.length):
  (w.cell? ⟨g,off+i*3,none⟩=some (.int .i64 (gR l i).1)/\ w.cell? ⟨g,off+i*3+1,none⟩=some (.int .i64 (gR l i).2.1)/\ w.cell? ⟨g,off+i*3+2,none⟩=some (.int .i64 (gR l i).2.2))/\ w.frozen? ⟨g,off+i*3,none⟩=false/\ w.frozen? ⟨g,off+i*3+1,none⟩=false/\ w.frozen? ⟨g,off+i*3+2,none⟩=false:=by
 obtain⟨y,A,v,e,t,p,m,o,s,j,z,k⟩:=h;injection e with e1 _ e3;injection e1 with e1;injection e1 with e1 e2 _;subst e1 e2 e3;obtain⟨q,r,u⟩:=QiF l i hi;have b:l.length*3<=c*3:=Nat.mul_le_mul_right _ m;refine⟨⟨(j _ (by omega)).trans q,?_,?_⟩,k _ (by omega),?_,?_⟩
 ·rw [Nat.add_assoc];exact(j _ (by omega)).trans r
 ·rw [Nat.add_assoc];exact(j _ (by omega)).trans u
 ·rw [Nat.add_assoc];exact k _ (by omega)
 ·rw [Nat.add_assoc];exact k _ (by omega)
theorem Qcg {w1:World}{C g off c ii b4:Nat}{l:List Rn}(h:QbU w1 C (.slice (some ⟨g,off,none⟩) l.length c) l)(hi:ii<l.length)(m1:w1.cell? ⟨b4,0,none⟩=some (.slice none 0 0))(hg:g≠b4)(hC:C<=b4)(hz:b4<w1.heap.size)(a b d:Int)(o:Obj):
  QbU (((((w1.setCell ⟨g,off+ii*3,none⟩ (.int .i64 a)).setCell ⟨g,off+ii*3+1,none⟩ (.int .i64 b)).setCell ⟨g,off+ii*3+2,none⟩ (.int .i64 d)).setCell ⟨b4,0,none⟩ (.slice (some ⟨g,off,none⟩) l.length c)).alloc o) C (.slice (some ⟨g,off,none⟩) l.length c) (l.set ii (a,b,d))/\
  Below C w1 (((((w1.setCell ⟨g,off+ii*3,none⟩ (.int .i64 a)).setCell ⟨g,off+ii*3+1,none⟩ (.int .i64 b)).setCell ⟨g,off+ii*3+2,none⟩ (.int .i64 d)).setCell ⟨b4,0,none⟩ (.slice (some ⟨g,off,none⟩) l.length c)).alloc o)/\
  (((((w1.setCell ⟨g,off+ii*3,none⟩ (.int .i64 a)).setCell ⟨g,off+ii*3+1,none⟩ (.int .i64 b)).setCell ⟨g,off+ii*3+2,none⟩ (.int .i64 d)).setCell ⟨b4,0,none⟩ (.slice (some ⟨g,off,none⟩) l.length c)).alloc o).cell? ⟨b4,0,none⟩=some (.slice (some ⟨g,off,none⟩) l.length c):=by
 obtain⟨s,t,m,_⟩:=QaL.lt h;have i:g=s:=by simpa [Value.ownBlock] using t
 subst i;have y:=h.put ii hi a b d;obtain⟨W,j⟩:∃W,((w1.setCell ⟨g,off+ii*3,none⟩ (.int .i64 a)).setCell ⟨g,off+ii*3+1,none⟩ (.int .i64 b)).setCell ⟨g,off+ii*3+2,none⟩ (.int .i64 d)=W:=⟨_,rfl⟩;have z:Below C w1 W:=by rw [<- j];exact((zI.setCell (p:=⟨g,off+ii*3,none⟩) m _).setCell (p:=⟨g,off+ii*3+1,none⟩) m _).setCell (p:=⟨g,off+ii*3+2,none⟩) m _
 have M:W.heap.size=w1.heap.size:=by rw [<- j];simp [World.setCell]
 have E:W.cell? ⟨b4,0,none⟩=some (.slice none 0 0):=by
  rw [<- j];have q:∀(X:World) (o:Nat) (u:Value),(X.setCell ⟨g,o,none⟩ u).cell? ⟨b4,0,none⟩=X.cell? ⟨b4,0,none⟩:=fun X o u=>World.cell?_setCell_other _ _ _ _ (fun e=>hg (by injection e));rw [q,q,q];exact m1
 rw [j] at y ⊢;have A:W.grownBy (W.setCell ⟨b4,0,none⟩ (.slice (some ⟨g,off,none⟩) l.length c)) (some b4):=⟨rfl,rfl,rfl,by simp [World.setCell],fun k hk hne=>zH _ _ _ _ (fun e=>hne (by rw [e]))⟩;have r:(W.setCell ⟨b4,0,none⟩ (.slice (some ⟨g,off,none⟩) l.length c)).heap.size=w1.heap.size:=by rw [<- M];simp [World.setCell]
 have v:=(Below.refl w1.heap.size (W.setCell ⟨b4,0,none⟩ (.slice (some ⟨g,off,none⟩) l.length c))).alloc (by rw [r];exact Nat.le_refl _) o;refine⟨QaL.below (QaL.gr y A (fun e=>by simp [Value.ownBlock] at e;exact hg e)) v (by rw [r];exact Nat.le_refl _),(z.setCell (p:=⟨b4,0,none⟩) hC _).alloc (by rw [r];omega) o,?_⟩;exact(v.cell (p:=⟨b4,0,none⟩) hz).trans (World.cell?_setCell_same _ _ _ E)
theorem QcW {w1:World}{C g off c ii b4:Nat}{l:List Rn}(h:QbU w1 C (.slice (some ⟨g,off,none⟩) l.length c) l)(hi:ii<l.length)(m1:w1.cell? ⟨b4,0,none⟩=some (.slice none 0 0))(hg:g≠b4)(hC:C<=b4)(a b d:Int):
  QbU ((((w1.setCell ⟨g,off+ii*3,none⟩ (.int .i64 a)).setCell ⟨g,off+ii*3+1,none⟩ (.int .i64 b)).setCell ⟨g,off+ii*3+2,none⟩ (.int .i64 d)).setCell ⟨b4,0,none⟩ (.slice (some ⟨g,off,none⟩) l.length c)) C (.slice (some ⟨g,off,none⟩) l.length c) (l.set ii (a,b,d))/\
  Below C w1 ((((w1.setCell ⟨g,off+ii*3,none⟩ (.int .i64 a)).setCell ⟨g,off+ii*3+1,none⟩ (.int .i64 b)).setCell ⟨g,off+ii*3+2,none⟩ (.int .i64 d)).setCell ⟨b4,0,none⟩ (.slice (some ⟨g,off,none⟩) l.length c))/\
  ((((w1.setCell ⟨g,off+ii*3,none⟩ (.int .i64 a)).setCell ⟨g,off+ii*3+1,none⟩ (.int .i64 b)).setCell ⟨g,off+ii*3+2,none⟩ (.int .i64 d)).setCell ⟨b4,0,none⟩ (.slice (some ⟨g,off,none⟩) l.length c)).cell? ⟨b4,0,none⟩=some (.slice (some ⟨g,off,none⟩) l.length c):=by
 obtain⟨t,y,j,_⟩:=QaL.lt h;have z:g=t:=by simpa [Value.ownBlock] using y
 subst z;have r:=h.put ii hi a b d;obtain⟨W,m⟩:∃W,((w1.setCell ⟨g,off+ii*3,none⟩ (.int .i64 a)).setCell ⟨g,off+ii*3+1,none⟩ (.int .i64 b)).setCell ⟨g,off+ii*3+2,none⟩ (.int .i64 d)=W:=⟨_,rfl⟩;have v:Below C w1 W:=by rw [<- m];exact((zI.setCell (p:=⟨g,off+ii*3,none⟩) j _).setCell (p:=⟨g,off+ii*3+1,none⟩) j _).setCell (p:=⟨g,off+ii*3+2,none⟩) j _
 have s:W.cell? ⟨b4,0,none⟩=some (.slice none 0 0):=by
  rw [<- m];have q:∀(X:World) (o:Nat) (u:Value),(X.setCell ⟨g,o,none⟩ u).cell? ⟨b4,0,none⟩=X.cell? ⟨b4,0,none⟩:=fun X o u=>World.cell?_setCell_other _ _ _ _ (fun e=>hg (by injection e));rw [q,q,q];exact m1
 rw [m] at r ⊢;have i:W.grownBy (W.setCell ⟨b4,0,none⟩ (.slice (some ⟨g,off,none⟩) l.length c)) (some b4):=⟨rfl,rfl,rfl,by simp [World.setCell],fun k hk hne=>zH _ _ _ _ (fun e=>hne (by rw [e]))⟩;exact⟨QaL.gr r i (fun e=>by simp [Value.ownBlock] at e;exact hg e),v.setCell (p:=⟨b4,0,none⟩) hC _,World.cell?_setCell_same _ _ _ s⟩
theorem QfW {P:Program}{w:World}{ops:Array Oper}{o:Oper}{a:Act}{K:Act ->World ->Prop}{Q:Exit ->Act ->World ->Prop}{E:Prop}(hgd:o.guard=none)(s x:Operand)(t:TypeId)
  (ho:o.op=.call {callee:=.builtin .append,args:=#[s,x],argTypes:=#[t,t]})
  (base:Nat) (e:TypeId) (i:TypeInfo) (z:Value) (size bytes:Nat) (ht:P.underlying t=some (.slice e)) (hi:P.info? e=some i) (hz:i.zero=some z)
  (hsize:i.size=size) (hby:i.bytes=bytes) (hzs:z.cells.size=size)
  (v:Value) (n:Nat) (xs:List Value) (hs:a.eval s=v) (hown:QaL w base size v n xs)
  (ad:Addr) (m c:Nat) (news:List Value) (hx:a.eval x=.slice (some ad) m c) (hl:news.length=m*size) (hnews:∀j u,news[j]? =some u ->w.cell? (ad.add j)=some u) (h1:∀u∈news,u.oneCell'=true)
  (h63:n+m<=maxLen) (hbytes:(n+m)*bytes<=140737488355328) (hbase:base<=w.heap.size)
  (h:∀k y q w',QaL w' base size (.slice (some ⟨k,y,none⟩) (n+m) q) (n+m) (xs++news) ->w.grownBy w' v.ownBlock ->(some k=v.ownBlock \/some k=some w.heap.size) ->K (a.put o.dst (.slice (some ⟨k,y,none⟩) (n+m) q)) w'):
  if Region.wanted o (yielded ops a.tmps)=true then Oper.wp P o a w K Q else E:=by
 have g:Region.wanted o (yielded ops a.tmps)=true:=by simp [Region.wanted,hgd]
 rw [if_pos g];refine QeB s x t ho base e i z size bytes ht hi hz hsize hby hzs v n xs hs hown ad m c news hx hl hnews h1 h63 hbytes hbase (fun v' w' h2 h3 h4=> ?_);obtain⟨k,y,q,rfl,r⟩:=h2;exact h k y q w' ⟨k,y,q,rfl,r⟩ h3 (h4.imp id id)
theorem Qea {W2 w7:World}{C b3 b4 b7 g g7 o7 c7 ii:Nat}{L:List Rn}{u3 p0 p1 p2:Value}(hg:W2.grownBy w7 (some g))(ho:QbU w7 C (.slice (some ⟨g7,o7,none⟩) L.length c7) L)(hl:g7=g \/W2.heap.size<=g7)(h3:b3<W2.heap.size)(h4:b4<W2.heap.size)(h7:b7<W2.heap.size)(n3:g≠b3)(n4:g≠b4)(n7:g≠b7)(n34:b3≠b4)(n37:b3≠b7)(hC3:C<=b3)(hCg:C<=g)(hCW:C<=W2.heap.size)
  (c3:W2.cell? ⟨b3,0,none⟩=some u3) (f3:W2.frozen? ⟨b3,0,none⟩=false) (c4:W2.cell? ⟨b4,0,none⟩=some (.slice none 0 0)) (f4:W2.frozen? ⟨b4,0,none⟩=false) (q0:W2.cell? ⟨b7,0,none⟩=some p0) (q1:W2.cell? ⟨b7,1,none⟩=some p1) (q2:W2.cell? ⟨b7,2,none⟩=some p2):
  (w7.cell? ⟨b3,0,none⟩=some u3/\ w7.frozen? ⟨b3,0,none⟩=false/\ g7≠b4/\ g7≠b3)/\∀j,w7.setCell ⟨b3,0,none⟩ (.slice (some ⟨g7,o7,none⟩) L.length c7)=j ->
   j.cell? ⟨b3,0,none⟩=some (.slice (some ⟨g7,o7,none⟩) L.length c7)/\ j.cell? ⟨b4,0,none⟩=some (.slice none 0 0)/\ j.frozen? ⟨b4,0,none⟩=false/\ j.cell? ⟨b7,0,none⟩=some p0/\ j.cell? ⟨b7,1,none⟩=some p1/\ j.cell? ⟨b7,2,none⟩=some p2/\ QbU j C (.slice (some ⟨g7,o7,none⟩) L.length c7) L/\ Below C W2 j:=by
 have v:=hg.block b3 h3 (fun e=>n3 (by injection e with e;exact e.symm));have y:=hg.block b4 h4 (fun e=>n4 (by injection e with e;exact e.symm));have m:=hg.block b7 h7 (fun e=>n7 (by injection e with e;exact e.symm));have r:=(World.cell?_of_block (a:=⟨b3,0,none⟩) v).trans c3;refine⟨⟨r,(World.frozen?_of_block (a:=⟨b3,0,none⟩) v).trans f3,by rcases hl with h|h<;>omega,by rcases hl with h|h<;>omega⟩,?_⟩;rintro j rfl;have q:∀(b o:Nat) (u:Value),b3≠b ->(w7.setCell ⟨b3,0,none⟩ u).cell? ⟨b,o,none⟩=w7.cell? ⟨b,o,none⟩:=fun b o u hb=>World.cell?_setCell_other _ _ _ _ (fun e=>hb (by injection e));have t:∀u,w7.grownBy (w7.setCell ⟨b3,0,none⟩ u) (some b3):=fun u=>⟨rfl,rfl,rfl,by simp [World.setCell],fun k hk hne=>zH _ _ _ _ (fun e=>hne (by rw [e]))⟩;have z:Below C W2 w7:=zI.grown hg hCW (fun k e=>by injection e with e;omega);refine⟨World.cell?_setCell_same _ _ _ r,?_,?_,?_,?_,?_,QaL.gr ho (t _) (fun e=>by simp [Value.ownBlock] at e;rcases hl with h|h<;>omega),z.setCell (p:=⟨b3,0,none⟩) hC3 _⟩
 ·rw [q _ _ _ n34];exact(World.cell?_of_block (a:=⟨b4,0,none⟩) y).trans c4
 ·rw [World.frozen?_setCell];exact(World.frozen?_of_block (a:=⟨b4,0,none⟩) y).trans f4
 ·rw [q _ _ _ n37];exact(World.cell?_of_block (a:=⟨b7,0,none⟩) m).trans q0
 ·rw [q _ _ _ n37];exact(World.cell?_of_block (a:=⟨b7,1,none⟩) m).trans q1
 ·rw [q _ _ _ n37];exact(World.cell?_of_block (a:=⟨b7,2,none⟩) m).trans q2
def spR (k:Nat)(p q:Rn)(l:List Rn)(i:Nat):List Rn:=
 if k%8=0 then l.set i (((k/8:Nat):Int) - 8,p.2.1,p.2.2)
 else if k%8=1 then l.set i (p.1,p.2.2+1,p.2.2)
 else if k%8=2 then l.set i (p.1,p.2.1,1000000001)
 else if k%8=3 then l.set i (p.1,0,p.2.2)
 else if k%8=4 then(l++[(p.1,p.2.2+1,p.2.2+2)]).set i p
 else if k%8=5 then(l++[p]).set i p
 else if k%8=6 then(l++[q]).set i p
 else l.set i (p.1,p.2.1 - 1,p.2.2)
def spF (k:Nat)(l:List Rn):List Rn:=if l.length=0 then [(0,0,(k:Int))] else spR k (gR l (k/8%l.length)) (gR l 0) l (k/8%l.length)
theorem QnS {k:Nat}{l:List Rn}(hk:k<256)(h:BRn l):(spF k l).length<=l.length+1/\ BSn (spF k l):=by
 unfold spF;split
 ·exact⟨by simp,fun p j=>by simp at j;subst j;simp only;omega⟩
 ·rename_i h0;have r:k/8%l.length<l.length:=Nat.mod_lt _ (by omega);have j:=h _ (QdB r);have u:=h _ (QdB (show 0<l.length by omega));generalize k/8%l.length=i at r j ⊢;generalize gR l i=p at j ⊢;generalize gR l 0=q at u ⊢;obtain⟨v,y,z⟩:=p;obtain⟨g,t,o⟩:=q;simp only at j u;have m:=h.bs;unfold spR;repeat' split
  all_goals refine⟨by simp,?_⟩
  all_goals first|exact m.set i _ _ _ (by first|omega|(simp only;omega))|exact(m.snoc _ _ _ (by first|omega|(simp only;omega))).set i _ _ _ (by first|omega|(simp only;omega))
theorem QnW (B rb C:Nat)(f:Nat ->Int)(n x:Nat)(v:Value)(l:List Rn)(w:World)(h:RdJ w B rb f n x)(hB:B<=C)(hC:C<=w.heap.size)(C0:Nat)(ho:QbU w C0 v l)(h0:l.length=0 \/C0=C)(hB0:B<=C0)(hl:l.length<=1001)(hbr:BRn l):
  Calls Tryz.prog 50 #[.pointer (some ⟨rb,0,none⟩),.agg #[v]] w fun e w'=>∃v',e=.returned (.agg #[v'])/\ QbU w' C v' (spF (rk f n x) l)/\ RdJ w' B rb f n (rx n x)/\ FrB w w' C rb:=by
 obtain⟨k,Ga⟩:∃k,rk f n x=k:=⟨_,rfl⟩;rw [Ga];obtain⟨i0,H8,Gi,Gj,Gk⟩:=info_parts Tryz.infoRun;obtain⟨g,off,c,rfl,Gz,G6,G7,H7,G8⟩:=ho.fs;clear Gz;obtain⟨W,hW⟩:∃W,(w.alloc (.cells #[.slice (some ⟨g,off,none⟩) l.length c] 26)).alloc (.cells #[.slice none 0 0] 26)=W:=⟨_,rfl⟩;have bW:Below w.heap.size w W:=by rw [<- hW];exact Qak _ _ _
 have k0:W.cell? ⟨w.heap.size,0,none⟩=some (.slice (some ⟨g,off,none⟩) l.length c):=by rw [<- hW];simp
 have k1:W.cell? ⟨w.heap.size+1,0,none⟩=some (.slice none 0 0):=by rw [<- hW];simp
 have f0:W.frozen? ⟨w.heap.size,0,none⟩=false:=by rw [<- hW];simp
 have f1:W.frozen? ⟨w.heap.size+1,0,none⟩=false:=by rw [<- hW];simp
 have zW:Hid (W.heap.size=w.heap.size+2):=by rw [<- hW];exact hid (by simp)
 have Kc:=h.lt;have HR:=hid (h.below (bW.mono (by omega)));have HO:=hid (QaL.below ho bW zL);have Hl:=hid bW;have hk:=Qk9 HR.out;have Gm:=hid (QaN B rb f n x W HR.out);rw [Ga] at hk Gm;clear h bW ho Ga;go_enter Tryz.func50,Tryz.ntmps50;go_wp2_with fail;try rw [hW]
 clear hW;refine Gm.mono ?_;rintro e w1 ⟨rfl,r1,D⟩;have z1:=D.size;have K:w.heap.size+1<w1.heap.size:=by have:=zW.out;omega
 have nb:some w.heap.size≠some rb:=fun e=>by injection e with e;omega
 have G5:some (w.heap.size+1)≠some rb:=fun e=>by injection e with e;omega
 have P:=D.block w.heap.size (by have:=zW.out;omega) nb;have R:=D.block (w.heap.size+1) (by have:=zW.out;omega) G5;have m0:=(World.cell?_of_block (a:=⟨w.heap.size,0,none⟩) P).trans k0;have I:=(World.cell?_of_block (a:=⟨w.heap.size+1,0,none⟩) R).trans k1;have y0:=(World.frozen?_of_block (a:=⟨w.heap.size,0,none⟩) P).trans f0;have y1:=(World.frozen?_of_block (a:=⟨w.heap.size+1,0,none⟩) R).trans f1;have Gb:QbU w1 C0 (.slice (some ⟨g,off,none⟩) l.length c) l:=QaL.gr HO.out D (fun e=>by simp [Value.ownBlock] at e;omega);have Hh:=hid Gb;have Hf:Hid (∀W3:World,Below C w1 W3 ->RdJ W3 B rb f n (rx n x)/\ FrB w W3 C rb):=hid (fun W3 hb=>by
  refine⟨r1.below (hb.mono hB),hb.os.trans (D.os.trans Hl.os),hb.tape.trans (D.tape.trans Hl.tape),hb.output.trans (D.output.trans Hl.output),Nat.le_trans Hl.size (Nat.le_trans D.size hb.size),fun k hk hne=> ?_⟩;have q:=Hl.size;exact(hb.block k hk).trans ((D.block k (by omega) (fun e=>hne (by injection e))).trans (Hl.block k (by omega))))
 have Hq:w.heap.size<w1.heap.size:=by omega
 have zg:g<w1.heap.size:=by have:=Hl.size;omega
 have Hn:g≠w.heap.size:=by omega
 have Hc:g≠w.heap.size+1:=by omega
 clear r1 D P R k0 k1 f0 f1 HR HO;by_cases Hy:l.length=0
 ·have d0:((l.length:Int)==0)=true:=by rw [Hy];rfl
  have OL:=hid (fun(X:World) (hX:C<=X.heap.size)=>QbU.lit1 X C hX 0 0 (k:Int));go_wp2_with fail;have zS:∀u,(w1.setCell ⟨w.heap.size+1,0,none⟩ u).heap.size=w1.heap.size:=fun u=>by simp [World.setCell]
  have oo:=OL (w1.setCell ⟨w.heap.size+1,0,none⟩ (.slice (some ⟨w1.heap.size,0,none⟩) 1 1)) (by rw [zS];omega);rw [zS] at oo;have bA:=(Below.refl w1.heap.size (w1.setCell ⟨w.heap.size+1,0,none⟩ (.slice (some ⟨w1.heap.size,0,none⟩) 1 1))).alloc (by rw [zS];exact Nat.le_refl _) (.cells #[.int .i64 0,.int .i64 0,.int .i64 (k:Int)] 113);have U:=(bA.cell (p:=⟨w.heap.size+1,0,none⟩) K).trans (World.cell?_setCell_same _ _ _ I);obtain⟨t,o⟩:=Hf _ (((Below.refl C w1).setCell (p:=⟨w.heap.size+1,0,none⟩) (show C<=w.heap.size+1 by omega) (.slice (some ⟨w1.heap.size,0,none⟩) 1 1)).alloc (by rw [zS];omega) (.cells #[.int .i64 0,.int .i64 0,.int .i64 (k:Int)] 113));refine zF (v:=.agg #[.slice (some ⟨w1.heap.size,0,none⟩) 1 1]) (by simp [results,Tryz.results50,go_sem,U]) ?_;exact⟨_,rfl,by unfold spF;rw [if_pos Hy];exact oo,t,o⟩
 ·obtain rfl:C=C0:=(h0.resolve_left Hy).symm;have d0:((l.length:Int)==0)=false:=by rw [beq_eq_false_iff_ne];omega
  obtain⟨mm,Hx⟩:∃mm:Int,(k:Int)/8%(l.length:Int)=mm:=⟨_,rfl⟩;have Ka:0<=mm:=by rw [<- Hx];exact Int.emod_nonneg _ (by omega)
  have Kb:mm<(l.length:Int):=by rw [<- Hx];exact Int.emod_lt_of_pos _ (by omega)
  obtain⟨ii,rfl⟩:∃ii:Nat,mm=(ii:Int):=⟨mm.toNat,by omega⟩;have Ho:ii<l.length:=by omega
  obtain⟨⟨x0,x1,x2⟩,z0,Gl,z2⟩:=Gb.at ii Ho;have hp:=hbr (gR l ii) (QdB Ho);obtain⟨y,Gg⟩:∃y:Nat,(gR l ii).1=(y:Int):=⟨((gR l ii).1).toNat,by omega⟩;obtain⟨z,Gf⟩:∃z:Nat,(gR l ii).2.1=(z:Int):=⟨((gR l ii).2.1).toNat,by omega⟩;obtain⟨m,Gh⟩:∃m:Nat,(gR l ii).2.2=(m:Int):=⟨((gR l ii).2.2).toNat,by omega⟩;have Hj:Hid (spF k l=spR k ((y:Int),(z:Int),(m:Int)) (gR l 0) l ii):=hid (by
   have P:k/8%l.length=ii:=by exact_mod_cast Hx
   have R:gR l ii=((y:Int),(z:Int),(m:Int)):=Prod.ext Gg (Prod.ext Gf Gh);unfold spF;rw [if_neg Hy,P,R])
  rw [Gg,Gf,Gh] at hp;rw [Gg] at x0;rw [Gf] at x1;rw [Gh] at x2;have i1:(0:Int)<=(ii:Int):=Int.natCast_nonneg _;have i2:(ii:Int)<(l.length:Int):=by omega
  have Ke:¬(l.length:Int)=0:=by omega
  have Kf:Int.tmod ((k:Int)/8) (l.length:Int)=(ii:Int):=by rw [Int.tmod_eq_emod_of_nonneg (by omega)];exact Hx
  have Ki:IntKind.i64.wrap (ii:Int)=(ii:Int):=by rw [IntKind.wrap_i64];omega
  clear Gb h0;obtain⟨k8,G9⟩:∃k8:Nat,(k:Int)%8=(k8:Int):=⟨k%8,by omega⟩;have H9:k8<8:=by omega
  have r:Hid (k%8=k8):=hid (by omega);match k8,H9 with
  | 0,_=>
   obtain⟨a,ha⟩:∃a:Int,(k:Int)/8 - 8=a:=⟨_,rfl⟩;have wa:IntKind.i64.wrap ((k:Int)/8 - 8)=a:=by rw [IntKind.wrap_i64];omega
   go_wp2_with fail;obtain⟨Y,Z,U⟩:=Qcg Hh.out Ho I Hc (by omega) K (a) ((z:Int)) ((m:Int)) (.cells #[.int .i64 (a),.int .i64 ((z:Int)),.int .i64 ((m:Int))] 113);obtain⟨t,o⟩:=Hf _ Z;refine zF (v:=.agg #[.slice (some ⟨g,off,none⟩) l.length c]) (by simp [results,Tryz.results50,go_sem,U]) ?_;exact⟨_,rfl,by rw [Hj.out];unfold spR;rw [if_pos r.out];rw [show ((k/8:Nat):Int) - 8=a by omega];exact Y,t,o⟩
  | 1,_=>
   obtain⟨a,ha⟩:∃a:Int,(m:Int)+1=a:=⟨_,rfl⟩;have wa:IntKind.i64.wrap ((m:Int)+1)=a:=by rw [IntKind.wrap_i64];omega
   go_wp2_with fail;obtain⟨Y,Z,U⟩:=Qcg Hh.out Ho I Hc (by omega) K ((y:Int)) (a) ((m:Int)) (.cells #[.int .i64 ((y:Int)),.int .i64 (a),.int .i64 ((m:Int))] 113);obtain⟨t,o⟩:=Hf _ Z;refine zF (v:=.agg #[.slice (some ⟨g,off,none⟩) l.length c]) (by simp [results,Tryz.results50,go_sem,U]) ?_;exact⟨_,rfl,by rw [Hj.out];unfold spR;rw [if_neg (by rw [r.out];decide)];rw [if_pos r.out];show QbU _ _ _ (l.set ii ((y:Int),(m:Int)+1,(m:Int)));rw [ha];exact Y,t,o⟩
  | 2,_=>
   go_wp2_with fail;obtain⟨Y,Z,U⟩:=Qcg Hh.out Ho I Hc (by omega) K ((y:Int)) ((z:Int)) (1000000001) (.cells #[.int .i64 ((y:Int)),.int .i64 ((z:Int)),.int .i64 (1000000001)] 113);obtain⟨t,o⟩:=Hf _ Z;refine zF (v:=.agg #[.slice (some ⟨g,off,none⟩) l.length c]) (by simp [results,Tryz.results50,go_sem,U]) ?_;exact⟨_,rfl,by rw [Hj.out];unfold spR;rw [if_neg (by rw [r.out];decide)];rw [if_neg (by rw [r.out];decide)];rw [if_pos r.out];exact Y,t,o⟩
  | 3,_=>
   go_wp2_with fail;obtain⟨Y,Z,U⟩:=Qcg Hh.out Ho I Hc (by omega) K ((y:Int)) (0) ((m:Int)) (.cells #[.int .i64 ((y:Int)),.int .i64 (0),.int .i64 ((m:Int))] 113);obtain⟨t,o⟩:=Hf _ Z;refine zF (v:=.agg #[.slice (some ⟨g,off,none⟩) l.length c]) (by simp [results,Tryz.results50,go_sem,U]) ?_;exact⟨_,rfl,by rw [Hj.out];unfold spR;rw [if_neg (by rw [r.out];decide)];rw [if_neg (by rw [r.out];decide)];rw [if_neg (by rw [r.out];decide)];rw [if_pos r.out];exact Y,t,o⟩
  | 4,_=>
   obtain⟨a1,G0⟩:∃a1:Int,(m:Int)+1=a1:=⟨_,rfl⟩;obtain⟨a2,G1⟩:∃a2:Int,(m:Int)+2=a2:=⟨_,rfl⟩;have Kg:IntKind.i64.wrap ((m:Int)+1)=a1:=by rw [IntKind.wrap_i64];omega
   have Kh:IntKind.i64.wrap ((m:Int)+2)=a2:=by rw [IntKind.wrap_i64];omega
   obtain⟨j,A⟩:∃j,w1.alloc (.cells #[.int .i64 (y:Int),.int .i64 (z:Int),.int .i64 (m:Int)] 113)=j:=⟨_,rfl⟩;have s:Below w1.heap.size w1 j:=by rw [<- A];exact zO _ _
   have F:Hid (j.heap.size=w1.heap.size+1):=by rw [<- A];exact hid (by simp)
   have q0:j.cell? ⟨w1.heap.size,0,none⟩=some (.int .i64 (y:Int)):=by rw [<- A];simp
   have t:j.cell? ⟨w1.heap.size,1,none⟩=some (.int .i64 (z:Int)):=by rw [<- A];simp
   have o:j.cell? ⟨w1.heap.size,2,none⟩=some (.int .i64 (m:Int)):=by rw [<- A];simp
   have n0:=(s.cell (p:=⟨w.heap.size,0,none⟩) Hq).trans m0;have n1:=(s.cell (p:=⟨w.heap.size+1,0,none⟩) K).trans I;have u0:=(s.frozen (p:=⟨w.heap.size,0,none⟩) Hq).trans y0;have u1:=(s.frozen (p:=⟨w.heap.size+1,0,none⟩) K).trans y1;have Hi:=hid (QaL.below (QaL.below Hh.out s zL) (zO j (.cells #[.int .i64 (y:Int),.int .i64 a1,.int .i64 a2] 113)) zL);have Hg:=hid (Qiz j (.int .i64 (y:Int)) (.int .i64 a1) (.int .i64 a2) 113);have Hr:=hid s;clear s;go_wp2_with (at_builtin;refine Qcr rfl _ _ 24 rfl C 113 i0 _ 3 24 Tryz.underlying24 H8 Gi Gj Gk rfl _ _ _ rfl Hi.out ⟨j.heap.size,0,none⟩ 1 1 [.int .i64 (y:Int),.int .i64 a1,.int .i64 a2] ?f0 rfl ?f1 ?f2 ?f3 ?f4 ?f5 ?_);case f0=>rfl
   case f1=>exact Hg.out
   case f2=>intro u hu;simp at hu;rcases hu with rfl|rfl|rfl<;>rfl
   case f3=>unfold maxLen;omega
   case f4=>omega
   case f5=>have:=F.out;simp;omega
   intro v7 Q Hb Hd Ha;have gg:j.grownBy Q (some g):=(World.grownBy_alloc j _ _).trans Hd;obtain⟨L,S⟩:∃L,l++[((y:Int),a1,a2)]=L:=⟨_,rfl⟩;have H:L.length=l.length+1:=by rw [<- S];simp
   have T:QbU Q C v7 L:=by unfold QbU;rw [H,<- S,Qbl];exact Hb
   have H1:Hid (l++[((y:Int),(m:Int)+1,(m:Int)+2)]=L):=hid (by rw [<- S,G0,G1]);obtain⟨b,G,V,rfl,_,G2,H3,G3,_⟩:=T.fs;have He:b=g \/j.heap.size<=b:=by
    rcases Ha with q|q
    ·simp [Value.ownBlock] at q;exact .inl q
    ·simp [Value.ownBlock] at q;exact .inr (by omega)
   have H0:=F.out;obtain⟨⟨d3,H2,Hv,Go⟩,Hk⟩:=Qea gg T He (b3:=w.heap.size) (b4:=w.heap.size+1) (b7:=w1.heap.size) (ii:=ii) (by omega) (by omega) (by omega) Hn Hc (by omega) (by omega) (by omega) (by omega) H7 (by omega) n0 u0 n1 u1 q0 t o;obtain⟨i,Hm⟩:∃i,Q.setCell ⟨w.heap.size,0,none⟩ (.slice (some ⟨b,G,none⟩) L.length V)=i:=⟨_,rfl⟩;obtain⟨s3,s4,Hz,t0,t1,t2,J,N⟩:=Hk i Hm;obtain⟨⟨Gp,Gq,Gr⟩,Gs,Hw,Gt⟩:=J.at ii (by omega);have i3:(ii:Int)<(L.length:Int):=by omega
   have Hu:=hid J;have Hs:Hid (Below C w1 i):=hid ((Hr.mono (by omega)).trans N);have Hp:=hid H;have HD:=hid Hv;clear Hb Hd Ha gg T H S Hk J N n0 n1 u0 u1 q0 t o x0 x1 x2 z0 Gl z2 Hi Hg H0 He m0 I y0 y1 A;go_wp2_with fail;obtain⟨Y,Z,U⟩:=QcW (ii:=ii) Hu.out (by have:=Hp.out;omega) s4 HD.out (by omega) (y:Int) (z:Int) (m:Int);obtain⟨t,o⟩:=Hf _ (Hs.trans Z);refine zF (v:=.agg #[.slice (some ⟨b,G,none⟩) L.length V]) (by simp [results,Tryz.results50,go_sem,U]) ?_;exact⟨_,rfl,by rw [Hj.out];unfold spR;rw [if_neg (by rw [r.out];decide)];rw [if_neg (by rw [r.out];decide)];rw [if_neg (by rw [r.out];decide)];rw [if_neg (by rw [r.out];decide)];rw [if_pos r.out];rw [H1.out];exact Y,t,o⟩
  | 5,_=>
   obtain⟨j,A⟩:∃j,w1.alloc (.cells #[.int .i64 (y:Int),.int .i64 (z:Int),.int .i64 (m:Int)] 113)=j:=⟨_,rfl⟩;have s:Below w1.heap.size w1 j:=by rw [<- A];exact zO _ _
   have F:Hid (j.heap.size=w1.heap.size+1):=by rw [<- A];exact hid (by simp)
   have q0:j.cell? ⟨w1.heap.size,0,none⟩=some (.int .i64 (y:Int)):=by rw [<- A];simp
   have t:j.cell? ⟨w1.heap.size,1,none⟩=some (.int .i64 (z:Int)):=by rw [<- A];simp
   have o:j.cell? ⟨w1.heap.size,2,none⟩=some (.int .i64 (m:Int)):=by rw [<- A];simp
   have n0:=(s.cell (p:=⟨w.heap.size,0,none⟩) Hq).trans m0;have n1:=(s.cell (p:=⟨w.heap.size+1,0,none⟩) K).trans I;have u0:=(s.frozen (p:=⟨w.heap.size,0,none⟩) Hq).trans y0;have u1:=(s.frozen (p:=⟨w.heap.size+1,0,none⟩) K).trans y1;have Hi:=hid (QaL.below (QaL.below Hh.out s zL) (zO j (.cells #[.int .i64 (y:Int),.int .i64 (z:Int),.int .i64 (m:Int)] 113)) zL);have Hg:=hid (Qiz j (.int .i64 (y:Int)) (.int .i64 (z:Int)) (.int .i64 (m:Int)) 113);have Hr:=hid s;clear s;go_wp2_with (at_builtin;refine Qcr rfl _ _ 24 rfl C 113 i0 _ 3 24 Tryz.underlying24 H8 Gi Gj Gk rfl _ _ _ rfl Hi.out ⟨j.heap.size,0,none⟩ 1 1 [.int .i64 (y:Int),.int .i64 (z:Int),.int .i64 (m:Int)] ?k0 rfl ?k1 ?k2 ?k3 ?k4 ?k5 ?_);case k0=>rfl
   case k1=>exact Hg.out
   case k2=>intro u hu;simp at hu;rcases hu with rfl|rfl|rfl<;>rfl
   case k3=>unfold maxLen;omega
   case k4=>omega
   case k5=>have:=F.out;simp;omega
   intro v7 Q Hb Hd Ha;have gg:j.grownBy Q (some g):=(World.grownBy_alloc j _ _).trans Hd;obtain⟨L,S⟩:∃L,l++[((y:Int),(z:Int),(m:Int))]=L:=⟨_,rfl⟩;have H:L.length=l.length+1:=by rw [<- S];simp
   have T:QbU Q C v7 L:=by unfold QbU;rw [H,<- S,Qbl];exact Hb
   have H1:Hid (l++[((y:Int),(z:Int),(m:Int))]=L):=hid S;obtain⟨b,G,V,rfl,_,G2,H3,G3,_⟩:=T.fs;have He:b=g \/j.heap.size<=b:=by
    rcases Ha with q|q
    ·simp [Value.ownBlock] at q;exact .inl q
    ·simp [Value.ownBlock] at q;exact .inr (by omega)
   have H0:=F.out;obtain⟨⟨d3,H2,Hv,Go⟩,Hk⟩:=Qea gg T He (b3:=w.heap.size) (b4:=w.heap.size+1) (b7:=w1.heap.size) (ii:=ii) (by omega) (by omega) (by omega) Hn Hc (by omega) (by omega) (by omega) (by omega) H7 (by omega) n0 u0 n1 u1 q0 t o;obtain⟨i,Hm⟩:∃i,Q.setCell ⟨w.heap.size,0,none⟩ (.slice (some ⟨b,G,none⟩) L.length V)=i:=⟨_,rfl⟩;obtain⟨s3,s4,Hz,t0,t1,t2,J,N⟩:=Hk i Hm;obtain⟨⟨Gp,Gq,Gr⟩,Gs,Hw,Gt⟩:=J.at ii (by omega);have i3:(ii:Int)<(L.length:Int):=by omega
   have Hu:=hid J;have Hs:Hid (Below C w1 i):=hid ((Hr.mono (by omega)).trans N);have Hp:=hid H;have HD:=hid Hv;clear Hb Hd Ha gg T H S Hk J N n0 n1 u0 u1 q0 t o x0 x1 x2 z0 Gl z2 Hi Hg H0 He m0 I y0 y1 A;go_wp2_with fail;obtain⟨Y,Z,U⟩:=QcW (ii:=ii) Hu.out (by have:=Hp.out;omega) s4 HD.out (by omega) (y:Int) (z:Int) (m:Int);obtain⟨t,o⟩:=Hf _ (Hs.trans Z);refine zF (v:=.agg #[.slice (some ⟨b,G,none⟩) L.length V]) (by simp [results,Tryz.results50,go_sem,U]) ?_;exact⟨_,rfl,by rw [Hj.out];unfold spR;rw [if_neg (by rw [r.out];decide)];rw [if_neg (by rw [r.out];decide)];rw [if_neg (by rw [r.out];decide)];rw [if_neg (by rw [r.out];decide)];rw [if_neg (by rw [r.out];decide)];rw [if_pos r.out];rw [H1.out];exact Y,t,o⟩
  | 6,_=>
   obtain⟨j,A⟩:∃j,w1.alloc (.cells #[.int .i64 (y:Int),.int .i64 (z:Int),.int .i64 (m:Int)] 113)=j:=⟨_,rfl⟩;have s:Below w1.heap.size w1 j:=by rw [<- A];exact zO _ _
   have F:Hid (j.heap.size=w1.heap.size+1):=by rw [<- A];exact hid (by simp)
   have q0:j.cell? ⟨w1.heap.size,0,none⟩=some (.int .i64 (y:Int)):=by rw [<- A];simp
   have t:j.cell? ⟨w1.heap.size,1,none⟩=some (.int .i64 (z:Int)):=by rw [<- A];simp
   have o:j.cell? ⟨w1.heap.size,2,none⟩=some (.int .i64 (m:Int)):=by rw [<- A];simp
   have n0:=(s.cell (p:=⟨w.heap.size,0,none⟩) Hq).trans m0;have n1:=(s.cell (p:=⟨w.heap.size+1,0,none⟩) K).trans I;have u0:=(s.frozen (p:=⟨w.heap.size,0,none⟩) Hq).trans y0;have u1:=(s.frozen (p:=⟨w.heap.size+1,0,none⟩) K).trans y1;have Gc:QbU j C (.slice (some ⟨g,off,none⟩) l.length c) l:=QaL.below Hh.out s zL;obtain⟨⟨e0,P,R⟩,_⟩:=Gc.at 0 (by omega);rw [Nat.zero_mul,Nat.add_zero] at e0 P R;have Ge:=hbr (gR l 0) (QdB (show 0<l.length by omega));obtain⟨M,H5⟩:∃M:Int,(gR l 0).1=M:=⟨_,rfl⟩;obtain⟨E,H4⟩:∃E:Int,(gR l 0).2.1=E:=⟨_,rfl⟩;obtain⟨O,H6⟩:∃O:Int,(gR l 0).2.2=O:=⟨_,rfl⟩;have Gu:Hid (gR l 0=(M,E,O)):=hid (Prod.ext H5 (Prod.ext H4 H6));rw [H5] at e0 Ge;rw [H4] at P Ge;rw [H6] at R Ge;have Kj:w.heap.size<j.heap.size:=by have:=F.out;omega
   have Kk:g<j.heap.size:=by have:=F.out;omega
   have i4:0<l.length:=by omega
   have Kd:(0<l.length)=True:=by simp;omega
   have Hi:=hid (QaL.below Gc (zO j (.cells #[.int .i64 M,.int .i64 E,.int .i64 O] 113)) zL);have Hg:=hid (Qiz j (.int .i64 M) (.int .i64 E) (.int .i64 O) 113);have Hr:=hid s;clear s Gc H5 H4 H6;go_wp2_with fail;have Gv:Hid (∀u∈[Value.int .i64 M,.int .i64 E,.int .i64 O],u.oneCell'=true):=hid (fun u hu=>by simp at hu;rcases hu with rfl|rfl|rfl<;>rfl);have Gw:Hid (l.length+1<=maxLen):=hid (by unfold maxLen;omega);have Gx:Hid ((l.length+1)*24<=140737488355328):=hid (by omega);have Gy:Hid (C<=((j.alloc (.cells #[.int .i64 M,.int .i64 E,.int .i64 O] 113)).drew).heap.size):=hid (by have:=F.out;show C<=(j.alloc _).heap.size;simp;omega);have Gn:Hid (QaL (j.alloc (.cells #[.int .i64 M,.int .i64 E,.int .i64 O] 113)).drew C 3 (.slice (some ⟨g,off,none⟩) l.length c) l.length (Qah l)):=hid (QaL.below Hi.out zI.drew zL);have Ht:Hid (∀(b G V:Nat) (Q:World),QaL Q C 3 (.slice (some ⟨b,G,none⟩) (l.length+1) V) (l.length+1) (Qah l++[.int .i64 M,.int .i64 E,.int .i64 O]) ->(j.alloc (.cells #[.int .i64 M,.int .i64 E,.int .i64 O] 113)).drew.grownBy Q (some g) ->(some b=some g \/b=j.heap.size+1) ->(Q.cell? ⟨w.heap.size,0,none⟩=some (.slice (some ⟨g,off,none⟩) l.length c)/\ Q.frozen? ⟨w.heap.size,0,none⟩=false/\ b≠w.heap.size+1/\ b≠w.heap.size)/\∀i,Q.setCell ⟨w.heap.size,0,none⟩ (.slice (some ⟨b,G,none⟩) (l.length+1) V)=i ->
     i.cell? ⟨w.heap.size,0,none⟩=some (.slice (some ⟨b,G,none⟩) (l.length+1) V)/\ i.cell? ⟨w.heap.size+1,0,none⟩=some (.slice none 0 0)/\ i.frozen? ⟨w.heap.size+1,0,none⟩=false/\ i.cell? ⟨w1.heap.size,0,none⟩=some (.int .i64 (y:Int))/\ i.cell? ⟨w1.heap.size,1,none⟩=some (.int .i64 (z:Int))/\ i.cell? ⟨w1.heap.size,2,none⟩=some (.int .i64 (m:Int))/\ QbU i C (.slice (some ⟨b,G,none⟩) (l.length+1) V) (l++[(M,E,O)])/\ Below C w1 i):=hid (by
    intro b G V Q Gd G4 He;have H0:=F.out;have gg:j.grownBy Q (some g):=(World.grownBy_alloc j _ _).trans ((show (j.alloc (.cells #[.int .i64 M,.int .i64 E,.int .i64 O] 113)).grownBy (j.alloc (.cells #[.int .i64 M,.int .i64 E,.int .i64 O] 113)).drew (some g) from⟨rfl,rfl,rfl,Nat.le_refl _,fun _ _ _=>rfl⟩).trans G4);have H:(l++[(M,E,O)]).length=l.length+1:=by simp
    have T:QbU Q C (.slice (some ⟨b,G,none⟩) (l++[(M,E,O)]).length V) (l++[(M,E,O)]):=by unfold QbU;rw [H,Qbl];exact Gd
    obtain⟨I,m2⟩:=Qea gg T (by rcases He with q|q;exact .inl (by injection q);exact .inr (by omega)) (b3:=w.heap.size) (b4:=w.heap.size+1) (b7:=w1.heap.size) (ii:=ii) (by omega) (by omega) (by omega) Hn Hc (by omega) (by omega) (by omega) (by omega) H7 (by omega) n0 u0 n1 u1 q0 t o;rw [H] at m2;refine⟨I,fun i h8=> ?_⟩;obtain⟨s3,s4,Hz,t0,t1,t2,J,N⟩:=m2 i h8;exact⟨s3,s4,Hz,t0,t1,t2,J,(Hr.mono (by omega)).trans N⟩)
   go_region_law (
    refine QfW (w:=(j.alloc (.cells #[.int .i64 M,.int .i64 E,.int .i64 O] 113)).drew) rfl _ _ 24 rfl C 113 i0 _ 3 24 Tryz.underlying24 H8 Gi Gj Gk rfl _ _ _ rfl Gn.out ⟨j.heap.size,0,none⟩ 1 1 [.int .i64 M,.int .i64 E,.int .i64 O] rfl rfl Hg.out Gv.out Gw.out Gx.out Gy.out ?_
    intro b G V Q Hb Hd Ha
    obtain⟨⟨d3,H2,Hv,Go⟩,Hk⟩:=Ht b G V Q Hb Hd (by rcases Ha with q|q;exact .inl q;exact .inr (by injection q with q;simpa using q)))
   all_goals (
    obtain⟨i,Hm⟩:∃i,Q.setCell ⟨w.heap.size,0,none⟩ (.slice (some ⟨b,G,none⟩) (l.length+1) V)=i:=⟨_,rfl⟩;obtain⟨s3,s4,Hz,t0,t1,t2,J,N⟩:=Hk i Hm;rw [Hm];have H:(l++[(M,E,O)]).length=l.length+1:=by simp
    obtain⟨⟨Gp,Gq,Gr⟩,Gs,Hw,Gt⟩:=J.at ii (by omega);have i3:(ii:Int)<((l.length:Nat):Int)+1:=by omega
    rw [<- H] at J;have Hu:=hid J;have Hs:=hid N;have Hp:=hid H;have HD:=hid Hv;clear Hb Hd Ha H Hk J N n0 n1 u0 u1 q0 t o x0 x1 x2 z0 Gl z2 Hi Gn Hg m0 I y0 y1 A Ht e0 P R Hm d3 H2;go_wp2_with fail;obtain⟨Y,Z,U⟩:=QcW (ii:=ii) Hu.out (by have:=Hp.out;omega) s4 HD.out (by omega) (y:Int) (z:Int) (m:Int);rw [Hp.out] at Y Z U;obtain⟨t,o⟩:=Hf _ (Hs.trans Z);refine zF (v:=.agg #[.slice (some ⟨b,G,none⟩) (l.length+1) V]) (by simp [results,Tryz.results50,go_sem,U]) ?_;exact⟨_,rfl,by rw [Hj.out];unfold spR;rw [if_neg (by rw [r.out];decide)];rw [if_neg (by rw [r.out];decide)];rw [if_neg (by rw [r.out];decide)];rw [if_neg (by rw [r.out];decide)];rw [if_neg (by rw [r.out];decide)];rw [if_neg (by rw [r.out];decide)];rw [if_pos r.out];rw [Gu.out];exact Y,t,o⟩)
  | 7,_=>
   obtain⟨a,ha⟩:∃a:Int,(z:Int) - 1=a:=⟨_,rfl⟩;have wa:IntKind.i64.wrap ((z:Int) - 1)=a:=by rw [IntKind.wrap_i64];omega
   go_wp2_with fail;obtain⟨Y,Z,U⟩:=Qcg Hh.out Ho I Hc (by omega) K ((y:Int)) (a) ((m:Int)) (.cells #[.int .i64 ((y:Int)),.int .i64 (a),.int .i64 ((m:Int))] 113);obtain⟨t,o⟩:=Hf _ Z;refine zF (v:=.agg #[.slice (some ⟨g,off,none⟩) l.length c]) (by simp [results,Tryz.results50,go_sem,U]) ?_;exact⟨_,rfl,by rw [Hj.out];unfold spR;rw [if_neg (by rw [r.out];decide)];rw [if_neg (by rw [r.out];decide)];rw [if_neg (by rw [r.out];decide)];rw [if_neg (by rw [r.out];decide)];rw [if_neg (by rw [r.out];decide)];rw [if_neg (by rw [r.out];decide)];rw [if_neg (by rw [r.out];decide)];show QbU _ _ _ (l.set ii ((y:Int),(z:Int) - 1,(m:Int)));rw [ha];exact Y,t,o⟩
def gnS (p:List ByteArray)(fl:Bool)(x:Lf):Prop:=x.p=p/\ x.fl=fl
def gnR (p:List ByteArray)(x:Lf):Prop:=p <+:x.p
theorem Qne (r q:Int)(w:World):
  Calls Tryz.prog 162 #[.agg #[.int .i64 r,.int .i64 q]] w fun e w'=>e=.returned (.bool (QaJ r q q))/\ Below w.heap.size w w':=by
 have j:Below w.heap.size w (w.alloc (.cells #[.int .i64 r,.int .i64 q] 67)):=zO _ _;have m:=hid j;clear j;go_enter Tryz.func162,Tryz.ntmps162;go_wp2_with fail;refine(QcG r q q _).mono ?_;rintro e w1 ⟨rfl,k⟩;have u:=hid (Qab m.out k);clear k;go_wp2_with fail;go_ret;exact⟨rfl,u.out⟩
def Qcd (R F T:Nat ->Int)(rep:Int)(n:Nat):Bool:=QcL R F T n && QaJ rep (Qbj R T rep n+1) (Qbj R T rep n+1)
theorem QgO {R F T:Nat ->Int}{n:Nat}(h:QcL R F T n=true)(rep:Int):0<=Qbj R T rep n/\ Qbj R T rep n<=1000000000:=by
 have:=Qio n (Qam.1 h).1;rw [this.2.2.1 rep];exact this.2.2.2 rep
theorem QkI {R T:Nat ->Int}(hT:I64 T)(rep:Int)(k:Nat): -9223372036854775808<=Qbj R T rep k/\ Qbj R T rep k<=9223372036854775807:=by
 induction k with
 | zero=>simp [Qbj]
 | succ k ih=>
  simp only [Qbj];split
  ·exact hT k
  ·exact ih
theorem QmL {R T:Nat ->Int}{rep:Int}{k:Nat}(h:R k=rep)(h2:Qbj R T rep k<T k):Qbj R T rep (k+1)=T k:=by
 show (if R k=rep/\ Qbj R T rep k<T k then T k else Qbj R T rep k)=_;rw [if_pos ⟨h,h2⟩]
theorem QhE {R T:Nat ->Int}{rep:Int}{k:Nat}(h:¬(R k=rep/\ Qbj R T rep k<T k)):Qbj R T rep (k+1)=Qbj R T rep k:=by
 show (if R k=rep/\ Qbj R T rep k<T k then T k else Qbj R T rep k)=_;rw [if_neg h]
theorem vI {a b:Int}(h:a=b):Value.int .i64 a=.int .i64 b:=by rw [h]
theorem QkD (a:Option Addr)(n c:Nat)(R F T:Nat ->Int)(rep:Int)(w:World)(hn:n<=1048576)(h:Qb3 w a n R F T)(hT:I64 T):
  Calls Tryz.prog 139 #[.agg #[.slice a n c],.int .i64 rep] w fun e w'=>
   (Qcd R F T rep n=true ->e=.returned (.tuple #[.agg #[.int .i64 rep,.int .i64 (Qbj R T rep n+1)],.bool true]))/\ (Qcd R F T rep n=false ->e=.returned (.tuple #[.agg #[.int .i64 0,.int .i64 0],.bool false]))/\ Below w.heap.size w w':=by
 obtain⟨m,y⟩:∃m,(w.alloc (.cells #[.slice a n c] 26)).alloc (.cells #[.int .i64 0,.int .i64 0] 67)=m:=⟨_,rfl⟩;have bW:Below w.heap.size w m:=by rw [<- y];exact Qak _ _ _
 have L:m.heap.size=w.heap.size+2:=by rw [<- y];simp
 have H:m.cell? ⟨w.heap.size,0,none⟩=some (.slice a n c):=by rw [<- y];simp
 have x0:m.cell? ⟨w.heap.size+1,0,none⟩=some (.int .i64 0):=by rw [<- y];simp
 have K:m.cell? ⟨w.heap.size+1,1,none⟩=some (.int .i64 0):=by rw [<- y];simp
 have Z:m.frozen? ⟨w.heap.size+1,0,none⟩=false:=by rw [<- y];simp
 have G:m.frozen? ⟨w.heap.size+1,1,none⟩=false:=by rw [<- y];simp
 have M:=h.below bW;go_enter Tryz.func139,Tryz.ntmps139;go_wp2_with fail;try rw [y]
 go_loop [6,7] (fun t i=>∃k:Nat,k<=n/\ i=.int .i64 k/\ t=.int .i64 (Qbj R T rep k)) (fun _ i=>n - (intOf i).toNat);case atStart=>exact⟨0,Nat.zero_le _,rfl,rfl⟩
 case round=>
  obtain⟨k,hk,rfl,rfl⟩:=hrel;have Hd:=QkI (R:=R) hT rep k;by_cases W:k<n
  ·rcases M with M|⟨b,off,rfl,hb,hc⟩
   ·omega
   have c0:=(hc k W).1;have c2:=(hc k W).2.2;clear hc h;by_cases s:R k=rep
   ·have t1:(R k==rep)=true:=by simp;exact s
    by_cases e2:Qbj R T rep k<T k
    ·have X:=hid (QmL s e2);have H1:=hid s;clear s;generalize Qbj R T rep k=tk at*;go_wp2_with fail;go_round;case rel=>exact⟨k+1,W,by go_num,vI X.symm⟩
     case measure=>simp [intOf];omega
    ·have X:=hid (QhE (R:=R) (T:=T) (rep:=rep) (k:=k) (fun hh=>e2 hh.2));clear s;generalize Qbj R T rep k=tk at*;go_wp2_with fail;go_round;case rel=>exact⟨k+1,W,by go_num,vI X.symm⟩
     case measure=>simp [intOf];omega
   ·have t1:(R k==rep)=false:=by simp;exact s
    have X:=hid (QhE (R:=R) (T:=T) (rep:=rep) (k:=k) (fun hh=>s hh.1));clear s;generalize Qbj R T rep k=tk at*;go_wp2_with fail;go_round;case rel=>exact⟨k+1,W,by go_num,vI X.symm⟩
    case measure=>simp [intOf];omega
  ·obtain rfl:k=n:=by omega
   clear h hk;cases hcx:QcL R F T k with
   | false=>
    have B:Hid (Qcd R F T rep k=false):=by unfold Hid Qcd;rw [hcx];rfl
    obtain⟨j,q⟩:∃j,m.alloc (.cells #[.int .i64 rep,.int .i64 (wrap64 (Qbj R T rep k+1))] 67)=j:=⟨_,rfl⟩;have b3:Below m.heap.size m j:=by rw [<- q];exact zO _ _
    have z3:j.heap.size=w.heap.size+3:=by rw [<- q];simp;omega
    have g:j.cell? ⟨w.heap.size+2,0,none⟩=some (.int .i64 rep):=by rw [<- q,<- L];simp
    have o:j.cell? ⟨w.heap.size+2,1,none⟩=some (.int .i64 (wrap64 (Qbj R T rep k+1))):=by rw [<- q,<- L];simp
    have z:=bW.trans (b3.mono (by omega));have Q:=(b3.cell (p:=⟨w.heap.size+1,0,none⟩) (show w.heap.size+1<m.heap.size by omega)).trans x0;have U:=(b3.cell (p:=⟨w.heap.size+1,1,none⟩) (show w.heap.size+1<m.heap.size by omega)).trans K;have A:=(b3.frozen (p:=⟨w.heap.size+1,0,none⟩) (show w.heap.size+1<m.heap.size by omega)).trans Z;have E:=(b3.frozen (p:=⟨w.heap.size+1,1,none⟩) (show w.heap.size+1<m.heap.size by omega)).trans G;have P:=(b3.cell (p:=⟨w.heap.size,0,none⟩) (show w.heap.size<m.heap.size by omega)).trans H;have O:=M.below b3;clear M b3 y;go_wp2_with fail;try rw [q]
    clear q H P x0 K Z G;refine(QfT a k c R F T _ hn O).mono ?_;rintro e u ⟨rfl,b4⟩;rw [hcx];have z4:=b4.size;have V:=(b4.cell (p:=⟨w.heap.size+1,0,none⟩) (show w.heap.size+1<j.heap.size by omega)).trans Q;have Y:=(b4.cell (p:=⟨w.heap.size+1,1,none⟩) (show w.heap.size+1<j.heap.size by omega)).trans U;have I:=(b4.frozen (p:=⟨w.heap.size+1,0,none⟩) (show w.heap.size+1<j.heap.size by omega)).trans A;have J:=(b4.frozen (p:=⟨w.heap.size+1,1,none⟩) (show w.heap.size+1<j.heap.size by omega)).trans E;have C:=(b4.cell (p:=⟨w.heap.size+2,0,none⟩) (show w.heap.size+2<j.heap.size by omega)).trans g;have D:=(b4.cell (p:=⟨w.heap.size+2,1,none⟩) (show w.heap.size+2<j.heap.size by omega)).trans o;have N:=hid (Qab z b4);clear Q U A E g o O b4 z hcx;go_wp2_with fail;refine zF (v:=.tuple #[.agg #[.int .i64 0,.int .i64 0],.bool false]) (by simp [results,Tryz.results139,go_sem,V,Y]) ⟨(fun h=>by have:=B.symm.trans h;cases this),(fun _=>rfl),?_⟩;exact(N.setCell (by simp) _).setCell (by simp) _
   | true=>
    have Hi:=QgO hcx rep;cases hdo:QaJ rep (Qbj R T rep k+1) (Qbj R T rep k+1) with
    | false=>
     have B:Hid (Qcd R F T rep k=false):=by unfold Hid Qcd;rw [hcx,hdo];rfl
     clear Hd;generalize S:Qbj R T rep k=tk at*;have HT:=hid S;clear S;obtain⟨j,q⟩:∃j,m.alloc (.cells #[.int .i64 rep,.int .i64 (tk+1)] 67)=j:=⟨_,rfl⟩;have b3:Below m.heap.size m j:=by rw [<- q];exact zO _ _
     have z3:j.heap.size=w.heap.size+3:=by rw [<- q];simp;omega
     have g:j.cell? ⟨w.heap.size+2,0,none⟩=some (.int .i64 rep):=by rw [<- q,<- L];simp
     have o:j.cell? ⟨w.heap.size+2,1,none⟩=some (.int .i64 (tk+1)):=by rw [<- q,<- L];simp
     have z:=bW.trans (b3.mono (by omega));have Q:=(b3.cell (p:=⟨w.heap.size+1,0,none⟩) (show w.heap.size+1<m.heap.size by omega)).trans x0;have U:=(b3.cell (p:=⟨w.heap.size+1,1,none⟩) (show w.heap.size+1<m.heap.size by omega)).trans K;have A:=(b3.frozen (p:=⟨w.heap.size+1,0,none⟩) (show w.heap.size+1<m.heap.size by omega)).trans Z;have E:=(b3.frozen (p:=⟨w.heap.size+1,1,none⟩) (show w.heap.size+1<m.heap.size by omega)).trans G;have P:=(b3.cell (p:=⟨w.heap.size,0,none⟩) (show w.heap.size<m.heap.size by omega)).trans H;have O:=M.below b3;clear M b3 y;go_wp2_with fail;try rw [q]
     clear q H P x0 K Z G;refine(QfT a k c R F T _ hn O).mono ?_;rintro e u ⟨rfl,b4⟩;rw [hcx];have z4:=b4.size;have V:=(b4.cell (p:=⟨w.heap.size+1,0,none⟩) (show w.heap.size+1<j.heap.size by omega)).trans Q;have Y:=(b4.cell (p:=⟨w.heap.size+1,1,none⟩) (show w.heap.size+1<j.heap.size by omega)).trans U;have I:=(b4.frozen (p:=⟨w.heap.size+1,0,none⟩) (show w.heap.size+1<j.heap.size by omega)).trans A;have J:=(b4.frozen (p:=⟨w.heap.size+1,1,none⟩) (show w.heap.size+1<j.heap.size by omega)).trans E;have C:=(b4.cell (p:=⟨w.heap.size+2,0,none⟩) (show w.heap.size+2<j.heap.size by omega)).trans g;have D:=(b4.cell (p:=⟨w.heap.size+2,1,none⟩) (show w.heap.size+2<j.heap.size by omega)).trans o;have N:=hid (Qab z b4);clear Q U A E g o O b4 z hcx;go_wp2_with fail;refine(Qne rep (tk+1) _).mono ?_;rintro e w5 ⟨rfl,r⟩;rw [hdo];have Hb:=(r.cell (p:=⟨w.heap.size+1,0,none⟩) (show w.heap.size+1<u.heap.size by omega)).trans V;have Hc:=(r.cell (p:=⟨w.heap.size+1,1,none⟩) (show w.heap.size+1<u.heap.size by omega)).trans Y;have Hg:=(r.frozen (p:=⟨w.heap.size+1,0,none⟩) (show w.heap.size+1<u.heap.size by omega)).trans I;have Hh:=(r.frozen (p:=⟨w.heap.size+1,1,none⟩) (show w.heap.size+1<u.heap.size by omega)).trans J;have Ha:=hid (Qab N.out r);clear V Y I J r hdo C D;go_wp2_with fail;refine zF (v:=.tuple #[.agg #[.int .i64 0,.int .i64 0],.bool false]) (by simp [results,Tryz.results139,go_sem,Hb,Hc]) ⟨(fun h=>by have:=B.symm.trans h;cases this),(fun _=>rfl),?_⟩;exact(Ha.setCell (by simp) _).setCell (by simp) _
    | true=>
     have B:Hid (Qcd R F T rep k=true):=by unfold Hid Qcd;rw [hcx,hdo];rfl
     clear Hd;generalize S:Qbj R T rep k=tk at*;have HT:=hid S;clear S;obtain⟨j,q⟩:∃j,m.alloc (.cells #[.int .i64 rep,.int .i64 (tk+1)] 67)=j:=⟨_,rfl⟩;have b3:Below m.heap.size m j:=by rw [<- q];exact zO _ _
     have z3:j.heap.size=w.heap.size+3:=by rw [<- q];simp;omega
     have g:j.cell? ⟨w.heap.size+2,0,none⟩=some (.int .i64 rep):=by rw [<- q,<- L];simp
     have o:j.cell? ⟨w.heap.size+2,1,none⟩=some (.int .i64 (tk+1)):=by rw [<- q,<- L];simp
     have z:=bW.trans (b3.mono (by omega));have Q:=(b3.cell (p:=⟨w.heap.size+1,0,none⟩) (show w.heap.size+1<m.heap.size by omega)).trans x0;have U:=(b3.cell (p:=⟨w.heap.size+1,1,none⟩) (show w.heap.size+1<m.heap.size by omega)).trans K;have A:=(b3.frozen (p:=⟨w.heap.size+1,0,none⟩) (show w.heap.size+1<m.heap.size by omega)).trans Z;have E:=(b3.frozen (p:=⟨w.heap.size+1,1,none⟩) (show w.heap.size+1<m.heap.size by omega)).trans G;have P:=(b3.cell (p:=⟨w.heap.size,0,none⟩) (show w.heap.size<m.heap.size by omega)).trans H;have O:=M.below b3;clear M b3 y;go_wp2_with fail;try rw [q]
     clear q H P x0 K Z G;refine(QfT a k c R F T _ hn O).mono ?_;rintro e u ⟨rfl,b4⟩;rw [hcx];have z4:=b4.size;have V:=(b4.cell (p:=⟨w.heap.size+1,0,none⟩) (show w.heap.size+1<j.heap.size by omega)).trans Q;have Y:=(b4.cell (p:=⟨w.heap.size+1,1,none⟩) (show w.heap.size+1<j.heap.size by omega)).trans U;have I:=(b4.frozen (p:=⟨w.heap.size+1,0,none⟩) (show w.heap.size+1<j.heap.size by omega)).trans A;have J:=(b4.frozen (p:=⟨w.heap.size+1,1,none⟩) (show w.heap.size+1<j.heap.size by omega)).trans E;have C:=(b4.cell (p:=⟨w.heap.size+2,0,none⟩) (show w.heap.size+2<j.heap.size by omega)).trans g;have D:=(b4.cell (p:=⟨w.heap.size+2,1,none⟩) (show w.heap.size+2<j.heap.size by omega)).trans o;have N:=hid (Qab z b4);clear Q U A E g o O b4 z hcx;go_wp2_with fail;refine(Qne rep (tk+1) _).mono ?_;rintro e w5 ⟨rfl,r⟩;rw [hdo];have Hb:=(r.cell (p:=⟨w.heap.size+1,0,none⟩) (show w.heap.size+1<u.heap.size by omega)).trans V;have Hc:=(r.cell (p:=⟨w.heap.size+1,1,none⟩) (show w.heap.size+1<u.heap.size by omega)).trans Y;have Hg:=(r.frozen (p:=⟨w.heap.size+1,0,none⟩) (show w.heap.size+1<u.heap.size by omega)).trans I;have Hh:=(r.frozen (p:=⟨w.heap.size+1,1,none⟩) (show w.heap.size+1<u.heap.size by omega)).trans J;have He:=(r.cell (p:=⟨w.heap.size+2,0,none⟩) (show w.heap.size+2<u.heap.size by omega)).trans C;have Hf:=(r.cell (p:=⟨w.heap.size+2,1,none⟩) (show w.heap.size+2<u.heap.size by omega)).trans D;have Ha:=hid (Qab N.out r);clear V Y I J r hdo C D;go_wp2_with fail;refine zF (v:=.tuple #[.agg #[.int .i64 rep,.int .i64 (tk+1)],.bool true]) (by simp [results,Tryz.results139,go_sem,Hb,Hc]) ⟨(fun _=>by rw [HT.out]),(fun h=>by have:=B.symm.trans h;cases this),?_⟩;exact(Ha.setCell (by simp) _).setCell (by simp) _
noncomputable def chF (S D:Sx):Bool:=jnF S D && (decide (D.l.length<=1000) && decide (D.n<=1000))
noncomputable def chX (S D:Sx):Sx:=if chF S D then jnS S D else Sx.mt
noncomputable def chY (S D:Sx):Sx:=if chF S D then D else Sx.mt
noncomputable def chC (S D:Sx):Int:=if chF S D then 0 else 4
theorem Qov {S D:Sx}(h:chF S D=true):chX S D=jnS S D/\ chY S D=D/\ chC S D=0:=by unfold chX chY chC;rw [if_pos h,if_pos h,if_pos h];exact⟨rfl,rfl,rfl⟩
theorem Qou {S D:Sx}(h:chF S D=false):chX S D=Sx.mt/\ chY S D=Sx.mt/\ chC S D=4:=by unfold chX chY chC;rw [if_neg (by rw [h];simp),if_neg (by rw [h];simp),if_neg (by rw [h];simp)];exact⟨rfl,rfl,rfl⟩
noncomputable def ocC (S:Sx)(p:List ByteArray)(v:ByteArray):Int:=if stB S=true then(if yes (QaQ p/\ v.size<=200)=true then 0 else 2) else 1
theorem Qm8 {S:Sx}{p:List ByteArray}{v:ByteArray}(h:stB S=false):ocC S p v=1:=by unfold ocC;rw [if_neg (by rw [h];simp)]
theorem Qkz {S:Sx}{p:List ByteArray}{v:ByteArray}(h:stB S=true)(hn:¬(QaQ p/\ v.size<=200)):ocC S p v=2:=by unfold ocC;rw [if_pos h,if_neg (by rw [Qaj hn];simp)]
theorem QnC {S:Sx}{p:List ByteArray}{v:ByteArray}(h:stB S=true)(hn:QaQ p/\ v.size<=200):ocC S p v=0:=by unfold ocC;rw [if_pos h,if_pos (Qal hn)]
theorem QnD {S:Sx}{p:List ByteArray}{v:ByteArray}(h:ocC S p v=0):stB S=true/\ QaQ p/\ v.size<=200:=by
 cases hb:stB S with
 | false=>rw [Qm8 hb] at h;cases h
 | true=>
  by_cases j:QaQ p/\ v.size<=200
  ·exact⟨rfl,j⟩
  ·rw [Qkz hb j] at h;cases h
noncomputable def rmD (S:Sx)(p:List ByteArray):Sx:=dlS (gnR p) S.l []
noncomputable def rmX (S:Sx)(p:List ByteArray):Sx:=if ocC S p ⟨#[]⟩=0 then chX S (rmD S p) else Sx.mt
noncomputable def rmY (S:Sx)(p:List ByteArray):Sx:=if ocC S p ⟨#[]⟩=0 then chY S (rmD S p) else Sx.mt
noncomputable def rmC (S:Sx)(p:List ByteArray):Int:=if ocC S p ⟨#[]⟩=0 then chC S (rmD S p) else ocC S p ⟨#[]⟩
theorem QoY {S:Sx}{p:List ByteArray}(h:ocC S p ⟨#[]⟩=0):rmX S p=chX S (rmD S p)/\ rmY S p=chY S (rmD S p)/\ rmC S p=chC S (rmD S p):=by unfold rmX rmY rmC;rw [if_pos h,if_pos h,if_pos h];exact⟨rfl,rfl,rfl⟩
theorem QoN {S:Sx}{p:List ByteArray}(h:ocC S p ⟨#[]⟩≠0):rmX S p=Sx.mt/\ rmY S p=Sx.mt/\ rmC S p=ocC S p ⟨#[]⟩:=by unfold rmX rmY rmC;rw [if_neg h,if_neg h,if_neg h];exact⟨rfl,rfl,rfl⟩
theorem QjE {R T:Nat ->Int}{rep:Int}:∀{n k:Nat},k<n ->R k=rep ->T k<=Qbj R T rep n
 | 0,k,h,_=>by omega
 | n+1,k,h,e=>by
  have mono:Qbj R T rep n<=Qbj R T rep (n+1):=by
   show _<=(if R n=rep/\ Qbj R T rep n<T n then T n else Qbj R T rep n);split<;>omega
  by_cases j:k=n
  ·subst j;show _<=(if R k=rep/\ Qbj R T rep k<T k then T k else Qbj R T rep k);split
   ·omega
   ·next hn=>exact Int.not_lt.1 (fun hlt=>hn ⟨e,hlt⟩)
  ·exact Int.le_trans (QjE (by omega) e) mono
def QnA (S:Sx)(rep:Int):Prop:=(0<=rep/\ rep<8)/\ Qbj S.R S.T rep S.n+1<=1000000000
def nxY (S:Sx)(rep:Int)(p:List ByteArray)(fl:Bool)(v:ByteArray):Lf:=⟨p,fl,rep,Qbj S.R S.T rep S.n+1,v⟩
theorem Qlx {S:Sx}{rep:Int}{p:List ByteArray}{fl:Bool}{v:ByteArray}(hs:Qbe S.R S.F S.T S.n S.l)(hp:QaQ p)(hv:v.size<=200)(hf:fl=true ->emB v=true)(h:QnA S rep):PtO S [nxY S rep p fl v]:=by
 have g:=QgO hs.1 rep;have z:=h.2;have u:=h.1;refine⟨by simp,fun y hy=> ?_,fun y hy=> ?_,fun y hy hx=> ?_⟩
 ·rw [List.mem_singleton.1 hy];exact⟨hp,hv,hf⟩
 ·rw [List.mem_singleton.1 hy];unfold Rok dtR nxY;simp only;omega
 ·rw [List.mem_singleton.1 hy] at hx;obtain⟨k,q,j,r,m⟩:=QeX S.R S.F S.T _ _ _ S.n hx;have:=QjE (R:=S.R) (T:=S.T) (rep:=rep) q (by first|exact j|exact j.symm);unfold nxY at m;simp only at m;omega
section
variable {S : Sx} {rep : Int} {p : List ByteArray} {fl : Bool} {v : ByteArray}
end
def hgN (N N1:List Ky ->Option (Nat×Nat))(k:Ky):List Ky ->Option (Nat×Nat)
 | []=>N []
 | y::r=>if y=k then N1 r else N (y::r)
def hgM (M M1:List Ky ->Dt ->Option ByteArray)(k:Ky):List Ky ->Dt ->Option ByteArray
 | []=>M []
 | y::r=>if y=k then M1 r else M (y::r)
def ApN (N N1:List Ky ->Option (Nat×Nat)):Prop:=∀p q x y,N p=some x ->N1 q=some y ->x.1≠y.1/\ x.1≠y.2/\ x.2≠y.1/\ x.2≠y.2
section
variable {w w' : World} {B c : Nat} {N N1 : List Ky -> Option (Nat × Nat)} {M M1 : List Ky -> Dt -> Option ByteArray}
theorem Tre.hang {x0 x1:Nat×Nat}{k:Ky}(h:Tre w B N M c)(h1:Tre w B N1 M1 c)(hN:N []=some x0)(hN1:N1 []=some x1)(hap:ApN N N1)(hg:w.grownBy w' (some x0.1))(hm:QaZ w' 88 Qbs Qdg x0.1 (c+1) (fun y=>if y=k then some x1 else N [y])):Tre w' B (hgN N N1 k) (hgM M M1 k) (c+1):=by
 have A:∀p x,N p=some x ->p≠[] ->w'.heap[x.1]? =w.heap[x.1]? :=fun p x hx hp=>hg.block _ (h.lt hx).1 (fun e=>hp ((h.apart p [] x x0 hx hN).2.1 (by injection e)));have b:∀p x,N p=some x ->w'.heap[x.2]? =w.heap[x.2]? :=fun p x hx=>hg.block _ (h.lt hx).2 (fun e=>(h.apart [] p x0 x hN hx).1 (by injection e with e;exact e.symm));have i:∀p x,N1 p=some x ->w'.heap[x.1]? =w.heap[x.1]? /\ w'.heap[x.2]? =w.heap[x.2]? :=fun p x hx=>by
  have a:=hap [] p x0 x hN hx;exact⟨hg.block _ (h1.lt hx).1 (fun e=>a.1 (by injection e with e;exact e.symm)),hg.block _ (h1.lt hx).2 (fun e=>a.2.1 (by injection e with e;exact e.symm))⟩
 have g:∀p x,hgN N N1 k p=some x ->(p=[]/\ x=x0) \/(∃r,p=k::r/\ N1 r=some x) \/(∃y r,p=y::r/\ y≠k/\ N (y::r)=some x):=fun p x hx=>by
  cases p with
  | nil=>exact .inl ⟨rfl,by simp only [hgN] at hx;rw [hN] at hx;exact(Option.some.inj hx).symm⟩
  | cons y r=>
   simp only [hgN] at hx;by_cases e:y=k
   ·rw [if_pos e] at hx;exact .inr (.inl ⟨r,by rw [e],hx⟩)
   ·rw [if_neg e] at hx;exact .inr (.inr ⟨y,r,rfl,e,hx⟩)
 refine⟨fun p x hx=> ?_,fun p x hx=> ?_,fun p q x y hx hy=> ?_,fun p x hx=> ?_,fun p hp=> ?_,fun p y hp=> ?_⟩
 ·rcases g p x hx with ⟨rfl,rfl⟩|⟨r,rfl,j⟩|⟨y,r,rfl,t,j⟩
  ·refine hm.ext fun y=> ?_;show (if y=k then some x1 else N [y])=hgN N N1 k [y];simp only [hgN];by_cases e:y=k
   ·rw [if_pos e,if_pos e,hN1]
   ·rw [if_neg e,if_neg e]
  ·refine(((h1.kids r x j).same (i r x j).1).mono (Nat.le_succ _)).ext fun z=> ?_;show N1 (r++[z])=hgN N N1 k (k::(r++[z]));simp [hgN]
  ·refine(((h.kids _ x j).same (A _ x j (by simp))).mono (Nat.le_succ _)).ext fun z=> ?_;show N (y::r++[z])=hgN N N1 k (y::(r++[z]));simp [hgN,t]
 ·rcases g p x hx with ⟨rfl,rfl⟩|⟨r,rfl,j⟩|⟨y,r,rfl,t,j⟩
  ·exact((h.marks [] x hN).same (b [] x hN)).mono (Nat.le_succ _)
  ·refine(((h1.marks r x j).same (i r x j).2).mono (Nat.le_succ _)).ext fun d=> ?_;simp [hgM]
  ·refine(((h.marks _ x j).same (b _ x j)).mono (Nat.le_succ _)).ext fun d=> ?_;simp [hgM,t]
 ·rcases g p x hx with ⟨rfl,rfl⟩|⟨r,rfl,j⟩|⟨u,r,rfl,t,j⟩
  ·rcases g q y hy with ⟨rfl,rfl⟩|⟨s,rfl,m⟩|⟨v,s,rfl,o,m⟩
   ·exact h.apart [] [] _ _ hN hN
   ·have a:=hap [] s x y hN m;exact⟨a.2.1,fun e=>absurd e a.1,fun e=>absurd e a.2.2.2⟩
   ·exact h.apart [] _ _ _ hN m
  ·rcases g q y hy with ⟨rfl,rfl⟩|⟨s,rfl,m⟩|⟨v,s,rfl,o,m⟩
   ·have a:=hap [] r y x hN j;exact⟨fun e=>a.2.2.1 e.symm,fun e=>absurd e.symm a.1,fun e=>absurd e.symm a.2.2.2⟩
   ·have a:=h1.apart r s x y j m;exact⟨a.1,fun e=>by rw [a.2.1 e],fun e=>by rw [a.2.2 e]⟩
   ·have a:=hap _ r y x m j;exact⟨fun e=>a.2.2.1 e.symm,fun e=>absurd e.symm a.1,fun e=>absurd e.symm a.2.2.2⟩
  ·rcases g q y hy with ⟨rfl,rfl⟩|⟨s,rfl,m⟩|⟨v,s,rfl,o,m⟩
   ·exact h.apart _ [] _ _ j hN
   ·have a:=hap _ s x y j m;exact⟨a.2.1,fun e=>absurd e a.1,fun e=>absurd e a.2.2.2⟩
   ·exact h.apart _ _ _ _ j m
 ·rcases g p x hx with ⟨rfl,rfl⟩|⟨r,rfl,j⟩|⟨y,r,rfl,t,j⟩
  ·exact h.lo [] _ hN
  ·exact h1.lo r x j
  ·exact h.lo _ x j
 ·cases p with
  | nil=>simp only [hgN] at hp;rw [hN] at hp;cases hp
  | cons y r=>
   simp only [hgN] at hp;by_cases e:y=k
   ·rw [if_pos e] at hp;show hgM M M1 k (y::r)=_;simp only [hgM];rw [if_pos e];exact h1.none' r hp
   ·rw [if_neg e] at hp;show hgM M M1 k (y::r)=_;simp only [hgM];rw [if_neg e];exact h.none' _ hp
 ·cases p with
  | nil=>simp only [hgN] at hp;rw [hN] at hp;cases hp
  | cons z r=>
   simp only [hgN,List.cons_append] at hp ⊢;by_cases e:z=k
   ·rw [if_pos e] at hp ⊢;exact h1.up r y hp
   ·rw [if_neg e] at hp ⊢;exact h.up (z::r) y hp
theorem Tre.new {x0:Nat×Nat}(hk:QaZ w 88 (α:=Ky) Qbs Qdg x0.1 0 (fun _=>none))(hm:QaZ w 67 (α:=Dt) dtV Qey x0.2 0 (fun _=>none))(hne:x0.1≠x0.2)(hB:B<=x0.1/\ B<=x0.2):Tre w B (fun z=>if z=[] then some x0 else none) (fun _ _=>none) 0:=by
 have nil:∀(p:List Ky) (x:Nat×Nat),(if p=[] then some x0 else none)=some x ->p=[]/\ x=x0:=fun p x hx=>by
  by_cases e:p=[]
  ·rw [if_pos e] at hx;exact⟨e,(Option.some.inj hx).symm⟩
  ·rw [if_neg e] at hx;cases hx
 refine⟨fun p x hx=> ?_,fun p x hx=> ?_,fun p q x y hx hy=> ?_,fun p x hx=> ?_,fun p hp=>rfl,fun p y hp=>by rw [if_neg (by simp)]⟩
 ·obtain⟨rfl,rfl⟩:=nil p x hx;exact hk.ext fun y=>by simp
 ·obtain⟨rfl,rfl⟩:=nil p x hx;exact hm.ext fun d=>rfl
 ·obtain⟨rfl,rfl⟩:=nil p x hx;obtain⟨rfl,rfl⟩:=nil q y hy;exact⟨hne,fun _=>rfl,fun _=>rfl⟩
 ·obtain⟨rfl,rfl⟩:=nil p x hx;exact hB
end
end Go.Proofs.YtdeolligikjieaaGreatDoor
