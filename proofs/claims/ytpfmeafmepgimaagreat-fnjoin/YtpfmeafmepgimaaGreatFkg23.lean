import Derived.Test.YtpfmeafmepgimaaGreatFkg22
import Derived.Test.YtpfmeafmepgimaaGreatFkg11
import Derived.Test.YtpfmeafmepgimaaGreatFkg16
import Derived.Test.YtpfmeafmepgimaaGreatFkg19
set_option linter.unusedVariables false
set_option linter.unusedSimpArgs false
set_option maxRecDepth 100000
set_option maxHeartbeats 40000000
namespace Go.Proofs.YtpfmeafmepgimaaGreat
open Go.ChangeShapes Go.WideShapes Go.ChangeAt Go.RowKit Go.Deep
theorem l3PathK (g off m c:Nat)(p:List ByteArray)(w:World)(hp:p.length=m)(hm:m<=1048576)(hg:g<w.heap.size)(h:∀t,t<m ->w.cell? ⟨g,off+t,none⟩=some (.string (gS p t))):
  Calls Tryz.prog 60 #[.slice (some ⟨g,off,none⟩) m c] w fun e w'=>∃q cap,e=.returned (.slice (some ⟨q,0,none⟩) m cap)/\ Below w.heap.size w w'/\ w.heap.size<=q/\ q<w'.heap.size/\ Wr w' q 9 m (fun t=> .string (gS p t))/\ m<=cap/\ cap<=9223372036854775807/\ w'.ownsRow w.heap.size 9 1 (.slice (some ⟨q,0,none⟩) m cap) m (sRow p):=by
 obtain⟨i0,hi,hz0,hz1,hz2⟩:=info_parts infoStr;have b0:Below w.heap.size w (w.alloc (.cells #[] 9)):=(Below.refl _ _).alloc (Nat.le_refl _) _;have ho:(w.alloc (.cells #[] 9)).ownsRow w.heap.size 9 1 (.slice (some ⟨w.heap.size,0,none⟩) 0 0) 0 []:=by
  have:=World.ownsRow_lit (base:=w.heap.size) (e:=9) (size:=1) w #[] 0 (Nat.le_refl _) (by unfold maxLen;omega) rfl;simpa using this
 obtain⟨q,cap,w',happ,hw,hgr,hq⟩:=copyRowE 61 9 i0 _ 1 16 Tryz.underlying61 hi hz0 hz1 hz2 rfl (by decide) (by omega) w.heap.size g off m c (fun t=> .string (gS p t)) (w.alloc (.cells #[] 9)) w.heap.size hm ho (by simp) (fun j hj=>(b0.cell (p:=⟨g,off+j,none⟩) hg).trans (h j (by omega))) (fun _ _=>rfl);have hwr:=own_wrF hw;rw [Nat.mul_one] at hwr;have HCP:Hid (m<=cap/\ cap<=9223372036854775807):=hid (by
  rcases hw.2 with ⟨h0,_⟩|⟨g',cap',cur,hv,hbase,hb,h1,h2,h3,h4⟩
  ·cases h0
  ·injection hv with e1 e2 e3;unfold maxLen at h2;omega)
 have HB:Hid (Below w.heap.size w w'):=hid (b0.grown hgr b0.size (fun k e=>by injection e with e;omega));have HW:=hid hwr;have HO:Hid (w'.ownsRow w.heap.size 9 1 (.slice (some ⟨q,0,none⟩) m cap) m (sRow p)):=hid (by unfold sRow;rw [hp];exact hw);have HQ:Hid (w.heap.size<=q):=hid (by rcases hq with e|e<;>rw [e];exact Nat.le_refl _;simp);clear hw hgr hq hwr h ho b0;go_enter Tryz.func60,Tryz.ntmps60;go_wp2_with (at_builtin;refine wpList_app2 rfl _ _ _ _ rfl happ (by rfl) (by rfl) rfl ?_;clear happ);go_ret;exact⟨q,cap,rfl,HB.out,HQ.out,HW.out.lt,HW.out,HCP.out.1,HCP.out.2,HO.out⟩
theorem l3LeafK (g off m c:Nat)(y:Lf)(w:World)(hp:y.p.length=m)(hm:m<=1048576)(hg:g<w.heap.size)(h:∀t,t<m ->w.cell? ⟨g,off+t,none⟩=some (.string (gS y.p t))):
  Calls Tryz.prog 35 #[.agg #[.slice (some ⟨g,off,none⟩) m c,.bool y.fl,.int .i64 y.r,.int .i64 y.q,.string y.v]] w fun e w'=>∃q cap,e=.returned (.agg #[.slice (some ⟨q,0,none⟩) m cap,.bool y.fl,.int .i64 y.r,.int .i64 y.q,.string y.v])/\ Below w.heap.size w w'/\ w.heap.size<=q/\ q<w'.heap.size/\ Wr w' q 9 m (fun t=> .string (gS y.p t))/\ m<=cap/\ cap<=9223372036854775807/\ w'.ownsRow w.heap.size 9 1 (.slice (some ⟨q,0,none⟩) m cap) m (sRow y.p):=by
 obtain⟨W,hW⟩:∃W,(w.alloc (.cells #[.slice (some ⟨g,off,none⟩) m c,.bool y.fl,.int .i64 y.r,.int .i64 y.q,.string y.v] 65)).alloc (.cells #[.slice none 0 0,.bool false,.int .i64 0,.int .i64 0,.string ⟨#[]⟩] 65)=W:=⟨_,rfl⟩;have b0:Below w.heap.size w W:=by rw [<- hW];exact below2 _ _ _
 have A0:Bx5 W w.heap.size (.slice (some ⟨g,off,none⟩) m c) (.bool y.fl) (.int .i64 y.r) (.int .i64 y.q) (.string y.v):=by rw [<- hW];exact(Bx5.new _ _ _ _ _ _ _).up _
 have R0:Bx5 W (w.heap.size+1) (.slice none 0 0) (.bool false) (.int .i64 0) (.int .i64 0) (.string ⟨#[]⟩):=by
  rw [<- hW];have:=Bx5.new (w.alloc (.cells #[.slice (some ⟨g,off,none⟩) m c,.bool y.fl,.int .i64 y.r,.int .i64 y.q,.string y.v] 65)) (.slice none 0 0) (.bool false) (.int .i64 0) (.int .i64 0) (.string ⟨#[]⟩) 65;simpa using this
 have HP:=hid (l3PathK g off m c y.p W hp hm (Nat.lt_of_lt_of_le hg b0.size) (fun t ht=>(b0.cell (p:=⟨g,off+t,none⟩) hg).trans (h t ht)));have k0:=A0.c0;have HA:=hid A0;have HR:=hid R0;have HB0:=hid b0;have hWsz:w.heap.size+1<W.heap.size:=R0.lt;clear b0 A0 R0 h;go_enter Tryz.func35,Tryz.ntmps35;go_wp2_with fail;try rw [hW]
 clear hW;refine HP.out.mono ?_;rintro e w1 ⟨q,cap,rfl,b1,hq1,hq2,hwr,hcp,hcp2,how⟩;have A1:=HA.out.below b1 HA.out.lt;have R1:=HR.out.below b1 HR.out.lt;have a0:=A1.c0;have a1:=A1.c1;have a2:=A1.c2;have a3:=A1.c3;have a4:=A1.c4;have fa:=A1.f;have r0:=R1.c0;have r1:=R1.c1;have r2:=R1.c2;have r3:=R1.c3;have r4:=R1.c4;have fr:=R1.f;have HWr:=hid hwr;have HOw:Hid (w1.ownsRow w.heap.size 9 1 (.slice (some ⟨q,0,none⟩) m cap) m (sRow y.p)):=hid (own_weak5 how (by omega));clear how;have HB1:=hid (keepS HB0.out b1);have HQ:Hid (W.heap.size<=q/\ q<w1.heap.size):=hid ⟨hq1,hq2⟩;clear k0 HP hwr hq1 hq2 b1 A1 R1;go_wp2_with fail;have hq:=HQ.out;refine bodyPost_ret (v:=.agg #[.slice (some ⟨q,0,none⟩) m cap,.bool y.fl,.int .i64 y.r,.int .i64 y.q,.string y.v]) (by simp [results,Tryz.results35,go_sem,r0,r1,r2,r3,r4]) rfl ⟨q,cap,rfl,?_,by omega,?_,?_,hcp,hcp2,?_⟩
 ·repeat (refine Below.setCell ?_ (by simp) _)
  exact HB1.out
 ·simp [World.setCell];exact hq.2
 ·repeat (refine Wr.same (w:=_) ?_ (Below.heap_setCell _ _ _ _ (by simp;omega)))
  exact HWr.out
 ·refine own_at5 HOw.out (fun g hg=> ?_);have e:q=g:=by simpa [Value.ownBlock] using hg
  repeat (rw [Below.heap_setCell _ _ _ _ (by simp;omega)])
theorem l3LeafB (g off m c:Nat)(y:Lf)(w:World)(hp:y.p.length=m)(hm:m<=1048576)(hg:g<w.heap.size)(h:∀t,t<m ->w.cell? ⟨g,off+t,none⟩=some (.string (gS y.p t))):
  Calls Tryz.prog 35 #[.agg #[.slice (some ⟨g,off,none⟩) m c,.bool y.fl,.int .i64 y.r,.int .i64 y.q,.string y.v]] w fun e w'=>∃q cap,e=.returned (.agg #[.slice (some ⟨q,0,none⟩) m cap,.bool y.fl,.int .i64 y.r,.int .i64 y.q,.string y.v])/\ Below w.heap.size w w'/\ w.heap.size<=q/\ q<w'.heap.size/\ Wr w' q 9 m (fun t=> .string (gS y.p t))/\ m<=cap/\ cap<=9223372036854775807:=
 (l3LeafK g off m c y w hp hm hg h).mono fun e w' ⟨q,cap,a1,a2,a3,a4,a5,a6,a7,_⟩=>⟨q,cap,a1,a2,a3,a4,a5,a6,a7⟩
theorem Bx5.setFar {w:World}{b:Nat}{v0 v1 v2 v3 v4:Value}(h:Bx5 w b v0 v1 v2 v3 v4)(t:Nat)(u:Value)(hne:b≠t):Bx5 (w.setCell ⟨t,0,none⟩ u) b v0 v1 v2 v3 v4:=by
 have e:(w.setCell ⟨t,0,none⟩ u).heap[b]? =w.heap[b]? :=Below.heap_setCell _ _ _ _ hne;have q:=fun o=>World.cell?_of_block (w:=w) (w':=w.setCell ⟨t,0,none⟩ u) (a:=⟨b,o,none⟩) e;exact⟨(q 0).trans h.c0,(q 1).trans h.c1,(q 2).trans h.c2,(q 3).trans h.c3,(q 4).trans h.c4,fun i=>(World.frozen?_of_block (a:=⟨b,i,none⟩) e).trans (h.f i),by simp [World.setCell];exact h.lt⟩
theorem FR.setFar {w:World}{B:Nat}{v:Value}{l:List Rn}(h:FR w B v l)(q:Addr)(u:Value)(hv:v.ownBlock≠some q.block):FR (w.setCell q u) B v l:=by
 refine World.ownsRow.kept h (w':=w.setCell q u) (row:=some q.block) ⟨rfl,rfl,rfl,by simp [World.setCell],fun k hk hne=>Below.heap_setCell _ _ _ _ (fun e=>hne (by rw [e]))⟩ ?_;cases e:v.ownBlock with
 | none=>exact .inl rfl
 | some b=>exact .inr (fun e2=>hv (by rw [e];exact e2))
theorem LC.set {w:World}{lo:Nat}{v:Value}{l:List Lf}{P Q:Nat ->Nat}(h:LC w lo v l P Q)(q:Addr)(u:Value)(hg:v.ownBlock≠some q.block)(hP:∀i,i<l.length ->P i≠q.block):LC (w.setCell q u) lo v l P Q:=
 ⟨own_at5 h.row (fun g hg'=>Below.heap_setCell _ _ _ _ (fun e=>hg (by rw [hg',e]))),fun i hi=>by
  obtain⟨e1,e2,e3,e4⟩:=h.pt i hi;exact⟨e1,by simp [World.setCell];exact e2,e3,e4.1.same (Below.heap_setCell _ _ _ _ (hP i hi)),e4.2⟩⟩
structure JS (w wr:World)(t:Nat)(va0 va1 vb0 vb1:Value)(g c:Nat)(vr:Value)(l:List Lf)(lr:List Rn)(P Q:Nat ->Nat):Prop where
 low:Below w.heap.size w wr
 a:Bx2 wr w.heap.size va0 va1
 b:Bx2 wr (w.heap.size+1) vb0 vb1
 r:Bx2 wr (w.heap.size+1+1) (.slice none 0 0) (.slice none 0 0)
 o:Bx2 wr t (.slice (some ⟨g,0,none⟩) l.length c) vr
 lc:LC wr w.heap.size (.slice (some ⟨g,0,none⟩) l.length c) l P Q
 fr:FR wr w.heap.size vr lr
 ht:w.heap.size+3<=t
 hv:vr.ownBlock≠some t
 hg:w.heap.size+3<=g
 hv2:∀b,vr.ownBlock=some b ->w.heap.size+3<=b
section
variable {w wr w1 : World} {t : Nat} {va0 va1 vb0 vb1 : Value} {g c : Nat} {vr : Value} {l : List Lf} {lr : List Rn} {P Q : Nat -> Nat}
theorem JS.below (h:JS w wr t va0 va1 vb0 vb1 g c vr l lr P Q)(hb:Below wr.heap.size wr w1):JS w w1 t va0 va1 vb0 vb1 g c vr l lr P Q:=
 ⟨h.low.trans (hb.mono h.low.size),h.a.below hb h.a.lt,h.b.below hb h.b.lt,h.r.below hb h.r.lt,h.o.below hb h.o.lt,h.lc.below hb,h.fr.below hb,h.ht,h.hv,h.hg,h.hv2⟩
theorem JS.set {g2 c2 n2:Nat}{l2:List Lf}{P2 Q2:Nat ->Nat}(h:JS w wr t va0 va1 vb0 vb1 g c vr l lr P Q)(hb:Below wr.heap.size wr w1)(h2:LC w1 w.heap.size (.slice (some ⟨g2,0,none⟩) n2 c2) l2 P2 Q2)(hn:n2=l2.length)(hg:wr.heap.size<=g2)(hp:∀i,i<l2.length ->1<=(gL l2 i).p.length):JS w (w1.setCell ⟨t,0,none⟩ (.slice (some ⟨g2,0,none⟩) n2 c2)) t va0 va1 vb0 vb1 g2 c2 vr l2 lr P2 Q2:=by
 subst hn;have h1:=h.below hb;have hto:=h.o.lt;have ht:=h.ht;refine⟨h1.low.setCell (by show w.heap.size<=t;omega) _,h1.a.setAt _ _ (by show t≠w.heap.size;omega),h1.b.setAt _ _ (by show t≠w.heap.size+1;omega),h1.r.setAt _ _ (by show t≠w.heap.size+1+1;omega),h1.o.set0 _,h2.set _ _ (fun e=>by have:=own_eq e;have:g2=t:=this;omega) (fun i hi e=> ?_),?_,h.ht,h.hv,by omega,h.hv2⟩
 ·have hw:=(h2.pt i hi).2.2.2.1.cell (i:=0) (by have:=hp i hi;omega);have e:P2 i=t:=e;rw [e,h1.o.c0] at hw;cases hw
 ·refine World.ownsRow.kept h1.fr (w':=w1.setCell ⟨t,0,none⟩ _) (row:=some t) ⟨rfl,rfl,rfl,by simp [World.setCell],fun k hk hne=>Below.heap_setCell _ _ _ _ (fun e=>hne (by rw [e]))⟩ ?_;cases e:vr.ownBlock with
  | none=>exact .inl rfl
  | some b=>exact .inr (fun e2=>h.hv (by rw [e];exact e2))
end
structure Put (C:Lf ->Prop)(ls:List Lf)(L:Nat ->List Lf)(s:Nat):Prop where
 yes:∀k,k<ls.length ->C (gL ls k) ->L (k+1)=insL (gL ls k) (L k)
 no:∀k,k<ls.length ->¬C (gL ls k) ->L (k+1)=L k
 len:∀k,k<=ls.length ->(L k).length<=s+k
 pth:∀k,k<=ls.length ->∀i,i<(L k).length ->1<=(gL (L k) i).p.length/\ (gL (L k) i).p.length<=8
theorem Put.of (C:Lf ->Prop)(ls out:List Lf)(s:Nat)(ho:out.length<=s)(h1:∀i,i<ls.length ->1<=(gL ls i).p.length/\ (gL ls i).p.length<=8)(h2:∀i,i<out.length ->1<=(gL out i).p.length/\ (gL out i).p.length<=8):Put C ls (putL C ls out) s:=
 ⟨fun k hk h=>putL_yes h,fun k hk h=>putL_no h,fun k hk=>by have:=putL_len (P:=C) (ls:=ls) (out:=out) k;omega,fun k hk i hi=>by
  have hm:=gL_mem.2 ⟨i,hi,rfl⟩;rcases putL_mem.1 hm with h|⟨t,ht,_,e⟩
  ·obtain⟨t,ht,e⟩:=gL_mem.1 h;rw [<- e];exact h2 t ht
  ·rw [<- e];exact h1 t (by omega)⟩
theorem l3JoinC (a b:Option Addr)(ca cb:Nat)(la lb:List Lf)(xa:Option Addr)(n d:Nat)(R F T:Nat ->Int)(x':Option Addr)(n' d':Nat)(R' F' T':Nat ->Int)(w:World)(hn:n<=1000)(hn':n'<=1000)(ho:okTo R F T n)(ho':okTo R' F' T' n')(hla:la.length<=1000)(hlb:lb.length<=1000)(hpa:∀i,i<la.length ->1<=(gL la i).p.length/\ (gL la i).p.length<=8)(hpb:∀i,i<lb.length ->1<=(gL lb i).p.length/\ (gL lb i).p.length<=8)
  (h1:LCap w a la) (h2:LCap w b lb) (h3:RSeg w xa n R F T) (h4:RSeg w x' n' R' F' T'):
  Calls Tryz.prog 14 #[.agg #[.slice a la.length ca,.slice xa n d],.agg #[.slice b lb.length cb,.slice x' n' d']] w fun e w'=>(∃g c ra rc P Q,e=.returned (.agg #[.slice (some ⟨g,0,none⟩) (jn R F T n la R' F' T' n' lb).length c,.slice ra (unL R F T n R' F' T' n').length rc])/\ LC w' w.heap.size (.slice (some ⟨g,0,none⟩) (jn R F T n la R' F' T' n' lb).length c) (jn R F T n la R' F' T' n' lb) P Q/\ FR w' w.heap.size (.slice ra (unL R F T n R' F' T' n').length rc) (unL R F T n R' F' T' n'))/\ Below w.heap.size w w':=by
 obtain⟨W,hW⟩:∃W,(((w.alloc (.cells #[.slice a la.length ca,.slice xa n d] 28)).alloc (.cells #[.slice b lb.length cb,.slice x' n' d'] 28)).alloc (.cells #[.slice none 0 0,.slice none 0 0] 28)).alloc (.cells #[] 65)=W:=⟨_,rfl⟩;have b0:Below w.heap.size w W:=by rw [<- hW];exact((below2 _ _ _).alloc (by simp;omega) _).alloc (by simp;omega) _
 have zW:W.heap.size=w.heap.size+4:=by rw [<- hW];simp
 have A0:Bx2 W w.heap.size (.slice a la.length ca) (.slice xa n d):=by rw [<- hW];exact(((Bx2.made w _ _ _).allocs _).allocs _).allocs _
 have B0:Bx2 W (w.heap.size+1) (.slice b lb.length cb) (.slice x' n' d'):=by
  rw [<- hW];have:=Bx2.made (w.alloc (.cells #[.slice a la.length ca,.slice xa n d] 28)) (.slice b lb.length cb) (.slice x' n' d') 28;exact((by simpa using this:Bx2 _ (w.heap.size+1) _ _).allocs _).allocs _
 have R0:Bx2 W (w.heap.size+1+1) (.slice none 0 0) (.slice none 0 0):=by
  rw [<- hW];have:=Bx2.made ((w.alloc (.cells #[.slice a la.length ca,.slice xa n d] 28)).alloc (.cells #[.slice b lb.length cb,.slice x' n' d'] 28)) (.slice none 0 0) (.slice none 0 0) 28;exact(by simpa using this:Bx2 _ (w.heap.size+1+1) _ _).allocs _
 have L0:LC W w.heap.size (.slice (some ⟨w.heap.size+3,0,none⟩) 0 0) [] (fun _=>0) (fun _=>0):=by
  refine⟨?_,fun i hi=>by simp at hi⟩;have:=World.ownsRow_lit (base:=w.heap.size) (e:=65) (size:=5) (((w.alloc (.cells #[.slice a la.length ca,.slice xa n d] 28)).alloc (.cells #[.slice b lb.length cb,.slice x' n' d'] 28)).alloc (.cells #[.slice none 0 0,.slice none 0 0] 28)) #[] 0 (by simp;omega) (by unfold maxLen;omega) rfl;rw [hW] at this;simpa using this
 have HA0:=hid A0;have HBB:=hid B0;have HR0:=hid R0;have HL0:=hid L0;have HB0:=hid b0;have HZW:=hid zW;have HU:=hid (specUnion2 xa n d R F T x' n' d' R' F' T' W hn hn' (h3.below b0) (h4.below b0) ho ho');have H1:=hid h1;have H2:=hid h2;have H3:=hid h3;have H4:=hid h4;have HPA:=hid hpa;have HPB:=hid hpb;have HLN:=hid (And.intro hla hlb);obtain⟨LA,hLA⟩:∃LA,putL (fun x=>x∈lb \/¬hasX R' F' T' n' x) la []=LA:=⟨_,rfl⟩;obtain⟨LB,hLB⟩:∃LB,putL (fun x=>¬hasX R F T n x) lb (LA la.length)=LB:=⟨_,rfl⟩;obtain⟨J,hJ⟩:∃J,jn R F T n la R' F' T' n' lb=J:=⟨_,rfl⟩;have HQA:Hid (Put (fun x=>x∈lb \/¬hasX R' F' T' n' x) la LA 0):=hid (by rw [<- hLA];exact Put.of _ la [] 0 (Nat.le_refl _) hpa (fun i hi=>by simp at hi));have HQB:Hid (Put (fun x=>¬hasX R F T n x) lb LB la.length):=hid (by rw [<- hLB];exact Put.of _ lb _ _ (by have:=HQA.out.len la.length (Nat.le_refl _);omega) hpb (HQA.out.pth la.length (Nat.le_refl _)));have HA00:Hid (LA 0=[]):=hid (by rw [<- hLA];rfl);have HB00:Hid (LB 0=LA la.length):=hid (by rw [<- hLB];rfl);have HJE:Hid (LB lb.length=J):=hid (by rw [<- hLB,<- hLA,<- hJ];rfl);rw [hJ];have k1:=A0.c1;have k2:=B0.c1;clear A0 B0 R0 L0 b0 zW h1 h2 h3 h4 hpa hpb hJ hLA hLB;go_enter Tryz.func14,Tryz.ntmps14;go_wp2_with fail;try rw [hW]
 clear hW;refine HU.out.mono ?_;rintro e w1 ⟨vr,rfl,f1,b1⟩;obtain⟨ul,hul⟩:∃ul,unL R F T n R' F' T' n'=ul:=⟨_,rfl⟩;rw [hul] at f1;obtain⟨ra,rc,hvr,_⟩:=f1.fs;subst hvr;obtain⟨w2,hw2⟩:∃w2,w1.alloc (.cells #[.slice (some ⟨w.heap.size+1+1+1,0,none⟩) 0 0,.slice ra ul.length rc] 28)=w2:=⟨_,rfl⟩;have b2:Below w1.heap.size w1 w2:=by rw [<- hw2];exact(Below.refl _ _).alloc (Nat.le_refl _) _
 have b12:=keepS b1 b2;have HJS:Hid (JS w w2 w1.heap.size (.slice a la.length ca) (.slice xa n d) (.slice b lb.length cb) (.slice x' n' d') (w.heap.size+1+1+1) 0 (.slice ra ul.length rc) (LA 0) ul (fun _=>0) (fun _=>0)):=hid (by
  have hz:=HZW.out;have hz1:=b1.size;rw [HA00.out];refine⟨HB0.out.trans (b12.mono HB0.out.size),HA0.out.below b12 HA0.out.lt,HBB.out.below b12 HBB.out.lt,HR0.out.below b12 HR0.out.lt,by rw [<- hw2];exact Bx2.made _ _ _ _,HL0.out.below b12,(f1.below b2).weak (by omega),by omega,fun e=> ?_,by omega,fun b e=> ?_⟩
  ·have:=(World.ownsRow.lt f1 _ e).2;omega
  ·have:=(World.ownsRow.lt f1 _ e).1;omega)
 have HUL:=hid hul;clear f1 b1 b2 b12 k1 k2 HU HA0 HBB HR0 HL0 HB0 HZW hul;go_wp2_with fail;try rw [hw2]
 clear hw2;obtain⟨t,hT⟩:∃t,w1.heap.size=t:=⟨_,rfl⟩;rw [hT] at HJS ⊢;clear hT;go_loopw [6] (fun i wr=>∃(j g c:Nat) (P Q:Nat ->Nat),j<=la.length/\ i=.int .i64 j/\ Hid (JS w wr t (.slice a la.length ca) (.slice xa n d) (.slice b lb.length cb) (.slice x' n' d') g c (.slice ra ul.length rc) (LA j) ul P Q)) (fun i _=>la.length - (intOf i).toNat);case atStart=>exact⟨0,_,_,_,_,Nat.zero_le _,rfl,HJS⟩
 case round=>
  clear HJS;obtain⟨j,g,c,P,Q,hj,rfl,HS⟩:=hrel;have a0:=HS.out.a.c0;by_cases hlt:j<la.length
  ·have i1:(0:Int)<=(j:Int):=Int.natCast_nonneg _;have i2:(j:Int)<(la.length:Int):=by omega
   obtain⟨ab,ao,rfl,hab,hcs⟩:=(H1.out.below HS.out.low).resolve_left (by omega);obtain⟨pa,pc,⟨c0,d0⟩,sg,c1,c2,c3,c4⟩:=hcs j hlt;obtain⟨pb,po,rfl,hpb,hpc⟩:=sg.resolve_left (by have:=(HPA.out j hlt).1;omega);have hyl:=HPA.out j hlt;obtain⟨y,hy⟩:∃y,gL la j=y:=⟨_,rfl⟩;rw [hy] at c0 c1 c2 c3 c4 d0 hpc hyl;have HY:=hid hy;obtain⟨yp,yf,yr,yq,yv⟩:=y;dsimp only at c0 c1 c2 c3 c4 d0 hpc hyl;obtain⟨w5,hw5⟩:∃w5,wr.alloc (.cells #[.slice (some ⟨pb,po,none⟩) yp.length pc,.bool yf,.int .i64 yr,.int .i64 yq,.string yv] 65)=w5:=⟨_,rfl⟩;have b5:Below wr.heap.size wr w5:=by rw [<- hw5];exact(Below.refl _ _).alloc (Nat.le_refl _) _
   have X5:Bx5 w5 wr.heap.size (.slice (some ⟨pb,po,none⟩) yp.length pc) (.bool yf) (.int .i64 yr) (.int .i64 yq) (.string yv):=by rw [<- hw5];exact Bx5.new _ _ _ _ _ _ _
   have HS5:=hid (HS.out.below b5);have HX5:=hid X5;have HD0:=hid d0;have HYL:=hid hyl;have HSG:Hid (SSeg w5 (some ⟨pb,po,none⟩) yp):=hid (.inr ⟨pb,po,rfl,Nat.lt_of_lt_of_le hpb b5.size,fun i hi=>(b5.cell (p:=⟨pb,po+i,none⟩) hpb).trans (hpc i hi)⟩);have x0:=X5.c0;have x1:=X5.c1;have x2:=X5.c2;have x3:=X5.c3;have x4:=X5.c4;clear hy hcs sg hpc hpb hab b5 X5 d0 hyl HS;have hf:=hid (fun w6 (b6:Below w5.heap.size w5 w6)=>l3FindC b (some ⟨pb,po,none⟩) cb pc lb yp yf yr yq yv w6 (by have:=HLN.out;omega) HD0.out.1 HD0.out.2 ((H2.out.below HS5.out.low).below b6) (HSG.out.below b6));have e0:=HS5.out.b.c0;have e1:=HS5.out.b.c1;go_wp2_with fail;refine(hf.out w5 (Below.refl _ _)).mono ?_;rintro e w6 ⟨⟨fi,rfl,hfi⟩,b6⟩;have HS6:=hid (HS5.out.below b6);have HX6:=hid (HX5.out.below b6 HX5.out.lt);have HB6:=hid b6;have HFI:=hid hfi;clear e0 e1 hf hfi b6 x0 x1 x2 x3 x4 a0 c0 c1 c2 c3 c4 hw5;by_cases hmem:(⟨yp,yf,yr,yq,yv⟩:Lf)∈lb
   ·have e0:(0:Int)<=fi:=HFI.out.2 hmem;have HYE:Hid (insL ⟨yp,yf,yr,yq,yv⟩ (LA j)=LA (j+1)):=hid (by rw [HQA.out.yes j hlt (by rw [HY.out];exact .inl hmem),HY.out]);clear hmem;have HSE:Hid (∀w',Below w6.heap.size w6 w' ->(w'.cell? ⟨wr.heap.size,0,none⟩=some (.slice (some ⟨pb,po,none⟩) yp.length pc)/\ w'.cell? ⟨wr.heap.size,1,none⟩=some (.bool yf)/\ w'.cell? ⟨wr.heap.size,2,none⟩=some (.int .i64 yr)/\ w'.cell? ⟨wr.heap.size,3,none⟩=some (.int .i64 yq)/\ w'.cell? ⟨wr.heap.size,4,none⟩=some (.string yv))):=hid (fun w' b=>by
     have X:=HX6.out.below b HX6.out.lt;exact⟨X.c0,X.c1,X.c2,X.c3,X.c4⟩)
    have HLF:Hid (∀w',Below w6.heap.size w6 w' ->Calls Tryz.prog 35 #[.agg #[.slice (some ⟨pb,po,none⟩) yp.length pc,.bool yf,.int .i64 yr,.int .i64 yq,.string yv]] w' fun e w''=>∃q cap,e=.returned (.agg #[.slice (some ⟨q,0,none⟩) yp.length cap,.bool yf,.int .i64 yr,.int .i64 yq,.string yv])/\ Below w'.heap.size w' w''/\ w'.heap.size<=q/\ q<w''.heap.size/\ Wr w'' q 9 yp.length (fun t=> .string (gS yp t))/\ yp.length<=cap/\ cap<=9223372036854775807):=hid (fun w' b=>by
     obtain⟨pb1,po1,e,hlt1,hc1⟩:=((HSG.out.below HB6.out).below b).resolve_left (by have:=HYL.out.1;omega);injection e with e;injection e with e1 e2;subst e1;subst e2;exact l3LeafB pb po yp.length pc ⟨yp,yf,yr,yq,yv⟩ w' rfl (by have:=HYL.out.2;omega) hlt1 hc1)
    have HPU:Hid (∀w7 q cap,Below w6.heap.size w6 w7 ->w6.heap.size<=q ->q<w7.heap.size ->Wr w7 q 9 yp.length (fun t=> .string (gS yp t)) ->yp.length<=cap/\ cap<=9223372036854775807 ->Calls Tryz.prog 34 #[.slice (some ⟨g,0,none⟩) (LA j).length c,.agg #[.slice (some ⟨q,0,none⟩) yp.length cap,.bool yf,.int .i64 yr,.int .i64 yq,.string yv]] w7 fun e w'=>(∃g' cap' P' Q',e=.returned (.slice (some ⟨g',0,none⟩) ((LA j).length+1) cap')/\ w7.heap.size<=g'/\ LC w' w.heap.size (.slice (some ⟨g',0,none⟩) ((LA j).length+1) cap') (LA (j+1)) P' Q')/\ Below w7.heap.size w7 w'):=hid (fun w7 q cap b7 hq1 hq2 hw hcap=>by
     have hJ:=HS6.out.below b7;have hs:=hJ.low.size;have hs6:=HS6.out.low.size;rw [<- HYE.out];exact l3PutC g c (LA j) P Q w7 w.heap.size q cap yp yf yr yq yv hJ.lc hs (by have h1:=HQA.out.len j (by omega);have h2:=HLN.out;omega) (fun i hi=>by have:=(HQA.out.pth j (by omega) i hi).2;omega) (by have:=HYL.out.2;omega) ⟨by omega,hq2⟩ hw hcap)
    have HNL:Hid ((LA j).length+1=(LA (j+1)).length):=hid (by rw [<- HYE.out,insL_len]);have HXN:Hid (wr.heap.size≠t):=hid (fun e=>by
     have h1:=HX6.out.c1;rw [e,HS6.out.o.c1] at h1;cases h1)
    have t0:=(HS6.out.o.below (Below.refl _ _).drew HS6.out.o.lt).c0;go_wp2_with fail;refine wp_region_held_drew (S:=fun w'=>w'.cell? ⟨wr.heap.size,0,none⟩=some (.slice (some ⟨pb,po,none⟩) yp.length pc)/\ w'.cell? ⟨wr.heap.size,1,none⟩=some (.bool yf)/\ w'.cell? ⟨wr.heap.size,2,none⟩=some (.int .i64 yr)/\ w'.cell? ⟨wr.heap.size,3,none⟩=some (.int .i64 yq)/\ w'.cell? ⟨wr.heap.size,4,none⟩=some (.string yv)) (by kernel_rfl) (HSE.out _ (Below.refl _ _).drew) (fun hHeld=> ?_);refine tZ 0 42 ?_;refine tZ 2 44 ?_;refine ready2t (i:=1) (j:=3) (d:=some 43) (d':=some 45) (by kernel_rfl) (by kernel_rfl) (by kernel_rfl) ?_ ?_
    ·
     intro o ho hod K hK;simp only [gZa,gZb,gZc,gZd] at ho;subst ho;go_simp;refine hK.out _ _ (HSE.out _ (Below.refl _ _).drew) (fun hHeld=> ?_);clear hK K;try simp only [Act.put,sZa,sZb,sZc]
     clear t0;refine cZ 3 ?_;intro K hK;go_simp;refine(HLF.out _ (Below.refl _ _).drew).mono ?_;rintro e w7 ⟨q7,cap7,rfl,b7,hq71,hq72,hw7,hcap7⟩;have b7':Below w6.heap.size w6 w7:=⟨b7.os,b7.tape,b7.output,b7.size,b7.block⟩;refine hK.out _ _ (HSE.out _ b7') (fun hHeld=> ?_);clear hK K;try simp only [Act.put,sZa,sZb,sZc]
     have HCP:=hid (HPU.out w7 q7 cap7 b7' hq71 hq72 hw7 hcap7);clear hw7 hcap7 hq71 hq72;refine cZ 4 ?_;intro K hK;go_simp;refine HCP.out.mono ?_;rintro e w8 ⟨⟨g8,c8,P8,Q8,rfl,hg8,l8⟩,b8⟩;have b8':=keepS b7' b8;have HJ8:=hid (HS6.out.set b8' l8 HNL.out (by have:=b7'.size;omega) (fun i hi=>(HQA.out.pth (j+1) hlt i hi).1));have O8:=HS6.out.o.below b8' HS6.out.o.lt;refine hK.out _ _ (HSE.out _ b8') (fun hHeld=> ?_);clear hK K;try simp only [Act.put,sZa,sZb,sZc]
     refine tZ 5 47 ?_;have o0:=O8.c0;have of:=O8.f 0;have X9:=((HX6.out.below b8' HX6.out.lt).setFar t (.slice (some ⟨g8,0,none⟩) ((LA j).length+1) c8) HXN.out);have HX9:=hid (⟨X9.c0,X9.c1,X9.c2,X9.c3,X9.c4⟩:(w8.setCell ⟨t,0,none⟩ (.slice (some ⟨g8,0,none⟩) ((LA j).length+1) c8)).cell? ⟨wr.heap.size,0,none⟩=some (.slice (some ⟨pb,po,none⟩) yp.length pc)/\ (w8.setCell ⟨t,0,none⟩ (.slice (some ⟨g8,0,none⟩) ((LA j).length+1) c8)).cell? ⟨wr.heap.size,1,none⟩=some (.bool yf)/\ (w8.setCell ⟨t,0,none⟩ (.slice (some ⟨g8,0,none⟩) ((LA j).length+1) c8)).cell? ⟨wr.heap.size,2,none⟩=some (.int .i64 yr)/\ (w8.setCell ⟨t,0,none⟩ (.slice (some ⟨g8,0,none⟩) ((LA j).length+1) c8)).cell? ⟨wr.heap.size,3,none⟩=some (.int .i64 yq)/\ (w8.setCell ⟨t,0,none⟩ (.slice (some ⟨g8,0,none⟩) ((LA j).length+1) c8)).cell? ⟨wr.heap.size,4,none⟩=some (.string yv));clear O8 X9;refine cZ 6 ?_;intro K hK;go_simp;refine hK.out _ _ HX9.out (fun hHeld=> ?_);clear hK K;try simp only [Act.put,sZa,sZb,sZc]
     refine wpAnyH_done (by kernel_rfl) ?_ _;clear hHeld b7 b7' b8 b8' l8 hg8 o0 of HCP HPU HLF HSE HX9;go_wp2_with fail;go_roundw;case rel=>exact⟨j+1,g8,c8,P8,Q8,hlt,by go_num,HJ8⟩
     case measure=>simp [intOf];omega
    ·
     clear t0;intro o ho hod K hK;simp only [gZa,gZb,gZc,gZd] at ho;subst ho;go_simp;refine(HLF.out _ (Below.refl _ _).drew).mono ?_;rintro e w7 ⟨q7,cap7,rfl,b7,hq71,hq72,hw7,hcap7⟩;have b7':Below w6.heap.size w6 w7:=⟨b7.os,b7.tape,b7.output,b7.size,b7.block⟩;refine hK.out _ _ (HSE.out _ b7') (fun hHeld=> ?_);clear hK K;try simp only [Act.put,sZa,sZb,sZc]
     have t0:=(HS6.out.o.below b7' HS6.out.o.lt).c0;refine cZ 1 ?_;intro K hK;go_simp;refine hK.out _ _ (HSE.out _ b7') (fun hHeld=> ?_);clear hK K;try simp only [Act.put,sZa,sZb,sZc]
     clear t0;have HCP:=hid (HPU.out w7 q7 cap7 b7' hq71 hq72 hw7 hcap7);clear hw7 hcap7 hq71 hq72;refine cZ 4 ?_;intro K hK;go_simp;refine HCP.out.mono ?_;rintro e w8 ⟨⟨g8,c8,P8,Q8,rfl,hg8,l8⟩,b8⟩;have b8':=keepS b7' b8;have HJ8:=hid (HS6.out.set b8' l8 HNL.out (by have:=b7'.size;omega) (fun i hi=>(HQA.out.pth (j+1) hlt i hi).1));have O8:=HS6.out.o.below b8' HS6.out.o.lt;refine hK.out _ _ (HSE.out _ b8') (fun hHeld=> ?_);clear hK K;try simp only [Act.put,sZa,sZb,sZc]
     refine tZ 5 47 ?_;have o0:=O8.c0;have of:=O8.f 0;have X9:=((HX6.out.below b8' HX6.out.lt).setFar t (.slice (some ⟨g8,0,none⟩) ((LA j).length+1) c8) HXN.out);have HX9:=hid (⟨X9.c0,X9.c1,X9.c2,X9.c3,X9.c4⟩:(w8.setCell ⟨t,0,none⟩ (.slice (some ⟨g8,0,none⟩) ((LA j).length+1) c8)).cell? ⟨wr.heap.size,0,none⟩=some (.slice (some ⟨pb,po,none⟩) yp.length pc)/\ (w8.setCell ⟨t,0,none⟩ (.slice (some ⟨g8,0,none⟩) ((LA j).length+1) c8)).cell? ⟨wr.heap.size,1,none⟩=some (.bool yf)/\ (w8.setCell ⟨t,0,none⟩ (.slice (some ⟨g8,0,none⟩) ((LA j).length+1) c8)).cell? ⟨wr.heap.size,2,none⟩=some (.int .i64 yr)/\ (w8.setCell ⟨t,0,none⟩ (.slice (some ⟨g8,0,none⟩) ((LA j).length+1) c8)).cell? ⟨wr.heap.size,3,none⟩=some (.int .i64 yq)/\ (w8.setCell ⟨t,0,none⟩ (.slice (some ⟨g8,0,none⟩) ((LA j).length+1) c8)).cell? ⟨wr.heap.size,4,none⟩=some (.string yv));clear O8 X9;refine cZ 6 ?_;intro K hK;go_simp;refine hK.out _ _ HX9.out (fun hHeld=> ?_);clear hK K;try simp only [Act.put,sZa,sZb,sZc]
     refine wpAnyH_done (by kernel_rfl) ?_ _;clear hHeld b7 b7' b8 b8' l8 hg8 o0 of HCP HPU HLF HSE HX9;go_wp2_with fail;go_roundw;case rel=>exact⟨j+1,g8,c8,P8,Q8,hlt,by go_num,HJ8⟩
     case measure=>simp [intOf];omega
   ·have e0:¬(0:Int)<=fi:=fun h=>hmem (HFI.out.1 h);have hh:=hid (fun w7 (b7:Below w6.heap.size w6 w7)=>l2Has x' n' d' R' F' T' yr yq w7 (by omega) ((H4.out.below HS6.out.low).below b7));have y2:=HX6.out.c2;have y3:=HX6.out.c3;have z1:=HS6.out.b.c1;go_wp2_with fail;refine(hh.out w6 (Below.refl _ _)).mono ?_;rintro e w7 ⟨rfl,b7⟩;have HS7:=hid (HS6.out.below b7);have HX7:=hid (HX6.out.below b7 HX6.out.lt);have HB7:=hid (keepS HB6.out b7);clear b7 y2 y3 z1 hh HS6 HX6 HB6;have HS6:=HS7;have HX6:=HX7;have HB6:=HB7;clear HS7 HX7 HB7;obtain⟨w66,hw66⟩:∃w66,w66=w6:=⟨_,rfl⟩;subst hw66;obtain⟨w6,hw6⟩:∃w6,w6=w7:=⟨_,rfl⟩;subst hw6;cases hh:hasK R' F' T' yr yq yq n' with
    | false=>
     have HYE:Hid (insL ⟨yp,yf,yr,yq,yv⟩ (LA j)=LA (j+1)):=hid (by rw [HQA.out.yes j hlt (by rw [HY.out];exact .inr (fun h=>by unfold hasX at h;rw [hh] at h;cases h)),HY.out]);clear hh hmem;have HSE:Hid (∀w',Below w6.heap.size w6 w' ->(w'.cell? ⟨wr.heap.size,0,none⟩=some (.slice (some ⟨pb,po,none⟩) yp.length pc)/\ w'.cell? ⟨wr.heap.size,1,none⟩=some (.bool yf)/\ w'.cell? ⟨wr.heap.size,2,none⟩=some (.int .i64 yr)/\ w'.cell? ⟨wr.heap.size,3,none⟩=some (.int .i64 yq)/\ w'.cell? ⟨wr.heap.size,4,none⟩=some (.string yv))):=hid (fun w' b=>by
      have X:=HX6.out.below b HX6.out.lt;exact⟨X.c0,X.c1,X.c2,X.c3,X.c4⟩)
     have HLF:Hid (∀w',Below w6.heap.size w6 w' ->Calls Tryz.prog 35 #[.agg #[.slice (some ⟨pb,po,none⟩) yp.length pc,.bool yf,.int .i64 yr,.int .i64 yq,.string yv]] w' fun e w''=>∃q cap,e=.returned (.agg #[.slice (some ⟨q,0,none⟩) yp.length cap,.bool yf,.int .i64 yr,.int .i64 yq,.string yv])/\ Below w'.heap.size w' w''/\ w'.heap.size<=q/\ q<w''.heap.size/\ Wr w'' q 9 yp.length (fun t=> .string (gS yp t))/\ yp.length<=cap/\ cap<=9223372036854775807):=hid (fun w' b=>by
      obtain⟨pb1,po1,e,hlt1,hc1⟩:=((HSG.out.below HB6.out).below b).resolve_left (by have:=HYL.out.1;omega);injection e with e;injection e with e1 e2;subst e1;subst e2;exact l3LeafB pb po yp.length pc ⟨yp,yf,yr,yq,yv⟩ w' rfl (by have:=HYL.out.2;omega) hlt1 hc1)
     have HPU:Hid (∀w7 q cap,Below w6.heap.size w6 w7 ->w6.heap.size<=q ->q<w7.heap.size ->Wr w7 q 9 yp.length (fun t=> .string (gS yp t)) ->yp.length<=cap/\ cap<=9223372036854775807 ->Calls Tryz.prog 34 #[.slice (some ⟨g,0,none⟩) (LA j).length c,.agg #[.slice (some ⟨q,0,none⟩) yp.length cap,.bool yf,.int .i64 yr,.int .i64 yq,.string yv]] w7 fun e w'=>(∃g' cap' P' Q',e=.returned (.slice (some ⟨g',0,none⟩) ((LA j).length+1) cap')/\ w7.heap.size<=g'/\ LC w' w.heap.size (.slice (some ⟨g',0,none⟩) ((LA j).length+1) cap') (LA (j+1)) P' Q')/\ Below w7.heap.size w7 w'):=hid (fun w7 q cap b7 hq1 hq2 hw hcap=>by
      have hJ:=HS6.out.below b7;have hs:=hJ.low.size;have hs6:=HS6.out.low.size;rw [<- HYE.out];exact l3PutC g c (LA j) P Q w7 w.heap.size q cap yp yf yr yq yv hJ.lc hs (by have h1:=HQA.out.len j (by omega);have h2:=HLN.out;omega) (fun i hi=>by have:=(HQA.out.pth j (by omega) i hi).2;omega) (by have:=HYL.out.2;omega) ⟨by omega,hq2⟩ hw hcap)
     have HNL:Hid ((LA j).length+1=(LA (j+1)).length):=hid (by rw [<- HYE.out,insL_len]);have HXN:Hid (wr.heap.size≠t):=hid (fun e=>by
      have h1:=HX6.out.c1;rw [e,HS6.out.o.c1] at h1;cases h1)
     have t0:=(HS6.out.o.below (Below.refl _ _).drew HS6.out.o.lt).c0;go_wp2_with fail;refine wp_region_held_drew (S:=fun w'=>w'.cell? ⟨wr.heap.size,0,none⟩=some (.slice (some ⟨pb,po,none⟩) yp.length pc)/\ w'.cell? ⟨wr.heap.size,1,none⟩=some (.bool yf)/\ w'.cell? ⟨wr.heap.size,2,none⟩=some (.int .i64 yr)/\ w'.cell? ⟨wr.heap.size,3,none⟩=some (.int .i64 yq)/\ w'.cell? ⟨wr.heap.size,4,none⟩=some (.string yv)) (by kernel_rfl) (HSE.out _ (Below.refl _ _).drew) (fun hHeld=> ?_);refine tZ 0 42 ?_;refine tZ 2 44 ?_;refine ready2t (i:=1) (j:=3) (d:=some 43) (d':=some 45) (by kernel_rfl) (by kernel_rfl) (by kernel_rfl) ?_ ?_
     ·
      intro o ho hod K hK;simp only [gZa,gZb,gZc,gZd] at ho;subst ho;go_simp;refine hK.out _ _ (HSE.out _ (Below.refl _ _).drew) (fun hHeld=> ?_);clear hK K;try simp only [Act.put,sZa,sZb,sZc]
      clear t0;refine cZ 3 ?_;intro K hK;go_simp;refine(HLF.out _ (Below.refl _ _).drew).mono ?_;rintro e w7 ⟨q7,cap7,rfl,b7,hq71,hq72,hw7,hcap7⟩;have b7':Below w6.heap.size w6 w7:=⟨b7.os,b7.tape,b7.output,b7.size,b7.block⟩;refine hK.out _ _ (HSE.out _ b7') (fun hHeld=> ?_);clear hK K;try simp only [Act.put,sZa,sZb,sZc]
      have HCP:=hid (HPU.out w7 q7 cap7 b7' hq71 hq72 hw7 hcap7);clear hw7 hcap7 hq71 hq72;refine cZ 4 ?_;intro K hK;go_simp;refine HCP.out.mono ?_;rintro e w8 ⟨⟨g8,c8,P8,Q8,rfl,hg8,l8⟩,b8⟩;have b8':=keepS b7' b8;have HJ8:=hid (HS6.out.set b8' l8 HNL.out (by have:=b7'.size;omega) (fun i hi=>(HQA.out.pth (j+1) hlt i hi).1));have O8:=HS6.out.o.below b8' HS6.out.o.lt;refine hK.out _ _ (HSE.out _ b8') (fun hHeld=> ?_);clear hK K;try simp only [Act.put,sZa,sZb,sZc]
      refine tZ 5 47 ?_;have o0:=O8.c0;have of:=O8.f 0;have X9:=((HX6.out.below b8' HX6.out.lt).setFar t (.slice (some ⟨g8,0,none⟩) ((LA j).length+1) c8) HXN.out);have HX9:=hid (⟨X9.c0,X9.c1,X9.c2,X9.c3,X9.c4⟩:(w8.setCell ⟨t,0,none⟩ (.slice (some ⟨g8,0,none⟩) ((LA j).length+1) c8)).cell? ⟨wr.heap.size,0,none⟩=some (.slice (some ⟨pb,po,none⟩) yp.length pc)/\ (w8.setCell ⟨t,0,none⟩ (.slice (some ⟨g8,0,none⟩) ((LA j).length+1) c8)).cell? ⟨wr.heap.size,1,none⟩=some (.bool yf)/\ (w8.setCell ⟨t,0,none⟩ (.slice (some ⟨g8,0,none⟩) ((LA j).length+1) c8)).cell? ⟨wr.heap.size,2,none⟩=some (.int .i64 yr)/\ (w8.setCell ⟨t,0,none⟩ (.slice (some ⟨g8,0,none⟩) ((LA j).length+1) c8)).cell? ⟨wr.heap.size,3,none⟩=some (.int .i64 yq)/\ (w8.setCell ⟨t,0,none⟩ (.slice (some ⟨g8,0,none⟩) ((LA j).length+1) c8)).cell? ⟨wr.heap.size,4,none⟩=some (.string yv));clear O8 X9;refine cZ 6 ?_;intro K hK;go_simp;refine hK.out _ _ HX9.out (fun hHeld=> ?_);clear hK K;try simp only [Act.put,sZa,sZb,sZc]
      refine wpAnyH_done (by kernel_rfl) ?_ _;clear hHeld b7 b7' b8 b8' l8 hg8 o0 of HCP HPU HLF HSE HX9;go_wp2_with fail;go_roundw;case rel=>exact⟨j+1,g8,c8,P8,Q8,hlt,by go_num,HJ8⟩
      case measure=>simp [intOf];omega
     ·
      clear t0;intro o ho hod K hK;simp only [gZa,gZb,gZc,gZd] at ho;subst ho;go_simp;refine(HLF.out _ (Below.refl _ _).drew).mono ?_;rintro e w7 ⟨q7,cap7,rfl,b7,hq71,hq72,hw7,hcap7⟩;have b7':Below w6.heap.size w6 w7:=⟨b7.os,b7.tape,b7.output,b7.size,b7.block⟩;refine hK.out _ _ (HSE.out _ b7') (fun hHeld=> ?_);clear hK K;try simp only [Act.put,sZa,sZb,sZc]
      have t0:=(HS6.out.o.below b7' HS6.out.o.lt).c0;refine cZ 1 ?_;intro K hK;go_simp;refine hK.out _ _ (HSE.out _ b7') (fun hHeld=> ?_);clear hK K;try simp only [Act.put,sZa,sZb,sZc]
      clear t0;have HCP:=hid (HPU.out w7 q7 cap7 b7' hq71 hq72 hw7 hcap7);clear hw7 hcap7 hq71 hq72;refine cZ 4 ?_;intro K hK;go_simp;refine HCP.out.mono ?_;rintro e w8 ⟨⟨g8,c8,P8,Q8,rfl,hg8,l8⟩,b8⟩;have b8':=keepS b7' b8;have HJ8:=hid (HS6.out.set b8' l8 HNL.out (by have:=b7'.size;omega) (fun i hi=>(HQA.out.pth (j+1) hlt i hi).1));have O8:=HS6.out.o.below b8' HS6.out.o.lt;refine hK.out _ _ (HSE.out _ b8') (fun hHeld=> ?_);clear hK K;try simp only [Act.put,sZa,sZb,sZc]
      refine tZ 5 47 ?_;have o0:=O8.c0;have of:=O8.f 0;have X9:=((HX6.out.below b8' HX6.out.lt).setFar t (.slice (some ⟨g8,0,none⟩) ((LA j).length+1) c8) HXN.out);have HX9:=hid (⟨X9.c0,X9.c1,X9.c2,X9.c3,X9.c4⟩:(w8.setCell ⟨t,0,none⟩ (.slice (some ⟨g8,0,none⟩) ((LA j).length+1) c8)).cell? ⟨wr.heap.size,0,none⟩=some (.slice (some ⟨pb,po,none⟩) yp.length pc)/\ (w8.setCell ⟨t,0,none⟩ (.slice (some ⟨g8,0,none⟩) ((LA j).length+1) c8)).cell? ⟨wr.heap.size,1,none⟩=some (.bool yf)/\ (w8.setCell ⟨t,0,none⟩ (.slice (some ⟨g8,0,none⟩) ((LA j).length+1) c8)).cell? ⟨wr.heap.size,2,none⟩=some (.int .i64 yr)/\ (w8.setCell ⟨t,0,none⟩ (.slice (some ⟨g8,0,none⟩) ((LA j).length+1) c8)).cell? ⟨wr.heap.size,3,none⟩=some (.int .i64 yq)/\ (w8.setCell ⟨t,0,none⟩ (.slice (some ⟨g8,0,none⟩) ((LA j).length+1) c8)).cell? ⟨wr.heap.size,4,none⟩=some (.string yv));clear O8 X9;refine cZ 6 ?_;intro K hK;go_simp;refine hK.out _ _ HX9.out (fun hHeld=> ?_);clear hK K;try simp only [Act.put,sZa,sZb,sZc]
      refine wpAnyH_done (by kernel_rfl) ?_ _;clear hHeld b7 b7' b8 b8' l8 hg8 o0 of HCP HPU HLF HSE HX9;go_wp2_with fail;go_roundw;case rel=>exact⟨j+1,g8,c8,P8,Q8,hlt,by go_num,HJ8⟩
      case measure=>simp [intOf];omega
    | true=>
     have HS8:Hid (JS w w6 t (.slice (some ⟨ab,ao,none⟩) la.length ca) (.slice xa n d) (.slice b lb.length cb) (.slice x' n' d') g c (.slice ra ul.length rc) (LA (j+1)) ul P Q):=hid (by
      rw [HQA.out.no j hlt (by rw [HY.out];exact fun h=>h.elim hmem (fun h=>h hh))];exact HS6.out)
     clear hh hmem;go_wp2_with fail;go_roundw;case rel=>exact⟨j+1,g,c,P,Q,hlt,by go_num,HS8⟩
     case measure=>simp [intOf];omega
  ·obtain rfl:j=la.length:=by omega
   have HJS2:Hid (JS w wr t (.slice a la.length ca) (.slice xa n d) (.slice b lb.length cb) (.slice x' n' d') g c (.slice ra ul.length rc) (LB 0) ul P Q):=hid (by rw [HB00.out];exact HS.out);clear HS;go_wp2_with fail;clear a0;try go_frame
   go_loopw [8] (fun i wr=>∃(j g c:Nat) (P Q:Nat ->Nat),j<=lb.length/\ i=.int .i64 j/\ Hid (JS w wr t (.slice a la.length ca) (.slice xa n d) (.slice b lb.length cb) (.slice x' n' d') g c (.slice ra ul.length rc) (LB j) ul P Q)) (fun i _=>lb.length - (intOf i).toNat);case atStart=>exact⟨0,_,_,_,_,Nat.zero_le _,rfl,HJS2⟩
   case round=>
    clear HJS2;obtain⟨j,g,c,P,Q,hj,rfl,HS⟩:=hrel;have a0:=HS.out.b.c0;by_cases hlt:j<lb.length
    ·have i1:(0:Int)<=(j:Int):=Int.natCast_nonneg _;have i2:(j:Int)<(lb.length:Int):=by omega
     obtain⟨ab,ao,rfl,hab,hcs⟩:=(H2.out.below HS.out.low).resolve_left (by omega);obtain⟨pa,pc,⟨c0,d0⟩,sg,c1,c2,c3,c4⟩:=hcs j hlt;obtain⟨pb,po,rfl,hpb,hpc⟩:=sg.resolve_left (by have:=(HPB.out j hlt).1;omega);have hyl:=HPB.out j hlt;obtain⟨y,hy⟩:∃y,gL lb j=y:=⟨_,rfl⟩;rw [hy] at c0 c1 c2 c3 c4 d0 hpc hyl;have HY:=hid hy;obtain⟨yp,yf,yr,yq,yv⟩:=y;dsimp only at c0 c1 c2 c3 c4 d0 hpc hyl;obtain⟨w5,hw5⟩:∃w5,wr.alloc (.cells #[.slice (some ⟨pb,po,none⟩) yp.length pc,.bool yf,.int .i64 yr,.int .i64 yq,.string yv] 65)=w5:=⟨_,rfl⟩;have b5:Below wr.heap.size wr w5:=by rw [<- hw5];exact(Below.refl _ _).alloc (Nat.le_refl _) _
     have X5:Bx5 w5 wr.heap.size (.slice (some ⟨pb,po,none⟩) yp.length pc) (.bool yf) (.int .i64 yr) (.int .i64 yq) (.string yv):=by rw [<- hw5];exact Bx5.new _ _ _ _ _ _ _
     have HS5:=hid (HS.out.below b5);have HX5:=hid X5;have HD0:=hid d0;have HYL:=hid hyl;have HSG:Hid (SSeg w5 (some ⟨pb,po,none⟩) yp):=hid (.inr ⟨pb,po,rfl,Nat.lt_of_lt_of_le hpb b5.size,fun i hi=>(b5.cell (p:=⟨pb,po+i,none⟩) hpb).trans (hpc i hi)⟩);have x0:=X5.c0;have x1:=X5.c1;have x2:=X5.c2;have x3:=X5.c3;have x4:=X5.c4;clear hy hcs sg hpc hpb hab b5 X5 d0 hyl HS;have hh:=hid (fun w7 (b7:Below w5.heap.size w5 w7)=>l2Has xa n d R F T yr yq w7 (by omega) ((H3.out.below HS5.out.low).below b7));have z1:=HS5.out.a.c1;go_wp2_with fail;refine(hh.out w5 (Below.refl _ _)).mono ?_;rintro e w6 ⟨rfl,b6⟩;have HS6:=hid (HS5.out.below b6);have HX6:=hid (HX5.out.below b6 HX5.out.lt);have HB6:=hid b6;clear z1 hh b6 x0 x1 x2 x3 x4 a0 c0 c1 c2 c3 c4 hw5;cases hh:hasK R F T yr yq yq n with
     | false=>
      have HYE:Hid (insL ⟨yp,yf,yr,yq,yv⟩ (LB j)=LB (j+1)):=hid (by rw [HQB.out.yes j hlt (by rw [HY.out];exact fun h=>by unfold hasX at h;rw [hh] at h;cases h),HY.out]);clear hh;have HSE:Hid (∀w',Below w6.heap.size w6 w' ->(w'.cell? ⟨wr.heap.size,0,none⟩=some (.slice (some ⟨pb,po,none⟩) yp.length pc)/\ w'.cell? ⟨wr.heap.size,1,none⟩=some (.bool yf)/\ w'.cell? ⟨wr.heap.size,2,none⟩=some (.int .i64 yr)/\ w'.cell? ⟨wr.heap.size,3,none⟩=some (.int .i64 yq)/\ w'.cell? ⟨wr.heap.size,4,none⟩=some (.string yv))):=hid (fun w' b=>by
       have X:=HX6.out.below b HX6.out.lt;exact⟨X.c0,X.c1,X.c2,X.c3,X.c4⟩)
      have HLF:Hid (∀w',Below w6.heap.size w6 w' ->Calls Tryz.prog 35 #[.agg #[.slice (some ⟨pb,po,none⟩) yp.length pc,.bool yf,.int .i64 yr,.int .i64 yq,.string yv]] w' fun e w''=>∃q cap,e=.returned (.agg #[.slice (some ⟨q,0,none⟩) yp.length cap,.bool yf,.int .i64 yr,.int .i64 yq,.string yv])/\ Below w'.heap.size w' w''/\ w'.heap.size<=q/\ q<w''.heap.size/\ Wr w'' q 9 yp.length (fun t=> .string (gS yp t))/\ yp.length<=cap/\ cap<=9223372036854775807):=hid (fun w' b=>by
       obtain⟨pb1,po1,e,hlt1,hc1⟩:=((HSG.out.below HB6.out).below b).resolve_left (by have:=HYL.out.1;omega);injection e with e;injection e with e1 e2;subst e1;subst e2;exact l3LeafB pb po yp.length pc ⟨yp,yf,yr,yq,yv⟩ w' rfl (by have:=HYL.out.2;omega) hlt1 hc1)
      have HPU:Hid (∀w7 q cap,Below w6.heap.size w6 w7 ->w6.heap.size<=q ->q<w7.heap.size ->Wr w7 q 9 yp.length (fun t=> .string (gS yp t)) ->yp.length<=cap/\ cap<=9223372036854775807 ->Calls Tryz.prog 34 #[.slice (some ⟨g,0,none⟩) (LB j).length c,.agg #[.slice (some ⟨q,0,none⟩) yp.length cap,.bool yf,.int .i64 yr,.int .i64 yq,.string yv]] w7 fun e w'=>(∃g' cap' P' Q',e=.returned (.slice (some ⟨g',0,none⟩) ((LB j).length+1) cap')/\ w7.heap.size<=g'/\ LC w' w.heap.size (.slice (some ⟨g',0,none⟩) ((LB j).length+1) cap') (LB (j+1)) P' Q')/\ Below w7.heap.size w7 w'):=hid (fun w7 q cap b7 hq1 hq2 hw hcap=>by
       have hJ:=HS6.out.below b7;have hs:=hJ.low.size;have hs6:=HS6.out.low.size;rw [<- HYE.out];exact l3PutC g c (LB j) P Q w7 w.heap.size q cap yp yf yr yq yv hJ.lc hs (by have h1:=HQB.out.len j (by omega);have h2:=HLN.out;omega) (fun i hi=>by have:=(HQB.out.pth j (by omega) i hi).2;omega) (by have:=HYL.out.2;omega) ⟨by omega,hq2⟩ hw hcap)
      have HNL:Hid ((LB j).length+1=(LB (j+1)).length):=hid (by rw [<- HYE.out,insL_len]);have HXN:Hid (wr.heap.size≠t):=hid (fun e=>by
       have h1:=HX6.out.c1;rw [e,HS6.out.o.c1] at h1;cases h1)
      have t0:=(HS6.out.o.below (Below.refl _ _).drew HS6.out.o.lt).c0;go_wp2_with fail;refine wp_region_held_drew (S:=fun w'=>w'.cell? ⟨wr.heap.size,0,none⟩=some (.slice (some ⟨pb,po,none⟩) yp.length pc)/\ w'.cell? ⟨wr.heap.size,1,none⟩=some (.bool yf)/\ w'.cell? ⟨wr.heap.size,2,none⟩=some (.int .i64 yr)/\ w'.cell? ⟨wr.heap.size,3,none⟩=some (.int .i64 yq)/\ w'.cell? ⟨wr.heap.size,4,none⟩=some (.string yv)) (by kernel_rfl) (HSE.out _ (Below.refl _ _).drew) (fun hHeld=> ?_);refine tZ 0 66 ?_;refine tZ 2 68 ?_;refine ready2t (i:=1) (j:=3) (d:=some 67) (d':=some 69) (by kernel_rfl) (by kernel_rfl) (by kernel_rfl) ?_ ?_
      ·
       intro o ho hod K hK;simp only [gZa,gZb,gZc,gZd] at ho;subst ho;go_simp;refine hK.out _ _ (HSE.out _ (Below.refl _ _).drew) (fun hHeld=> ?_);clear hK K;try simp only [Act.put,sZa,sZb,sZc]
       clear t0;refine cZ 3 ?_;intro K hK;go_simp;refine(HLF.out _ (Below.refl _ _).drew).mono ?_;rintro e w7 ⟨q7,cap7,rfl,b7,hq71,hq72,hw7,hcap7⟩;have b7':Below w6.heap.size w6 w7:=⟨b7.os,b7.tape,b7.output,b7.size,b7.block⟩;refine hK.out _ _ (HSE.out _ b7') (fun hHeld=> ?_);clear hK K;try simp only [Act.put,sZa,sZb,sZc]
       have HCP:=hid (HPU.out w7 q7 cap7 b7' hq71 hq72 hw7 hcap7);clear hw7 hcap7 hq71 hq72;refine cZ 4 ?_;intro K hK;go_simp;refine HCP.out.mono ?_;rintro e w8 ⟨⟨g8,c8,P8,Q8,rfl,hg8,l8⟩,b8⟩;have b8':=keepS b7' b8;have HJ8:=hid (HS6.out.set b8' l8 HNL.out (by have:=b7'.size;omega) (fun i hi=>(HQB.out.pth (j+1) hlt i hi).1));have O8:=HS6.out.o.below b8' HS6.out.o.lt;refine hK.out _ _ (HSE.out _ b8') (fun hHeld=> ?_);clear hK K;try simp only [Act.put,sZa,sZb,sZc]
       refine tZ 5 71 ?_;have o0:=O8.c0;have of:=O8.f 0;have X9:=((HX6.out.below b8' HX6.out.lt).setFar t (.slice (some ⟨g8,0,none⟩) ((LB j).length+1) c8) HXN.out);have HX9:=hid (⟨X9.c0,X9.c1,X9.c2,X9.c3,X9.c4⟩:(w8.setCell ⟨t,0,none⟩ (.slice (some ⟨g8,0,none⟩) ((LB j).length+1) c8)).cell? ⟨wr.heap.size,0,none⟩=some (.slice (some ⟨pb,po,none⟩) yp.length pc)/\ (w8.setCell ⟨t,0,none⟩ (.slice (some ⟨g8,0,none⟩) ((LB j).length+1) c8)).cell? ⟨wr.heap.size,1,none⟩=some (.bool yf)/\ (w8.setCell ⟨t,0,none⟩ (.slice (some ⟨g8,0,none⟩) ((LB j).length+1) c8)).cell? ⟨wr.heap.size,2,none⟩=some (.int .i64 yr)/\ (w8.setCell ⟨t,0,none⟩ (.slice (some ⟨g8,0,none⟩) ((LB j).length+1) c8)).cell? ⟨wr.heap.size,3,none⟩=some (.int .i64 yq)/\ (w8.setCell ⟨t,0,none⟩ (.slice (some ⟨g8,0,none⟩) ((LB j).length+1) c8)).cell? ⟨wr.heap.size,4,none⟩=some (.string yv));clear O8 X9;refine cZ 6 ?_;intro K hK;go_simp;refine hK.out _ _ HX9.out (fun hHeld=> ?_);clear hK K;try simp only [Act.put,sZa,sZb,sZc]
       refine wpAnyH_done (by kernel_rfl) ?_ _;clear hHeld b7 b7' b8 b8' l8 hg8 o0 of HCP HPU HLF HSE HX9;go_wp2_with fail;go_roundw;case rel=>exact⟨j+1,g8,c8,P8,Q8,hlt,by go_num,HJ8⟩
       case measure=>simp [intOf];omega
      ·
       clear t0;intro o ho hod K hK;simp only [gZa,gZb,gZc,gZd] at ho;subst ho;go_simp;refine(HLF.out _ (Below.refl _ _).drew).mono ?_;rintro e w7 ⟨q7,cap7,rfl,b7,hq71,hq72,hw7,hcap7⟩;have b7':Below w6.heap.size w6 w7:=⟨b7.os,b7.tape,b7.output,b7.size,b7.block⟩;refine hK.out _ _ (HSE.out _ b7') (fun hHeld=> ?_);clear hK K;try simp only [Act.put,sZa,sZb,sZc]
       have t0:=(HS6.out.o.below b7' HS6.out.o.lt).c0;refine cZ 1 ?_;intro K hK;go_simp;refine hK.out _ _ (HSE.out _ b7') (fun hHeld=> ?_);clear hK K;try simp only [Act.put,sZa,sZb,sZc]
       clear t0;have HCP:=hid (HPU.out w7 q7 cap7 b7' hq71 hq72 hw7 hcap7);clear hw7 hcap7 hq71 hq72;refine cZ 4 ?_;intro K hK;go_simp;refine HCP.out.mono ?_;rintro e w8 ⟨⟨g8,c8,P8,Q8,rfl,hg8,l8⟩,b8⟩;have b8':=keepS b7' b8;have HJ8:=hid (HS6.out.set b8' l8 HNL.out (by have:=b7'.size;omega) (fun i hi=>(HQB.out.pth (j+1) hlt i hi).1));have O8:=HS6.out.o.below b8' HS6.out.o.lt;refine hK.out _ _ (HSE.out _ b8') (fun hHeld=> ?_);clear hK K;try simp only [Act.put,sZa,sZb,sZc]
       refine tZ 5 71 ?_;have o0:=O8.c0;have of:=O8.f 0;have X9:=((HX6.out.below b8' HX6.out.lt).setFar t (.slice (some ⟨g8,0,none⟩) ((LB j).length+1) c8) HXN.out);have HX9:=hid (⟨X9.c0,X9.c1,X9.c2,X9.c3,X9.c4⟩:(w8.setCell ⟨t,0,none⟩ (.slice (some ⟨g8,0,none⟩) ((LB j).length+1) c8)).cell? ⟨wr.heap.size,0,none⟩=some (.slice (some ⟨pb,po,none⟩) yp.length pc)/\ (w8.setCell ⟨t,0,none⟩ (.slice (some ⟨g8,0,none⟩) ((LB j).length+1) c8)).cell? ⟨wr.heap.size,1,none⟩=some (.bool yf)/\ (w8.setCell ⟨t,0,none⟩ (.slice (some ⟨g8,0,none⟩) ((LB j).length+1) c8)).cell? ⟨wr.heap.size,2,none⟩=some (.int .i64 yr)/\ (w8.setCell ⟨t,0,none⟩ (.slice (some ⟨g8,0,none⟩) ((LB j).length+1) c8)).cell? ⟨wr.heap.size,3,none⟩=some (.int .i64 yq)/\ (w8.setCell ⟨t,0,none⟩ (.slice (some ⟨g8,0,none⟩) ((LB j).length+1) c8)).cell? ⟨wr.heap.size,4,none⟩=some (.string yv));clear O8 X9;refine cZ 6 ?_;intro K hK;go_simp;refine hK.out _ _ HX9.out (fun hHeld=> ?_);clear hK K;try simp only [Act.put,sZa,sZb,sZc]
       refine wpAnyH_done (by kernel_rfl) ?_ _;clear hHeld b7 b7' b8 b8' l8 hg8 o0 of HCP HPU HLF HSE HX9;go_wp2_with fail;go_roundw;case rel=>exact⟨j+1,g8,c8,P8,Q8,hlt,by go_num,HJ8⟩
       case measure=>simp [intOf];omega
     | true=>
      have HS8:Hid (JS w w6 t (.slice a la.length ca) (.slice xa n d) (.slice (some ⟨ab,ao,none⟩) lb.length cb) (.slice x' n' d') g c (.slice ra ul.length rc) (LB (j+1)) ul P Q):=hid (by
       rw [HQB.out.no j hlt (by rw [HY.out];exact fun h=>h hh)];exact HS6.out)
      clear hh;go_wp2_with fail;go_roundw;case rel=>exact⟨j+1,g,c,P,Q,hlt,by go_num,HS8⟩
      case measure=>simp [intOf];omega
    ·obtain rfl:j=lb.length:=by omega
     rw [HJE.out] at HS;have o0:=HS.out.o.c0;have o1:=HS.out.o.c1;have r0:=HS.out.r.c0;have r1:=HS.out.r.c1;have f0:=HS.out.r.f 0;have f1:=HS.out.r.f 1;have HC:=hid (HS.out.r.set (.slice (some ⟨g,0,none⟩) J.length c) (.slice ra ul.length rc));go_wp2_with fail;have s0:=HC.out.c0;have s1:=HC.out.c1;have hP:∀i,i<J.length ->P i≠w.heap.size+1+1:=fun i hi e=>by
      have hp:=HQB.out.pth lb.length (Nat.le_refl _);rw [HJE.out] at hp;have hw:=(HS.out.lc.pt i hi).2.2.2.1.cell (i:=0) (by have:=(hp i hi).1;omega);rw [e,HS.out.r.c0] at hw;cases hw
     have hgn:(Value.slice (some ⟨g,0,none⟩) J.length c).ownBlock≠some (w.heap.size+1+1):=fun e=>by have h1:=own_eq e;have h2:=HS.out.hg;omega
     have hvn:(Value.slice ra ul.length rc).ownBlock≠some (w.heap.size+1+1):=fun e=>by have:=HS.out.hv2 _ e;omega
     refine bodyPost_ret (v:=.agg #[.slice (some ⟨g,0,none⟩) J.length c,.slice ra ul.length rc]) (by simp [results,Tryz.results14,go_sem,s0,s1]) rfl ⟨⟨g,c,ra,rc,P,Q,by rw [HUL.out],?_,?_⟩,?_⟩
     ·exact(HS.out.lc.set _ _ hgn hP).set _ _ hgn hP
     ·rw [HUL.out];exact(HS.out.fr.setFar _ _ hvn).setFar _ _ hvn
     ·exact(HS.out.low.setCell (by simp;omega) _).setCell (by simp;omega) _
def jnU (S S':Sx):List Rn:=unL S.R S.F S.T S.n S'.R S'.F S'.T S'.n
noncomputable def jnS (S S':Sx):Sx:=⟨jn S.R S.F S.T S.n S.l S'.R S'.F S'.T S'.n S'.l,(jnU S S').length,fun i=>(gR (jnU S S') i).1,fun i=>(gR (jnU S S') i).2.1,fun i=>(gR (jnU S S') i).2.2⟩
noncomputable def stB (S:Sx):Bool:=yes (StOk S.R S.F S.T S.n S.l)
noncomputable def jnF (S S':Sx):Bool:=decide ((jnS S S').l.length<=1000) && decide ((jnS S S').n<=1000)
noncomputable def jnB (S S':Sx):Bool:=stB S && stB S' && jnF S S'
def Sx.mt:Sx:=⟨[],0,fun _=>0,fun _=>0,fun _=>0⟩
noncomputable def jnZ (S S':Sx):Sx:=if jnB S S' then jnS S S' else Sx.mt
theorem stB_t {S:Sx}(h:stB S=true):StOk S.R S.F S.T S.n S.l:=Classical.byContradiction fun hn=>by unfold stB at h;rw [yes_f hn] at h;cases h
theorem stB_f {S:Sx}(h:stB S=false):¬StOk S.R S.F S.T S.n S.l:=fun hn=>by unfold stB at h;rw [yes_t hn] at h;cases h
theorem jnZ_t {S S':Sx}(h:jnB S S'=true):jnZ S S'=jnS S S':=by unfold jnZ;rw [if_pos h]
theorem jnZ_f {S S':Sx}(h:jnB S S'=false):jnZ S S'=Sx.mt:=by unfold jnZ;rw [if_neg (by rw [h];simp)]
def SNc (w:World)(lo:Nat)(a x:Option Addr)(S:Sx):Prop:=∀w':World,w.heap.size<=w'.heap.size ->(∀q,lo<=q ->q<w.heap.size ->w'.heap[q]? =w.heap[q]?) ->LCap w' a S.l/\ RSeg w' x S.n S.R S.F S.T
theorem SNc.at {w:World}{lo:Nat}{a x:Option Addr}{S:Sx}(h:SNc w lo a x S):LCap w a S.l/\ RSeg w x S.n S.R S.F S.T:=h w (Nat.le_refl _) (fun _ _ _=>rfl)
theorem SNc.move {w w1:World}{lo lo':Nat}{a x:Option Addr}{S:Sx}(h:SNc w lo a x S)(hl:lo'<=lo)(hs:w.heap.size<=w1.heap.size)(hq:∀q,lo<=q ->q<w.heap.size ->w1.heap[q]? =w.heap[q]?):SNc w1 lo' a x S:=
 fun w' h1 h2=>h w' (Nat.le_trans hs h1) (fun q h3 h4=>(h2 q (Nat.le_trans hl h3) (Nat.lt_of_lt_of_le h4 hs)).trans (hq q h3 h4))
theorem SNc.below {w w1:World}{lo:Nat}{a x:Option Addr}{S:Sx}(h:SNc w lo a x S)(hb:Below w.heap.size w w1):SNc w1 lo a x S:=h.move (Nat.le_refl _) hb.size (fun q _ h2=>hb.block q h2)
theorem SNc.mt (w:World)(lo:Nat)(a x:Option Addr):SNc w lo a x Sx.mt:=fun w' _ _=>⟨.inl rfl,.inl rfl⟩
theorem LC.lcap {w:World}{lo g n c:Nat}{l:List Lf}{P Q:Nat ->Nat}(h:LC w lo (.slice (some ⟨g,0,none⟩) n c) l P Q)(hn:n=l.length):LCap w (some ⟨g,0,none⟩) l:=by
 refine .inr ⟨g,0,rfl,(h.lt g rfl).2,fun i hi=> ?_⟩;obtain⟨c0,c1,c2,c3,c4⟩:=h.cell hn hi;refine⟨some ⟨P i,0,none⟩,Q i,⟨?_,(h.pt i hi).2.2.2.2⟩,h.seg hi,?_,?_,?_,?_⟩
 ·rw [Nat.zero_add];exact c0
 ·rw [Nat.zero_add];exact c1
 ·rw [Nat.zero_add];exact c2
 ·rw [Nat.zero_add];exact c3
 ·rw [Nat.zero_add];exact c4
theorem jn_at {w:World}{lo g c:Nat}{ra:Option Addr}{rc:Nat}{S S':Sx}{P Q:Nat ->Nat}(h:LC w lo (.slice (some ⟨g,0,none⟩) (jnS S S').l.length c) (jnS S S').l P Q)(hf:FR w lo (.slice ra (jnU S S').length rc) (jnU S S')):SNc w lo (some ⟨g,0,none⟩) ra (jnS S S'):=fun w' h1 h2=>by
 have hL:=h.move h1 h2;have hF:FR w' lo (.slice ra (jnU S S').length rc) (jnU S S'):=own_at5 hf (fun q hq=>h2 q (World.ownsRow.lt hf q hq).1 (World.ownsRow.lt hf q hq).2);obtain⟨a,c',e,s,_,_⟩:=hF.fs;injection e with e1 e2 e3;subst e1;exact⟨hL.lcap rfl,s.rseg⟩
theorem ok_pth {S:Sx}(h:StOk S.R S.F S.T S.n S.l):∀i,i<S.l.length ->1<=(gL S.l i).p.length/\ (gL S.l i).p.length<=8:=fun i hi=>by
 have:=(h.2.2.1 i hi).1;exact⟨this.1.1,this.1.2.1⟩
theorem jn_len {S S':Sx}(hs:StW S.R S.F S.T S.n S.l)(hs':StW S'.R S'.F S'.T S'.n S'.l):(jnS S S').l.length<=2000/\ (jnU S S').length<=4000:=by
 have h1:=hs.2.1;have h2:=hs'.2.1;have hc:=hs.1;have hc':=hs'.1;constructor
 ·have e:(jnS S S').l=putL (fun x=>¬hasX S.R S.F S.T S.n x) S'.l (putL (fun x=>x∈S'.l \/¬hasX S'.R S'.F S'.T S'.n x) S.l [] S.l.length) S'.l.length:=rfl;rw [e];have q1:=putL_len (P:=fun x=>¬hasX S.R S.F S.T S.n x) (ls:=S'.l) (out:=putL (fun x=>x∈S'.l \/¬hasX S'.R S'.F S'.T S'.n x) S.l [] S.l.length) S'.l.length;have q2:=putL_len (P:=fun x=>x∈S'.l \/¬hasX S'.R S'.F S'.T S'.n x) (ls:=S.l) (out:=[]) S.l.length;simp at q2;omega
 ·have:=unF_len (flat S'.R S'.F S'.T S'.n) (flat S.R S.F S.T S.n);rw [flatR_len,flatR_len] at this;show (unF (flat S.R S.F S.T S.n) (flat S'.R S'.F S'.T S'.n)).length<=4000;omega
theorem l3FitsC (a x:Option Addr)(m n c d:Nat)(w:World)(hm:m<=1048576)(hn:n<=1048576):Calls Tryz.prog 15 #[.agg #[.slice a m c,.slice x n d]] w fun e w'=>e=.returned (.bool (decide (m<=1000) && decide (n<=1000)))/\ Below w.heap.size w w':=by
 obtain⟨W,hW⟩:∃W,w.alloc (.cells #[.slice a m c,.slice x n d] 28)=W:=⟨_,rfl⟩;have b0:Below w.heap.size w W:=by rw [<- hW];exact(Below.refl _ _).alloc (Nat.le_refl _) _
 have X0:Bx2 W w.heap.size (.slice a m c) (.slice x n d):=by rw [<- hW];exact Bx2.made _ _ _ _
 have HB:=hid b0;have k0:=X0.c0;have k1:=X0.c1;have HE:Hid (∀b:Bool,(b=true↔m<=1000/\ n<=1000) ->(decide (m<=1000) && decide (n<=1000))=b):=hid (fun b hb=>by
  cases b with
  | true=>have:=hb.1 rfl;simp [this.1,this.2]
  | false=>
   cases h:(decide (m<=1000) && decide (n<=1000)) with
   | false=>rfl
   | true=>exact absurd (hb.2 (by simpa using h)) (by simp))
 obtain⟨B,hB⟩:∃B,(decide (m<=1000) && decide (n<=1000))=B:=⟨_,rfl⟩;rw [hB] at HE ⊢;clear b0 X0 hB;by_cases h1:m<=1000
 ·have i1:(m:Int)<=1000:=by omega
  by_cases h2:n<=1000
  ·have i2:(n:Int)<=1000:=by omega
   have HG:=hid (HE.out true ⟨fun _=>⟨h1,h2⟩,fun _=>rfl⟩);clear HE;go_enter Tryz.func15,Tryz.ntmps15;go_wp2_with fail;try rw [hW]
   go_ret;exact⟨ret_b HG.out.symm,HB.out⟩
  ·have i2:¬(n:Int)<=1000:=by omega
   have HG:=hid (HE.out false ⟨fun h=>by simp at h,fun h=>absurd h.2 h2⟩);clear HE;go_enter Tryz.func15,Tryz.ntmps15;go_wp2_with fail;try rw [hW]
   go_ret;exact⟨ret_b HG.out.symm,HB.out⟩
 ·have i1:¬(m:Int)<=1000:=by omega
  have HG:=hid (HE.out false ⟨fun h=>by simp at h,fun h=>absurd h.1 h1⟩);clear HE;go_enter Tryz.func15,Tryz.ntmps15;go_wp2_with fail;try rw [hW]
  go_ret;exact⟨ret_b HG.out.symm,HB.out⟩
theorem specJoinK (sa sx ta tx:Option Addr)(c d c' d':Nat)(S S':Sx)(w:World)(hm:S.Sm)(hm':S'.Sm)(h:SCt w sa sx S)(h':SCt w ta tx S'):
  Calls Tryz.prog 5 #[.agg #[.slice sa S.l.length c,.slice sx S.n d],.agg #[.slice ta S'.l.length c',.slice tx S'.n d']] w fun e w'=>∃a m x t,e=.returned (.tuple #[.agg #[.slice a (jnZ S S').l.length m,.slice x (jnZ S S').n t],.bool (jnB S S')])/\ SNc w' w.heap.size a x (jnZ S S')/\ Below w.heap.size w w'/\ (jnZ S S').l.length<=m/\ m<=9223372036854775807:=by
 obtain⟨W,hW⟩:∃W,((w.alloc (.cells #[.slice sa S.l.length c,.slice sx S.n d] 28)).alloc (.cells #[.slice ta S'.l.length c',.slice tx S'.n d'] 28)).alloc (.cells #[.slice none 0 0,.slice none 0 0] 28)=W:=⟨_,rfl⟩;have b0:Below w.heap.size w W:=by rw [<- hW];exact(below2 _ _ _).alloc (by simp;omega) _
 have A0:Bx2 W w.heap.size (.slice sa S.l.length c) (.slice sx S.n d):=by rw [<- hW];exact((Bx2.made w _ _ _).allocs _).allocs _
 have B0:Bx2 W (w.heap.size+1) (.slice ta S'.l.length c') (.slice tx S'.n d'):=by
  rw [<- hW];have:=Bx2.made (w.alloc (.cells #[.slice sa S.l.length c,.slice sx S.n d] 28)) (.slice ta S'.l.length c') (.slice tx S'.n d') 28;exact(by simpa using this:Bx2 _ (w.heap.size+1) _ _).allocs _
 have R0:Bx2 W (w.heap.size+1+1) (.slice none 0 0) (.slice none 0 0):=by
  rw [<- hW];simpa using Bx2.made ((w.alloc (.cells #[.slice sa S.l.length c,.slice sx S.n d] 28)).alloc (.cells #[.slice ta S'.l.length c',.slice tx S'.n d'] 28)) (.slice none 0 0) (.slice none 0 0) 28
 have zW:W.heap.size=w.heap.size+3:=by rw [<- hW];simp
 have HS:=hid (h.below b0);have HS':=hid (h'.below b0);have HOK:=hid (specStateOk sa c S.l sx S.n d S.R S.F S.T W hm.l1 hm.p1 hm.n1 HS.out.lf HS.out.rn);have HOK':=hid (fun w1 (b1:Below W.heap.size W w1)=>specStateOk ta c' S'.l tx S'.n d' S'.R S'.F S'.T w1 hm'.l1 hm'.p1 hm'.n1 (HS'.out.below b1).lf (HS'.out.below b1).rn);have HA0:=hid A0;have HBB:=hid B0;have HR0:=hid R0;have HB0:=hid b0;have HZW:=hid zW;have k0:=A0.c0;have k1:=A0.c1;change Hid (Calls _ _ _ _ fun e w'=>e=.returned (.bool (stB S))/\ _) at HOK;obtain⟨B,hB⟩:∃B,stB S=B:=⟨_,rfl⟩;obtain⟨B',hB'⟩:∃B,stB S'=B:=⟨_,rfl⟩;have HSB:=hid hB;have HSB':=hid hB';have HOK2:Hid (∀w1,Below W.heap.size W w1 ->Calls Tryz.prog 13 #[.agg #[.slice ta S'.l.length c',.slice tx S'.n d']] w1 fun e w'=>e=.returned (.bool B')/\ Below w1.heap.size w1 w'):=hid (fun w1 b1=>by rw [<- hB'];exact HOK'.out w1 b1);rw [hB] at HOK;clear b0 A0 B0 R0 zW h h' hB hB' HOK';go_enter Tryz.func5,Tryz.ntmps5;go_wp2_with fail;try rw [hW]
 clear hW;refine HOK.out.mono ?_;rintro e w1 ⟨rfl,b1⟩;have HB1:=hid (HB0.out.trans (b1.mono HB0.out.size));have HW1:=hid b1;have HR1:=hid (HR0.out.below b1 HR0.out.lt);clear k0 k1 HOK;cases B with
 | false=>
  have HZ:Hid (jnB S S'=false/\ jnZ S S'=Sx.mt):=hid (by
   have e:jnB S S'=false:=by unfold jnB;rw [HSB.out];rfl
   exact⟨e,jnZ_f e⟩)
  clear b1;have r0:=HR1.out.c0;have r1:=HR1.out.c1;have f0:=HR1.out.f 0;have f1:=HR1.out.f 1;have HC:=hid (HR1.out.set (.slice none 0 0) (.slice none 0 0));go_wp2_with fail;have s0:=HC.out.c0;have s1:=HC.out.c1;refine bodyPost_ret (v:=.tuple #[.agg #[.slice none 0 0,.slice none 0 0],.bool false]) (by simp [results,Tryz.results5,go_sem,s0,s1]) rfl ⟨none,0,none,0,by rw [HZ.out.1,HZ.out.2];rfl,?_,?_⟩
  ·rw [HZ.out.2];exact SNc.mt _ _ _ _
  ·exact⟨(HB1.out.setCell (by simp;omega) _).setCell (by simp;omega) _,by rw [HZ.out.2];exact⟨Nat.le_refl _,by omega⟩⟩
 | true=>
  have l0:=(HBB.out.below b1 HBB.out.lt).c0;have l1:=(HBB.out.below b1 HBB.out.lt).c1;clear b1;go_wp2_with fail;refine(HOK2.out w1 HW1.out).mono ?_;rintro e w2 ⟨rfl,b2⟩;have HB2:=hid (HB1.out.trans (b2.mono HB1.out.size));have HW2:=hid (keepS HW1.out b2);have HR2:=hid (HR1.out.below b2 HR1.out.lt);clear b2 l0 l1 HOK2;cases B' with
  | false=>
   have HZ:Hid (jnB S S'=false/\ jnZ S S'=Sx.mt):=hid (by
    have e:jnB S S'=false:=by unfold jnB;rw [HSB'.out];simp
    exact⟨e,jnZ_f e⟩)
   have r0:=HR2.out.c0;have r1:=HR2.out.c1;have f0:=HR2.out.f 0;have f1:=HR2.out.f 1;have HC:=hid (HR2.out.set (.slice none 0 0) (.slice none 0 0));go_wp2_with fail;have s0:=HC.out.c0;have s1:=HC.out.c1;refine bodyPost_ret (v:=.tuple #[.agg #[.slice none 0 0,.slice none 0 0],.bool false]) (by simp [results,Tryz.results5,go_sem,s0,s1]) rfl ⟨none,0,none,0,by rw [HZ.out.1,HZ.out.2];rfl,?_,?_⟩
   ·rw [HZ.out.2];exact SNc.mt _ _ _ _
   ·exact⟨(HB2.out.setCell (by simp;omega) _).setCell (by simp;omega) _,by rw [HZ.out.2];exact⟨Nat.le_refl _,by omega⟩⟩
  | true=>
   have hs:=stB_t HSB.out;have hs':=stB_t HSB'.out;have hc:=ctxB_iff.1 hs.1;have hc':=ctxB_iff.1 hs'.1;have HS2:=HS.out.below HW2.out;have HS2':=HS'.out.below HW2.out;have HJN:=hid (l3JoinC sa ta c c' S.l S'.l sx S.n d S.R S.F S.T tx S'.n d' S'.R S'.F S'.T w2 hc.2 hc'.2 hc.1 hc'.1 hs.2.1 hs'.2.1 (ok_pth hs) (ok_pth hs') HS2.lf HS2'.lf HS2.rn HS2'.rn);have HLE:Hid ((jnS S S').l.length<=2000/\ (jnU S S').length<=4000):=hid (jn_len hs.w hs'.w);have l0:=(HA0.out.below HW2.out HA0.out.lt).c0;have l1:=(HA0.out.below HW2.out HA0.out.lt).c1;have l2:=(HBB.out.below HW2.out HBB.out.lt).c0;have l3:=(HBB.out.below HW2.out HBB.out.lt).c1;have HJE:Hid (jn S.R S.F S.T S.n S.l S'.R S'.F S'.T S'.n S'.l=(jnS S S').l/\ unL S.R S.F S.T S.n S'.R S'.F S'.T S'.n=jnU S S'):=hid ⟨rfl,rfl⟩;rw [HJE.out.1,HJE.out.2] at HJN;obtain⟨JL,hJL⟩:∃JL,(jnS S S').l.length=JL:=⟨_,rfl⟩;obtain⟨JU,hJU⟩:∃JU,(jnU S S').length=JU:=⟨_,rfl⟩;rw [hJL,hJU] at HJN HLE;have HJL:=hid hJL;have HJU:=hid hJU;clear hs hs' hc hc' HS2 HS2' hJL hJU HJE;go_wp2_with fail;refine HJN.out.mono ?_;rintro e w3 ⟨⟨jg,jc,ra,rc,P,Q,rfl,jl,jf⟩,b3⟩;obtain⟨w4,hw4⟩:∃w4,w3.alloc (.cells #[.slice (some ⟨jg,0,none⟩) JL jc,.slice ra JU rc] 28)=w4:=⟨_,rfl⟩;have b4:Below w3.heap.size w3 w4:=by rw [<- hw4];exact(Below.refl _ _).alloc (Nat.le_refl _) _
   have X4:Bx2 w4 w3.heap.size (.slice (some ⟨jg,0,none⟩) JL jc) (.slice ra JU rc):=by rw [<- hw4];exact Bx2.made _ _ _ _
   have HN4:Hid (SNc w4 w2.heap.size (some ⟨jg,0,none⟩) ra (jnS S S')):=hid (SNc.below (jn_at (by rw [HJL.out];exact jl) (by rw [HJU.out];exact jf)) b4);have HB4:=hid (HB2.out.trans ((keepS b3 b4).mono HB2.out.size));have HR4:=hid (HR2.out.below (keepS b3 b4) HR2.out.lt);have HFT:=hid (l3FitsC (some ⟨jg,0,none⟩) ra JL JU jc rc w4 (by have:=HLE.out;omega) (by have:=HLE.out;omega));have HX4:=hid X4;have HZ2:Hid (w.heap.size+3<=w2.heap.size):=hid (by have h1:=HZW.out;have h2:=HW2.out.size;omega);have x0:=X4.c0;have x1:=X4.c1;have HFE:Hid ((decide (JL<=1000) && decide (JU<=1000))=jnF S S'):=hid (by rw [<- HJL.out,<- HJU.out];rfl);rw [HFE.out] at HFT;obtain⟨B,hB⟩:∃B,jnF S S'=B:=⟨_,rfl⟩;have HJF:=hid hB;rw [hB] at HFT;have HCP:Hid (JL<=jc/\ jc<=9223372036854775807):=hid (by
    rcases jl.row.2 with ⟨e,_⟩|⟨g,cap,cur,e,_,_,hnc,hcm,_⟩
    ·cases e
    ·injection e with e1 e2 e3;rw [e3,e2];exact⟨hnc,by unfold maxLen at hcm;omega⟩)
   clear jl jf b3 b4 X4 l0 l1 l2 l3 hB HFE;go_wp2_with fail;try rw [hw4]
   clear hw4;refine HFT.out.mono ?_;rintro e w5 ⟨rfl,b5⟩;have HB5:=hid (HB4.out.trans (b5.mono HB4.out.size));have HR5:=hid (HR4.out.below b5 HR4.out.lt);have HX5:=hid (HX4.out.below b5 HX4.out.lt);have HN5:=hid (HN4.out.below b5);clear x0 x1 b5;cases B with
   | false=>
    have HZ:Hid (jnB S S'=false/\ jnZ S S'=Sx.mt):=hid (by
     have e:jnB S S'=false:=by unfold jnB;rw [HJF.out];simp
     exact⟨e,jnZ_f e⟩)
    have r0:=HR5.out.c0;have r1:=HR5.out.c1;have f0:=HR5.out.f 0;have f1:=HR5.out.f 1;have HC:=hid (HR5.out.set (.slice none 0 0) (.slice none 0 0));go_wp2_with fail;have s0:=HC.out.c0;have s1:=HC.out.c1;refine bodyPost_ret (v:=.tuple #[.agg #[.slice none 0 0,.slice none 0 0],.bool false]) (by simp [results,Tryz.results5,go_sem,s0,s1]) rfl ⟨none,0,none,0,by rw [HZ.out.1,HZ.out.2];rfl,?_,?_⟩
    ·rw [HZ.out.2];exact SNc.mt _ _ _ _
    ·exact⟨(HB5.out.setCell (by simp;omega) _).setCell (by simp;omega) _,by rw [HZ.out.2];exact⟨Nat.le_refl _,by omega⟩⟩
   | true=>
    have HZ:Hid (jnB S S'=true/\ jnZ S S'=jnS S S'):=hid (by
     have e:jnB S S'=true:=by unfold jnB;rw [HJF.out,HSB.out,HSB'.out];rfl
     exact⟨e,jnZ_t e⟩)
    have r0:=HR5.out.c0;have r1:=HR5.out.c1;have f0:=HR5.out.f 0;have f1:=HR5.out.f 1;have x0:=HX5.out.c0;have x1:=HX5.out.c1;have HC:=hid (HR5.out.set (.slice (some ⟨jg,0,none⟩) JL jc) (.slice ra JU rc));go_wp2_with fail;have s0:=HC.out.c0;have s1:=HC.out.c1;refine bodyPost_ret (v:=.tuple #[.agg #[.slice (some ⟨jg,0,none⟩) JL jc,.slice ra JU rc],.bool true]) (by simp [results,Tryz.results5,go_sem,s0,s1]) rfl ⟨some ⟨jg,0,none⟩,jc,ra,rc,by rw [HZ.out.1,HZ.out.2,HJL.out,show (jnS S S').n=JU from HJU.out],?_,?_⟩
    ·rw [HZ.out.2];exact HN5.out.move (by have:=HZ2.out;omega) (by simp [World.setCell]) (fun q h1 h2=>by
      have:=HZ2.out;rw [Below.heap_setCell _ _ _ _ (by simp;omega),Below.heap_setCell _ _ _ _ (by simp;omega)])
    ·exact⟨(HB5.out.setCell (by simp;omega) _).setCell (by simp;omega) _,by rw [HZ.out.2,HJL.out];exact HCP.out⟩
theorem specJoinC (sa sx ta tx:Option Addr)(c d c' d':Nat)(S S':Sx)(w:World)(hm:S.Sm)(hm':S'.Sm)(h:SCt w sa sx S)(h':SCt w ta tx S'):
  Calls Tryz.prog 5 #[.agg #[.slice sa S.l.length c,.slice sx S.n d],.agg #[.slice ta S'.l.length c',.slice tx S'.n d']] w fun e w'=>∃a m x t,e=.returned (.tuple #[.agg #[.slice a (jnZ S S').l.length m,.slice x (jnZ S S').n t],.bool (jnB S S')])/\ SNc w' w.heap.size a x (jnZ S S')/\ Below w.heap.size w w':=
 (specJoinK sa sx ta tx c d c' d' S S' w hm hm' h h').mono fun e w' ⟨a,m,x,t,h1,h2,h3,_⟩=>⟨a,m,x,t,h1,h2,h3⟩
end Go.Proofs.YtpfmeafmepgimaaGreat
namespace Go.Proofs.YtpfmeafmepgimaaGreat
open Go.ChangeShapes Go.WideShapes Go.ChangeAt Go.RowKit Go.Maps
theorem jhas_at (R F T:Nat ->Int)(r f t:Int):∀n,hasK R F T r f t n=true ->∃k,k<n/\ R k=r/\ F k<=f/\ t<=T k
 | 0,h=>by simp [hasK] at h
 | n+1,h=>by
  simp only [hasK,Bool.or_eq_true,decide_eq_true_eq] at h;rcases h with h|h
  ·obtain⟨k,hk,r⟩:=jhas_at R F T r f t n h;exact⟨k,by omega,r⟩
  ·exact⟨n,by omega,h⟩
theorem st_bd {R F T:Nat ->Int}{n:Nat}{l:List Lf}(h:StW R F T n l):∀x∈l,(0<=x.r/\ x.r<8)/\ (0<=x.q/\ x.q<=1000000000)/\ x.v.size<=200/\ x.p.length<=8:=fun x hx=>by
 obtain⟨i,hi,e⟩:=gL_mem.1 hx;have hok:=h.1.1;obtain⟨k,hk,e1,e2,e3⟩:=jhas_at R F T _ _ _ n (h.2.2.1 i hi).2.1;have:=(hok k hk).1;simp only [runOkB,Bool.and_eq_true,decide_eq_true_eq] at this;have h4:=(h.2.2.1 i hi).1;have h5:=h4.1.2.1;have h6:=h4.2.1;rw [e] at e1 e2 e3 h5 h6;exact⟨by omega,by omega,h6,h5⟩
theorem jn_bd {S S':Sx}(h:StW S.R S.F S.T S.n S.l)(h':StW S'.R S'.F S'.T S'.n S'.l):∀x∈(jnS S S').l,(0<=x.r/\ x.r<8)/\ (0<=x.q/\ x.q<=1000000000)/\ x.v.size<=200/\ x.p.length<=8:=fun x hx=>by
 rcases jn_from x hx with h1|h1
 ·exact st_bd h x h1
 ·exact st_bd h' x h1.1
theorem gL_far {l:List Lf}{i:Nat}(h:¬i<l.length):(gL l i).p=[]:=by simp [gL,List.getD,h]
theorem jnZ_sm (S S':Sx):(jnZ S S').Sm:=by
 cases hb:jnB S S' with
 | false=>rw [jnZ_f hb];exact⟨by simp [Sx.mt],fun i=>by simp [Sx.mt,gL],by simp [Sx.mt]⟩
 | true=>
  rw [jnZ_t hb];have h1:=hb;unfold jnB at h1;simp only [Bool.and_eq_true] at h1;obtain⟨⟨h1,h2⟩,h3⟩:=h1;unfold jnF at h3;simp only [Bool.and_eq_true,decide_eq_true_eq] at h3;refine⟨by omega,fun i=> ?_,by omega⟩;by_cases hi:i<(jnS S S').l.length
  ·have:=(jn_bd (stB_t h1).w (stB_t h2).w _ (gL_mem.2 ⟨i,hi,rfl⟩)).2.2.2;omega
  ·rw [gL_far hi];simp
def EqS (A B:Sx):Prop:=A.l=B.l/\ A.n=B.n/\∀i,i<A.n ->A.R i=B.R i/\ A.F i=B.F i/\ A.T i=B.T i
noncomputable def amB (S S':Sx):Bool:=jnB S S' && yes (EqS (jnZ S S') S')
end Go.Proofs.YtpfmeafmepgimaaGreat
