import Derived.Test.YtdeolligikjieaaGreatDoorFkg07
import Derived.Shelf.SlSortCmp.WholeK
import Derived.Lib.SlicesCompact
set_option linter.unusedVariables false
set_option linter.unusedSimpArgs false
set_option maxRecDepth 100000
set_option maxHeartbeats 40000000
namespace Go.Proofs.YtdeolligikjieaaGreatDoor
open Go.ChangeShapes Go.WideShapes Go.ChangeAt Go.RowKit Go.Maps
theorem Qft (w:World):(zeroValue 45).run Tryz.prog w=.ok (Qdg none) w:=by kernel_rfl
theorem QhI (w:World):(zeroValue 82).run Tryz.prog w=.ok (Qey none) w:=by kernel_rfl
structure PB (w:World)(h:Nat)(x:Nat×Nat)(r q:Int)(s:ByteArray):Prop where
 n:Bx2 w h (.map (some x.1)) (.map (some x.2))
 d:Bx2 w (h+1) (.int .i64 r) (.int .i64 q)
 m:Bx1 w (h+2) (.string s)
theorem PB.below {w w':World}{h:Nat}{x:Nat×Nat}{r q:Int}{s:ByteArray}(p:PB w h x r q s)(hb:Below w.heap.size w w'):PB w' h x r q s:=⟨p.n.below hb p.n.lt,p.d.below hb p.d.lt,p.m.below hb p.m.lt⟩
theorem PB.gt {w w':World}{B h:Nat}{x:Nat×Nat}{r q:Int}{s:ByteArray}(p:PB w h x r q s)(hb:Gt B w w'):PB w' h x r q s:=⟨p.n.gt hb,p.d.gt hb,p.m.gt hb⟩
theorem PB.set {w:World}{h:Nat}{x:Nat×Nat}{r q:Int}{s:ByteArray}(p:PB w h x r q s)(y:Nat×Nat):PB ((w.setCell ⟨h,0,none⟩ (.map (some y.1))).setCell ⟨h,1,none⟩ (.map (some y.2))) h y r q s:=
 ⟨p.n.set _ _,(p.d.setAt _ _ (by simp)).setAt _ _ (by simp),(p.m.setAt _ _ (by simp)).setAt _ _ (by simp)⟩
theorem PB.setAt {w:World}{h:Nat}{x:Nat×Nat}{r q:Int}{s:ByteArray}(p:PB w h x r q s)(a:Addr)(u:Value)(ha:h+2<a.block):PB (w.setCell a u) h x r q s:=
 ⟨p.n.setAt _ _ (by omega),p.d.setAt _ _ (by omega),p.m.setAt _ _ (by omega)⟩
theorem Qpp (X:Nat)(p:List ByteArray)(a:Option Addr)(cp:Nat)(k:Int)(r q:Int)(s:ByteArray)(B c:Nat)(N:List Ky ->Option (Nat×Nat))(M:List Ky ->Dt ->Option ByteArray)(x0:Nat×Nat)(w:World)
  (hp:p.length<=1048576) (hs:∀i,(gS p i).size<=1048576) (hk:(Lit.int .i64 k).wf=true) (hr:(Lit.int .i64 r).wf=true) (hq:(Lit.int .i64 q).wf=true) (hc:c<=1073741824) (hB:B<=w.heap.size) (h:QaR w a p) (hT:Tre w B N M c) (h0:N []=some x0) (hX:X<w.heap.size) (hXN:∀z x,N z=some x ->x.1≠X/\ x.2≠X):
  Calls Tryz.prog 32 #[.agg #[.map (some x0.1),.map (some x0.2)],.slice a p.length cp,.int .i64 k,.agg #[.int .i64 r,.int .i64 q],.agg #[.string s]] w fun e w'=>e=.returned (.tuple #[])/\ Gt B w w'/\ w'.heap[X]? =w.heap[X]? /\
   ∃N',Tre w' B N' (QjN M (Qac p k) (r,q) s) (c+p.length+1)/\ N' []=some x0/\∀z,(N' z).isSome=true↔(N z).isSome=true \/z <+:Qac p k:=by
 obtain⟨W,hW⟩:∃W,((w.alloc (.cells #[.map (some x0.1),.map (some x0.2)] 45)).alloc (.cells #[.int .i64 r,.int .i64 q] 67)).alloc (.cells #[.string s] 82)=W:=⟨_,rfl⟩;have b0:Below w.heap.size w W:=by rw [<- hW];exact((zO _ _).alloc (by simp) _).alloc (by simp;omega) _
 have P0:PB W w.heap.size x0 r q s:=by
  have d1:=Bx2.made (w.alloc (.cells #[.map (some x0.1),.map (some x0.2)] 45)) (.int .i64 r) (.int .i64 q) 67;have m1:=Bx1.made ((w.alloc (.cells #[.map (some x0.1),.map (some x0.2)] 45)).alloc (.cells #[.int .i64 r,.int .i64 q] 67)) (.string s) 82;rw [<- hW];exact⟨((Bx2.made w _ _ _).allocs _).allocs _,by simpa using d1.allocs _,by simpa using m1⟩
 have Ge:Hid (W.heap[X]? =w.heap[X]?):=hid (b0.block X hX);have He:=hid hXN;have Gg:=hid hX;have HS:=hid h;have Gb:=hid P0;have Gd:=hid (hT.below b0);have Ga:=hid (Gt.of_below (B:=B) b0);have H0:=hid h0;have HB:=hid hB;have Hs:=hid hs;clear h hT h0 b0 P0 hs hB hX hXN;go_enter Tryz.func32,Tryz.ntmps32;go_wp2_with fail;try rw [hW]
 clear hW;go_loopw [16] (fun i wr=>∃j:Nat,j<=p.length/\ i=.int .i64 j/\ Hid (Gt B w wr)/\ (∃g x,Hid (Tre wr B g M (c+j))/\ Hid (g []=some x0)/\ Hid (g ((Qac p k).take j)=some x)/\ Hid (∀z,(g z).isSome=true↔(N z).isSome=true \/z <+:(Qac p k).take j)/\ Hid (PB wr w.heap.size x r q s)/\ Hid (wr.heap[X]? =w.heap[X]?)/\ Hid (∀z x,g z=some x ->x.1≠X/\ x.2≠X))) (fun i _=>p.length - (intOf i).toNat);case atStart=>
  refine⟨0,Nat.zero_le _,rfl,Ga,N,x0,Gd,H0,hid (by simpa using H0.out),hid (fun z=> ?_),Gb,Ge,He⟩;simp only [List.take_zero,List.prefix_nil];exact⟨fun h=> .inl h,fun h=>h.elim id (fun e=>by rw [e,H0.out];rfl)⟩
 case round=>
  clear Gd Ga Gb Ge He;obtain⟨j,hj,rfl,C,g,x,H,Hz,Q,HI,G,HX,Hq⟩:=hrel;have H6:Hid (X<wr.heap.size):=hid (Nat.lt_of_lt_of_le Gg.out C.size);have Hr:Hid (w.heap.size≠X):=hid (by have:=Gg.out;omega);by_cases Ht:j<p.length
  ·have i1:(0:Int)<=(j:Int):=Int.natCast_nonneg _;have i2:(j:Int)<(p.length:Int):=by omega
   have Hl:=hid (Qkq p a cp k j wr hp Ht (HS.gt C.out));obtain⟨nm,t,T⟩:∃nm t,Qat p k j=(nm,t):=⟨_,_,rfl⟩;have Hx:=hid T;rw [T] at Hl;obtain⟨L,Hf⟩:∃L,keyOf Tryz.prog 88 (Qbs (nm,t))=some L:=by
    unfold Qat at T;have e1:=(Prod.mk.inj T).1;have e2:=(Prod.mk.inj T).2;refine Qhi ?_ ?_
    ·rw [<- e1];have:=Hs j;unfold maxLen;omega
    ·rw [<- e2];split
     ·decide
     ·exact hk
   have Hk:=hid Hf;clear T Hf;dsimp only [Qbs] at Hl;go_wp2_with fail;refine Hl.mono ?_;rintro e w1 ⟨rfl,b1⟩;obtain⟨u,H9⟩:∃u,w1.alloc (.cells #[.string nm,.int .i64 t] 88)=u:=⟨_,rfl⟩;have R:Below wr.heap.size wr u:=by rw [<- H9];exact b1.alloc b1.size _
   have Hj:Bx2 u w1.heap.size (.string nm) (.int .i64 t):=by rw [<- H9];exact Bx2.made _ _ _ _
   have Hn:=G.below R;have Hp:=hid (H.below R);have Hu:=hid (C.keep R);have Gf:Hid (u.heap[X]? =w.heap[X]?):=hid ((R.block X H6.out).trans HX.out);have Hc:Hid (X<u.heap.size):=hid (Nat.lt_of_lt_of_le H6.out R.size);have e0:=Hn.n.c0;have e1:=Hj.c0;have e2:=Hj.c1;have H2:=hid Hn;have Hw:=hid Hj;have Gn:Hid (w.heap.size+2<u.heap.size):=hid Hn.m.lt;have Hg:=(Hp.kids _ x Q.out).look_ok (mt:=42) Qbz Tryz.underlying42 (Qft u) Hk.out;clear Hj Hn b1 R Hl H C G;dsimp only [Qbs] at Hg;have Gj:(Qac p k).take (j+1)=(Qac p k).take j++[(nm,t)]:=by rw [Qda Ht];have:=Hx.out;unfold Qat at this;rw [this]
   have Ho:=hid Gj;clear Gj;cases hNy:g ((Qac p k).take j++[(nm,t)]) with
   | some y=>
    rw [hNy] at Hg;dsimp only [Qdg,Option.isSome] at Hg;have Hm:=hid hNy;clear hNy;obtain⟨E,K⟩:∃E,u.alloc (.cells #[.map (some y.1),.map (some y.2)] 45)=E:=⟨_,rfl⟩;have b3:Below u.heap.size u E:=by rw [<- K];exact zO _ _
    have F:Bx2 E u.heap.size (.map (some y.1)) (.map (some y.2)):=by rw [<- K];exact Bx2.made _ _ _ _
    have g0:=F.c0;have g1:=F.c1;have J:=H2.below b3;have n0:=J.n.c0;have n1:=J.n.c1;have f0:=J.n.f 0;have f1:=J.n.f 1;have D:=hid ((Hp.below b3).set (q:=⟨w.heap.size,0,none⟩) (.map (some y.1)) n0);have Go:=hid (D.set (q:=⟨w.heap.size,1,none⟩) (.map (some y.2)) ((J.n.set0 _).c1));have Hi:=hid (((Hu.keep b3).set ⟨w.heap.size,0,none⟩ (.map (some y.1)) zL).set ⟨w.heap.size,1,none⟩ (.map (some y.2)) zL);have Gm:=hid (J.set y);have Gr:Hid (((E.setCell ⟨w.heap.size,0,none⟩ (.map (some y.1))).setCell ⟨w.heap.size,1,none⟩ (.map (some y.2))).heap[X]? =w.heap[X]?):=hid (by
     rw [zH _ _ _ _ (by exact Hr.symm),zH _ _ _ _ (by exact Hr.symm)];exact(b3.block X Hc.out).trans Gf.out)
    clear b3 F J D;go_wp2_with fail;go_roundw;case rel=>
     refine⟨j+1,Ht,by go_num,Hi,g,y,hid (Go.mono (by omega)),Hz,hid (by rw [Ho.out];exact Hm.out),hid (fun z=> ?_),Gm,Gr,Hq⟩;rw [HI z,QhD Ho.out];constructor
     ·rintro(e|e)
      ·exact .inl e
      ·exact .inr (.inl e)
     ·rintro(e|e|e)
      ·exact .inl e
      ·exact .inr e
      ·exact(HI z).1 (by rw [e,Hm.out];rfl)
    case measure=>simp [intOf];omega
   | none=>
    rw [hNy] at Hg;dsimp only [Qdg,Option.isSome] at Hg;have Hm:=hid hNy;clear hNy;obtain⟨E,K⟩:∃E,u.alloc (.cells #[.map none,.map none] 45)=E:=⟨_,rfl⟩;have b3:Below u.heap.size u E:=by rw [<- K];exact zO _ _
    have F:Bx2 E u.heap.size (.map none) (.map none):=by rw [<- K];exact Bx2.made _ _ _ _
    have Ha:=hid F;have Hb:=hid (Hw.below b3 Hw.lt);have H1:=hid (H2.below b3);have D:=hid (Hp.below b3);have Hi:=hid (Hu.keep b3);have Gw:=hid b3.size;have Gq:Hid (E.heap[X]? =w.heap[X]?):=hid ((b3.block X Hc.out).trans Gf.out);have Hd:Hid (X<E.heap.size):=hid (Nat.lt_of_lt_of_le Hc.out b3.size);have Gp:=hid K;clear b3 F H2 Hp Hu Hw K;go_wp2_with fail;rw [Gp.out];refine(QdN E).mono ?_;rintro e w4 ⟨b,A,rfl,Gu,Gx,Gy,m1,m2,b4⟩;have I:=Ha.below b4 Ha.lt;have g0:=I.c0;have g1:=I.c1;have h0:=I.f 0;have h1:=I.f 1;obtain⟨V,Z⟩:∃V,(w4.setCell ⟨u.heap.size,0,none⟩ (.map (some b))).setCell ⟨u.heap.size,1,none⟩ (.map (some A))=V:=⟨_,rfl⟩;have G0:w1.heap.size<E.heap.size:=Hb.lt;have Gz:=H1.m.lt;have Hh:u.heap.size≠w1.heap.size:=by rw [<- H9];simp
    have H7:PB V w.heap.size x r q s/\ w.heap.size+2<u.heap.size:=by
     have hz:w.heap.size+2<u.heap.size:=Gn.out;rw [<- Z];exact⟨((H1.below b4).setAt _ _ hz).setAt _ _ hz,hz⟩
    have K5:Bx2 V u.heap.size (.map (some b)) (.map (some A)):=by rw [<- Z];exact I.set _ _
    have Y5:Bx2 V w1.heap.size (.string nm) (.int .i64 t):=by rw [<- Z];exact((Hb.below b4 Hb.lt).setAt _ _ Hh).setAt _ _ Hh
    have T5:Tre V B g M (c+j):=by rw [<- Z];exact((D.below b4).set _ g0).set _ (I.set0 _).c1
    have G5:Gt B w V:=by rw [<- Z];exact((Hi.keep b4).set _ _ (by show w.heap.size<=u.heap.size;omega)).set _ _ (by show w.heap.size<=u.heap.size;omega)
    have X5:V.heap[X]? =w.heap[X]? :=by
     have Gl:X≠u.heap.size:=by have:=Hc.out;omega
     rw [<- Z,zH _ _ _ _ Gl,zH _ _ _ _ Gl];exact(b4.block X Hd.out).trans Gq.out
    have Gv:w4.heap.size=V.heap.size:=by rw [<- Z];simp [World.setCell]
    have H5:Hid (∀z x,Qe8 g ((Qac p k).take j++[(nm,t)]) (some (b,A)) z=some x ->x.1≠X/\ x.2≠X):=hid (fun z y hy=>by
     have h3:=Hd.out;by_cases S:z=(Qac p k).take j++[(nm,t)]
     ·rw [S,Qax] at hy;injection hy with hy;subst hy;exact⟨by show b≠X;omega,by show A≠X;omega⟩
     ·rw [Qan _ _ S] at hy;exact Hq z y hy)
    have Gh:b≠u.heap.size:=by intro e;have:=Ha.lt;omega
    have Gi:A≠u.heap.size:=by intro e;have:=Ha.lt;omega
    have M1:QaZ V 88 (α:=Ky) Qbs Qdg b 0 (fun _=>none):=by rw [<- Z];exact(m1.same (zH _ _ _ _ Gh)).same (zH _ _ _ _ Gh)
    have M2:QaZ V 67 (α:=Dt) dtV Qey A 0 (fun _=>none):=by rw [<- Z];exact(m2.same (zH _ _ _ _ Gi)).same (zH _ _ _ _ Gi)
    have o:=H7.1.n.c0;have c2:=Y5.c0;have c3:=Y5.c1;have c4:=K5.c0;have c5:=K5.c1;have HU:Hid (∀v,QaZ v 88 Qbs Qdg x.1 (c+j+1) (Qe8 (fun z=>g ((Qac p k).take j++[z])) (nm,t) (some (b,A))) ->V.grownBy v (some x.1) ->Tre v B (Qe8 g ((Qac p k).take j++[(nm,t)]) (some (b,A))) M (c+j+1)/\ Gt B w v/\ PB v w.heap.size x r q s/\ Bx2 v u.heap.size (.map (some b)) (.map (some A))/\ v.heap[X]? =w.heap[X]?):=hid (fun v Y O=>by
     have Gs:=(T5.lo _ x Q.out).1;have H8:=Gt.grown O Gs (T5.kids _ x Q.out).obj;refine⟨T5.add Q.out Hm.out M1 M2 Gu (fun q z hz=> ?_) ⟨by have:=HB.out;omega,by have:=HB.out;omega⟩ Y O,G5.trans H8,H7.1.gt H8,K5.gt H8,(O.block X (by have:=Hd.out;have:=b4.size;omega) (fun e=>(Hq _ x Q.out).1 (Option.some.inj e).symm)).trans X5⟩;have:=D.lt hz;exact⟨by omega,by omega,by omega,by omega⟩)
    have Hy:=hid (T5.kids _ x Q.out);clear H7 X5 Gv K5 Y5 T5 G5 M1 M2 m1 m2 b4 I Ha Hb H1 D Hi;go_wp2_with (refine Qb2 _ rfl _ _ _ 42 rfl 88 45 Qbz Qbs (fun _ _=>QeZ) Tryz.underlying42 Qdg x.1 (c+j) (fun z=>g ((Qac p k).take j++[z])) rfl Hy.out (by unfold maxLen;omega) (nm,t) (b,A) L rfl rfl Hk.out ?_;intro v Y O;obtain⟨T6,G6,P,K6,X6⟩:=HU v Y O;have H4:=hid X6;clear X6;have H3:=hid T6;have Hv:=hid G6;have Gc:=hid P;have t0:=P.n.c0;have t1:=P.n.c1;have t2:=P.n.f 0;have t3:=P.n.f 1;have t4:=K6.c0;have t5:=K6.c1;clear Y O T6 G6 P K6);go_roundw;case rel=>
     have T7:=(H3.set (q:=⟨w.heap.size,0,none⟩) (.map (some b)) t0).set (q:=⟨w.heap.size,1,none⟩) (.map (some A)) (Gc.n.set0 _).c1;refine⟨j+1,Ht,by go_num,hid ((Hv.set _ _ zL).set _ _ zL),Qe8 g ((Qac p k).take j++[(nm,t)]) (some (b,A)),(b,A),hid T7,hid ?_,hid ?_,hid (fun z=> ?_),hid (Gc.set (b,A)),hid ?_,H5⟩
     ·rw [Qan _ _ (by simp)];exact Hz.out
     ·rw [Ho.out,Qax]
     ·rw [QhD Ho.out];by_cases S:z=(Qac p k).take j++[(nm,t)]
      ·rw [S,Qax];exact⟨fun _=> .inr (.inr rfl),fun _=>rfl⟩
      ·rw [Qan _ _ S,HI.out z];constructor
       ·rintro(h|h)
        ·exact .inl h
        ·exact .inr (.inl h)
       ·rintro(h|h|h)
        ·exact .inl h
        ·exact .inr h
        ·exact absurd h S
     ·rw [zH _ _ _ _ (by exact Hr.symm),zH _ _ _ _ (by exact Hr.symm)];exact H4.out
    case measure=>simp [intOf];omega
  ·obtain rfl:j=p.length:=by omega
   have Gk:(Qac p k).take p.length=Qac p k:=List.take_of_length_le (by rw [QaW];exact Nat.le_refl _);rw [Gk] at Q HI;obtain⟨L,Hf⟩:∃L,keyOf Tryz.prog 67 (dtV (r,q))=some L:=Qd5 hr hq;have Hk:=hid Hf;have U:=G.n.c1;have o:=G.d.c0;have c2:=G.d.c1;have c3:=G.m.c0;have Hy:=hid (H.marks _ x Q.out);have HU:Hid (∀v,QaZ v 67 dtV Qey x.2 (c+p.length+1) (Qe8 (M (Qac p k)) (r,q) (some s)) ->wr.grownBy v (some x.2) ->Tre v B g (QjN M (Qac p k) (r,q) s) (c+p.length+1)/\ Gt B w v/\ v.heap[X]? =w.heap[X]?):=hid (fun v Y O=>
     ⟨H.mark Q.out Y O,C.trans (Gt.grown O (H.lo _ x Q.out).2 (H.marks _ x Q.out).obj),(O.block X H6.out (fun e=>(Hq _ x Q.out).2 (Option.some.inj e).symm)).trans HX.out⟩)
   clear Gk Hf H C G;go_wp2_with (refine Qb2 _ rfl _ _ _ 43 rfl 67 82 QaD dtV (fun _ _=>Qgm) Tryz.underlying43 Qey x.2 (c+p.length) (M (Qac p k)) rfl Hy.out (by unfold maxLen;omega) (r,q) s L rfl rfl Hk.out ?_;intro v Y O;obtain⟨T6,G6,X6⟩:=HU v Y O;have H4:=hid X6;clear X6;have H3:=hid T6;have Hv:=hid G6;clear Y O T6 G6);go_end0;exact⟨rfl,Hv.out,H4.out,g,H3.out,Hz.out,HI.out⟩
theorem QjL.below {w w1:World}{bm k:Nat}{l:List Lf}{D:DataW Value}(h:QjL w bm k l D)(hb:Below w.heap.size w w1):QjL w1 bm k l D:=
 ⟨h.own.kept ⟨hb.os,hb.tape,hb.output,hb.size,fun k hk _=>hb.block k hk⟩ (by simp:some bm≠none),h.tidy,h.has',h.le,h.eq⟩
def QmP (R F T:Nat ->Int)(n:Nat)(l:List Lf):Prop:=l.length<=1000/\ QbQ R F T n l l.length/\ Dis l l.length
theorem Qhl (a:Option Addr)(c:Nat)(l:List Lf)(bm n:Nat)(M:DataW Value)(G:Int ->Value)(R F T:Nat ->Int)(w:World)(hn:l.length<=1048576)(hp:LBd l)(hi:∀i,LfI (gL l i))(h:Qf1 w a l)
  (hG:QaY w bm n M G (Lk R F T n)) (hs:∀r,Srt (Lk R F T n r)) (hl:∀r,(Lk R F T n r).length<=1000000):
  Calls Tryz.prog 65 #[.slice a l.length c,.map (some bm)] w fun e w'=>e=.returned (.bool (yes (QmP R F T n l)))/\ Below w.heap.size w w':=by
 have Gi:=@run_makeMap Tryz.prog;obtain⟨Y,hY⟩:∃Y,yes (QmP R F T n l)=Y:=⟨_,rfl⟩;have HY:=hid hY;rw [hY];clear hY;have HL:=hid h;have HG:=hid hG;clear h hG;by_cases Hq:(1000:Int)<(l.length:Int)
 ·have d0:decide ((1000:Int)<(l.length:Int))=true:=by simpa using Hq
  have HF:Hid (Y=false):=hid (by rw [<- HY.out];exact Qaj (fun h=>by have:=h.1;omega));go_enter Tryz.func65,Tryz.ntmps65;go_wp2_with fail;go_ret;exact⟨Qa3 HF.symm,zI⟩
 ·have d0:decide ((1000:Int)<(l.length:Int))=false:=by simpa using Hq
  go_enter Tryz.func65,Tryz.ntmps65;go_wp2_with fail;clear d0;have Ga:=hid (QjL.made w l);have H7:Hid (Below w.heap.size w (w.alloc (.map #[] 0))):=hid (zO _ _);go_loopw [14] (fun i wr=>∃k:Nat,k<=l.length/\ i=.int .i64 k/\ Hid (Below w.heap.size w wr)/\ (∃D,Hid (QjL wr w.heap.size k l D))/\ Hid (QbQ R F T n l k)) (fun i _=>l.length - (intOf i).toNat);case atStart=>exact⟨0,Nat.zero_le _,rfl,H7,⟨_,Ga⟩,hid (fun i hi=>by omega)⟩
  case round=>
   clear Ga H7 Gi;obtain⟨k,hk,rfl,V,⟨D,Hn⟩,HI⟩:=hrel;by_cases Ht:k<l.length
   ·rcases HL.out with h|⟨b,off,rfl,hb,hc⟩
    ·omega
    obtain⟨E,pc,c0,s,c1,c2,c3,c4⟩:=hc k Ht;have x0:=(V.cell (p:=⟨b,off+k*5,none⟩) hb).trans c0;have x1:=(V.cell (p:=⟨b,off+k*5+1,none⟩) hb).trans c1;have x2:=(V.cell (p:=⟨b,off+k*5+2,none⟩) hb).trans c2;have x3:=(V.cell (p:=⟨b,off+k*5+3,none⟩) hb).trans c3;have x4:=(V.cell (p:=⟨b,off+k*5+4,none⟩) hb).trans c4;have HS:=hid (s.below V.out);have i1:(0:Int)<=(k:Int):=Int.natCast_nonneg _;have i2:(k:Int)<(l.length:Int):=by omega
    have Gf:=hid hc;have zr:w.heap.size<=wr.heap.size:=V.size;have Hk:=hi k;clear hc c0 c1 c2 c3 c4 s;obtain⟨y,hy⟩:∃y,gL l k=y:=⟨_,rfl⟩;have Hu:=hp k;rw [hy] at HS x0 x1 x2 x3 x4 Hu Hk;have J:=hid hy;clear hy;obtain⟨p,fl,r,q,v⟩:=y;dsimp only [LfI] at HS x0 x1 x2 x3 x4 Hu Hk;go_wp2_with fail;obtain⟨m,Hs⟩:∃m,wr.alloc (.cells #[.slice E p.length pc,.bool fl,.int .i64 r,.int .i64 q,.string v] 69)=m:=⟨_,rfl⟩;have b2:Below wr.heap.size wr m:=by rw [<- Hs];exact zO _ _
    have P:Bx5 m wr.heap.size (.slice E p.length pc) (.bool fl) (.int .i64 r) (.int .i64 q) (.string v):=by rw [<- Hs];exact⟨by simp,by simp,by simp,by simp,by simp,fun i=>by simp,by simp⟩
    have y0:=P.c0;have y1:=P.c1;have L:=P.c2;have N:=P.c3;have y4:=P.c4;have z:=P.lt;have Hd:=hid b2;have O:=hid (V.trans (b2.mono V.size));have Gb:=hid (HS.below b2);have Gg:=hid (HG.below O.out);rw [Hs];clear Hs b2 P x0 x1 x2 x3 x4 HS;have B:Hid (¬(QbV ⟨p,fl,r,q,v⟩/\ Qco R F T r q q n=true/\ (0<k ->QaG (gL l (k - 1)) ⟨p,fl,r,q,v⟩<0)) ->Y=false):=hid (fun no=>by
     rw [<- HY.out];exact Qaj (fun h=>no (by have:=h.2.1 k Ht;rw [J.out] at this;exact this)))
    obtain⟨Y1,H3⟩:∃Y1,yes (QbV ⟨p,fl,r,q,v⟩)=Y1:=⟨_,rfl⟩;have H2:=hid H3;have Ho:Hid (∀W,Below m.heap.size m W ->Calls Tryz.prog 89 #[.agg #[.slice E p.length pc,.bool fl,.int .i64 r,.int .i64 q,.string v]] W fun e w'=>e=.returned (.bool Y1)/\ Below W.heap.size W w'):=hid (fun W hB=>by rw [<- H3];exact Qn6 E pc p fl r q v W Hu (Gb.below hB));obtain⟨A,hA⟩:∃A,Qco R F T r q q n=A:=⟨_,rfl⟩;have HA:=hid hA;have Hr:Hid (∀W,Below m.heap.size m W ->Calls Tryz.prog 90 #[.map (some bm),.agg #[.int .i64 r,.int .i64 q]] W fun e w'=>e=.returned (.bool A)/\ Below W.heap.size W w'):=hid (fun W hB=>by rw [<- hA,<- Qgu];exact Qpj (Gg.below hB) r q Hk.1 (hs r) (hl r));clear H3 hA;cases Y1 with
    | false=>
     have g:Hid (∀w',Below m.heap.size m w' ->(Below m.heap.size m w'/\ w'.cell? ⟨wr.heap.size,0,none⟩=some (.slice E p.length pc)/\ w'.cell? ⟨wr.heap.size,1,none⟩=some (.bool fl)/\ w'.cell? ⟨wr.heap.size,2,none⟩=some (.int .i64 r)/\ w'.cell? ⟨wr.heap.size,3,none⟩=some (.int .i64 q)/\ w'.cell? ⟨wr.heap.size,4,none⟩=some (.string v))):=hid (fun w' hB=>⟨hB,(hB.cell (p:=⟨wr.heap.size,0,none⟩) z).trans y0,(hB.cell (p:=⟨wr.heap.size,1,none⟩) z).trans y1,(hB.cell (p:=⟨wr.heap.size,2,none⟩) z).trans L,(hB.cell (p:=⟨wr.heap.size,3,none⟩) z).trans N,(hB.cell (p:=⟨wr.heap.size,4,none⟩) z).trans y4⟩);refine zR (S:=fun w'=>Below m.heap.size m w'/\ w'.cell? ⟨wr.heap.size,0,none⟩=some (.slice E p.length pc)/\ w'.cell? ⟨wr.heap.size,1,none⟩=some (.bool fl)/\ w'.cell? ⟨wr.heap.size,2,none⟩=some (.int .i64 r)/\ w'.cell? ⟨wr.heap.size,3,none⟩=some (.int .i64 q)/\ w'.cell? ⟨wr.heap.size,4,none⟩=some (.string v)) (g _ zI.drew) (fun qh=> ?_);refine tZ 0 19 ?_;refine cZ 1 ?_;intro K u;go_simp;refine(Ho _ qh.1).mono ?_;rintro e w3 ⟨rfl,b3⟩;have Z:=qh.1.trans (b3.mono qh.1.size);refine u.out _ _ (g _ Z) (fun qh=> ?_);clear u K;try simp only [zP]
     refine tZ 2 21 ?_;refine tZ 3 22 ?_;refine uZ 4 23 ?_;refine uZ 5 24 ?_;refine uZ 6 25 ?_;refine uZ 7 26 ?_;refine uZ 8 27 ?_;refine tZ 9 28 ?_;refine tZ 10 29 ?_;refine uZ 11 30 ?_;refine uZ 12 31 ?_;refine uZ 13 32 ?_;refine uZ 14 33 ?_;refine uZ 15 34 ?_;refine uZ 16 35 ?_;refine uZ 17 36 ?_;refine uZ 18 37 ?_;refine uZ 19 38 ?_;refine uZ 20 39 ?_;refine uZ 21 40 ?_;refine uZ 22 41 ?_;refine tZ 23 42 ?_;refine zD ?_;have HF:=hid (B (fun h=>by have:=Qal h.1;rw [H2.out] at this;cases this));have HZ:=hid (O.trans (Z.mono O.size));clear qh g B;go_wp2_with fail;go_ret;exact⟨Qa3 HF.symm,HZ.out⟩
    | true=>
     cases A with
     | false=>
      have g:Hid (∀w',Below m.heap.size m w' ->(Below m.heap.size m w'/\ w'.cell? ⟨wr.heap.size,0,none⟩=some (.slice E p.length pc)/\ w'.cell? ⟨wr.heap.size,1,none⟩=some (.bool fl)/\ w'.cell? ⟨wr.heap.size,2,none⟩=some (.int .i64 r)/\ w'.cell? ⟨wr.heap.size,3,none⟩=some (.int .i64 q)/\ w'.cell? ⟨wr.heap.size,4,none⟩=some (.string v))):=hid (fun w' hB=>⟨hB,(hB.cell (p:=⟨wr.heap.size,0,none⟩) z).trans y0,(hB.cell (p:=⟨wr.heap.size,1,none⟩) z).trans y1,(hB.cell (p:=⟨wr.heap.size,2,none⟩) z).trans L,(hB.cell (p:=⟨wr.heap.size,3,none⟩) z).trans N,(hB.cell (p:=⟨wr.heap.size,4,none⟩) z).trans y4⟩);refine zR (S:=fun w'=>Below m.heap.size m w'/\ w'.cell? ⟨wr.heap.size,0,none⟩=some (.slice E p.length pc)/\ w'.cell? ⟨wr.heap.size,1,none⟩=some (.bool fl)/\ w'.cell? ⟨wr.heap.size,2,none⟩=some (.int .i64 r)/\ w'.cell? ⟨wr.heap.size,3,none⟩=some (.int .i64 q)/\ w'.cell? ⟨wr.heap.size,4,none⟩=some (.string v)) (g _ zI.drew) (fun qh=> ?_);refine tZ 0 19 ?_;refine cZ 1 ?_;intro K u;go_simp;refine(Ho _ qh.1).mono ?_;rintro e w3 ⟨rfl,b3⟩;have Z:=qh.1.trans (b3.mono qh.1.size);refine u.out _ _ (g _ Z) (fun qh=> ?_);clear u K;try simp only [zP]
      refine tZ 2 21 ?_;refine tZ 3 22 ?_;refine tZ 4 23 ?_;refine tZ 5 24 ?_;refine tZ 6 25 ?_;refine cZ 7 ?_;intro K u;go_simp;refine(Hr _ qh.1).mono ?_;rintro e w4 ⟨rfl,b4⟩;have U:=qh.1.trans (b4.mono qh.1.size);refine u.out _ _ (g _ U) (fun qh=> ?_);clear u K;try simp only [zP]
      refine tZ 8 27 ?_;refine tZ 9 28 ?_;refine tZ 10 29 ?_;refine uZ 11 30 ?_;refine uZ 12 31 ?_;refine uZ 13 32 ?_;refine uZ 14 33 ?_;refine uZ 15 34 ?_;refine uZ 16 35 ?_;refine uZ 17 36 ?_;refine uZ 18 37 ?_;refine uZ 19 38 ?_;refine uZ 20 39 ?_;refine uZ 21 40 ?_;refine uZ 22 41 ?_;refine tZ 23 42 ?_;refine zD ?_;have HF:=hid (B (fun h=>by have:=h.2.1;rw [HA.out] at this;cases this));have HZ:=hid (O.trans (U.mono O.size));clear qh g B;go_wp2_with fail;go_ret;exact⟨Qa3 HF.symm,HZ.out⟩
     | true=>
      by_cases Ge:k=0
      ·have d2:decide ((0:Int)<(k:Int))=false:=by simp;omega
       have d3:decide (0<k)=false:=by simp;omega
       have He:Hid (0<k ->QaG (gL l (k - 1)) ⟨p,fl,r,q,v⟩<0):=hid (fun h=>by omega);clear Ge;have g:Hid (∀w',Below m.heap.size m w' ->(Below m.heap.size m w'/\ w'.cell? ⟨wr.heap.size,0,none⟩=some (.slice E p.length pc)/\ w'.cell? ⟨wr.heap.size,1,none⟩=some (.bool fl)/\ w'.cell? ⟨wr.heap.size,2,none⟩=some (.int .i64 r)/\ w'.cell? ⟨wr.heap.size,3,none⟩=some (.int .i64 q)/\ w'.cell? ⟨wr.heap.size,4,none⟩=some (.string v))):=hid (fun w' hB=>⟨hB,(hB.cell (p:=⟨wr.heap.size,0,none⟩) z).trans y0,(hB.cell (p:=⟨wr.heap.size,1,none⟩) z).trans y1,(hB.cell (p:=⟨wr.heap.size,2,none⟩) z).trans L,(hB.cell (p:=⟨wr.heap.size,3,none⟩) z).trans N,(hB.cell (p:=⟨wr.heap.size,4,none⟩) z).trans y4⟩);refine zR (S:=fun w'=>Below m.heap.size m w'/\ w'.cell? ⟨wr.heap.size,0,none⟩=some (.slice E p.length pc)/\ w'.cell? ⟨wr.heap.size,1,none⟩=some (.bool fl)/\ w'.cell? ⟨wr.heap.size,2,none⟩=some (.int .i64 r)/\ w'.cell? ⟨wr.heap.size,3,none⟩=some (.int .i64 q)/\ w'.cell? ⟨wr.heap.size,4,none⟩=some (.string v)) (g _ zI.drew) (fun qh=> ?_);refine tZ 0 19 ?_;refine cZ 1 ?_;intro K u;go_simp;refine(Ho _ qh.1).mono ?_;rintro e w3 ⟨rfl,b3⟩;have Z:=qh.1.trans (b3.mono qh.1.size);refine u.out _ _ (g _ Z) (fun qh=> ?_);clear u K;try simp only [zP]
       refine tZ 2 21 ?_;refine tZ 3 22 ?_;refine tZ 4 23 ?_;refine tZ 5 24 ?_;refine tZ 6 25 ?_;refine cZ 7 ?_;intro K u;go_simp;refine(Hr _ qh.1).mono ?_;rintro e w4 ⟨rfl,b4⟩;have U:=qh.1.trans (b4.mono qh.1.size);refine u.out _ _ (g _ U) (fun qh=> ?_);clear u K;try simp only [zP]
       refine tZ 8 27 ?_;refine tZ 9 28 ?_;refine tZ 10 29 ?_;refine tZ 11 30 ?_;refine tZ 12 31 ?_;refine tZ 13 32 ?_;refine uZ 14 33 ?_;refine uZ 15 34 ?_;refine uZ 16 35 ?_;refine uZ 17 36 ?_;refine uZ 18 37 ?_;refine uZ 19 38 ?_;refine uZ 20 39 ?_;refine uZ 21 40 ?_;refine tZ 22 41 ?_;refine tZ 23 42 ?_;refine zD ?_;have Hw:=hid U;have L:=(U.cell (p:=⟨wr.heap.size,2,none⟩) z).trans L;have N:=(U.cell (p:=⟨wr.heap.size,3,none⟩) z).trans N;obtain⟨kl,Hh⟩:=Qd5 Hk.1 Hk.2;have H0:=hid Hh;have Ha:=Hn.below (Hd.trans (U.mono Hd.size));have Hb:=Ha.own;have Hj:plainElem (H:=Value) Tryz.prog 3 (.int .i64 (k:Int))=some (.lit (.int .i64 (k:Int)),[]):=plainElem_int Tryz.underlying3 (wfI (by omega) (by omega));have Hi:keyOf Tryz.prog 67 (.agg #[.int .i64 r,.int .i64 q])=some kl:=Hh;have Hx:=hid Ha;clear qh g B Ha Hh;go_wp2_with (refine wpList_mapUpdate_own _ rfl _ _ _ 169 rfl 67 3 QaD Tryz.underlying169 (plainElem Tryz.prog 3) (w.heap.size) k D rfl Hb (by unfold maxLen;omega) _ _ kl rfl rfl Hi (.lit (.int .i64 (k:Int))) [] Hj ?_;intro w6 Hc Hg);have Hy:=hid (Hx.step (by rw [J.out];exact H0.out) Hc);have Hp:=O.trans (Hw.mono O.size);have Hv:=hid (Hp.grown Hg Hp.size (fun t e=>by injection e with e;omega));have HN:Hid (QbQ R F T n l (k+1)):=hid (HI.step (by rw [J.out];exact QbP.1 H2.out) (by rw [J.out];exact HA.out) (fun h=>by rw [J.out];exact He h));go_roundw;case rel=>exact⟨k+1,Ht,by go_num,Hv,⟨_,Hy⟩,HN⟩
       case measure=>simp [intOf];omega
      ·obtain⟨j,hj⟩:∃j,k=j+1:=⟨k - 1,by omega⟩;obtain⟨Hl,Hm,c0,s',c1,c2,c3,c4⟩:=Gf j (by omega);have Q:=fun(o:Nat)=>O.cell (p:=⟨b,o,none⟩) hb;have j0:=(Q _).trans c0;have j1:=(Q _).trans c1;have j2:=(Q _).trans c2;have j3:=(Q _).trans c3;have j4:=(Q _).trans c4;have H1:=hid (s'.below O.out);have H4:=hp j;obtain⟨y',H6⟩:∃y',gL l j=y':=⟨_,rfl⟩;rw [H6] at j0 j1 j2 j3 j4 H1 H4;have H9:=hid H6;obtain⟨p',Hf,r',Q,v'⟩:=y';dsimp only at j0 j1 j2 j3 j4 H1 H4;have I:b<m.heap.size:=by have:=O.size;omega
       have d2:decide ((0:Int)<(k:Int))=true:=by simp;omega
       have d3:decide (0<k)=true:=by simp;omega
       have H5:(k:Int) - 1=(j:Int):=by omega
       have Gj:IntKind.i64.wrap (j:Int)=(j:Int):=by rw [IntKind.wrap_i64];omega
       have Gk:IntKind.i64.wrap ((k:Int) - 1)=(j:Int):=by rw [H5];exact Gj
       have q1:(0:Int)<=(j:Int):=Int.natCast_nonneg _;have q2:(j:Int)<(l.length:Int):=by omega
       have Hz:=hid hj;obtain⟨X,hX⟩:∃X,QaG ⟨p',Hf,r',Q,v'⟩ ⟨p,fl,r,q,v⟩=X:=⟨_,rfl⟩;have Gc:=hid hX;have H8:Hid (∀W,Below m.heap.size m W ->Calls Tryz.prog 91 #[.agg #[.slice Hl p'.length Hm,.bool Hf,.int .i64 r',.int .i64 Q,.string v'],.agg #[.slice E p.length pc,.bool fl,.int .i64 r,.int .i64 q,.string v]] W fun e w'=>e=.returned (.int .i64 X)/\ Below W.heap.size W w'):=hid (fun W hB=>by rw [<- hX];exact QeN Hl E Hm pc p' p Hf fl r' Q r q v' v W H4 Hu (H1.below hB) (Gb.below hB));clear hX hj Ge c0 c1 c2 c3 c4 s' H6;by_cases Gd:(0:Int)<=X
       ·have d4:decide ((0:Int)<=X)=true:=by simpa using Gd
        have g:Hid (∀w',Below m.heap.size m w' ->(Below m.heap.size m w'/\ w'.cell? ⟨wr.heap.size,0,none⟩=some (.slice E p.length pc)/\ w'.cell? ⟨wr.heap.size,1,none⟩=some (.bool fl)/\ w'.cell? ⟨wr.heap.size,2,none⟩=some (.int .i64 r)/\ w'.cell? ⟨wr.heap.size,3,none⟩=some (.int .i64 q)/\ w'.cell? ⟨wr.heap.size,4,none⟩=some (.string v)/\ w'.cell? ⟨b,off+j*5,none⟩=some (.slice Hl p'.length Hm)/\ w'.cell? ⟨b,off+j*5+1,none⟩=some (.bool Hf)/\ w'.cell? ⟨b,off+j*5+2,none⟩=some (.int .i64 r')/\ w'.cell? ⟨b,off+j*5+3,none⟩=some (.int .i64 Q)/\ w'.cell? ⟨b,off+j*5+4,none⟩=some (.string v'))):=hid (fun w' hB=>⟨hB,(hB.cell (p:=⟨wr.heap.size,0,none⟩) z).trans y0,(hB.cell (p:=⟨wr.heap.size,1,none⟩) z).trans y1,(hB.cell (p:=⟨wr.heap.size,2,none⟩) z).trans L,(hB.cell (p:=⟨wr.heap.size,3,none⟩) z).trans N,(hB.cell (p:=⟨wr.heap.size,4,none⟩) z).trans y4,(hB.cell (p:=⟨b,off+j*5,none⟩) I).trans j0,(hB.cell (p:=⟨b,off+j*5+1,none⟩) I).trans j1,(hB.cell (p:=⟨b,off+j*5+2,none⟩) I).trans j2,(hB.cell (p:=⟨b,off+j*5+3,none⟩) I).trans j3,(hB.cell (p:=⟨b,off+j*5+4,none⟩) I).trans j4⟩);refine zR (S:=fun w'=>Below m.heap.size m w'/\ w'.cell? ⟨wr.heap.size,0,none⟩=some (.slice E p.length pc)/\ w'.cell? ⟨wr.heap.size,1,none⟩=some (.bool fl)/\ w'.cell? ⟨wr.heap.size,2,none⟩=some (.int .i64 r)/\ w'.cell? ⟨wr.heap.size,3,none⟩=some (.int .i64 q)/\ w'.cell? ⟨wr.heap.size,4,none⟩=some (.string v)/\ w'.cell? ⟨b,off+j*5,none⟩=some (.slice Hl p'.length Hm)/\ w'.cell? ⟨b,off+j*5+1,none⟩=some (.bool Hf)/\ w'.cell? ⟨b,off+j*5+2,none⟩=some (.int .i64 r')/\ w'.cell? ⟨b,off+j*5+3,none⟩=some (.int .i64 Q)/\ w'.cell? ⟨b,off+j*5+4,none⟩=some (.string v')) (g _ zI.drew) (fun qh=> ?_);refine tZ 0 19 ?_;refine cZ 1 ?_;intro K u;go_simp;refine(Ho _ qh.1).mono ?_;rintro e w3 ⟨rfl,b3⟩;have Z:=qh.1.trans (b3.mono qh.1.size);refine u.out _ _ (g _ Z) (fun qh=> ?_);clear u K;try simp only [zP]
        refine tZ 2 21 ?_;refine tZ 3 22 ?_;refine tZ 4 23 ?_;refine tZ 5 24 ?_;refine tZ 6 25 ?_;refine cZ 7 ?_;intro K u;go_simp;refine(Hr _ qh.1).mono ?_;rintro e w4 ⟨rfl,b4⟩;have U:=qh.1.trans (b4.mono qh.1.size);refine u.out _ _ (g _ U) (fun qh=> ?_);clear u K;try simp only [zP]
        refine tZ 8 27 ?_;refine tZ 9 28 ?_;refine tZ 10 29 ?_;refine tZ 11 30 ?_;refine tZ 12 31 ?_;refine tZ 13 32 ?_;refine tZ 14 33 ?_;refine tZ 15 34 ?_;refine tZ 16 35 ?_;refine tZ 17 36 ?_;refine tZ 18 37 ?_;refine tZ 19 38 ?_;refine cZ 20 ?_;intro K u;go_simp;refine(H8 _ qh.1).mono ?_;rintro e w5 ⟨rfl,b5⟩;have C:=qh.1.trans (b5.mono qh.1.size);refine u.out _ _ (g _ C) (fun qh=> ?_);clear u K;try simp only [zP]
        refine tZ 21 40 ?_;refine tZ 22 41 ?_;refine tZ 23 42 ?_;refine zD ?_;have HF:=hid (B (fun h=>by have e:=h.2.2 (by have:=Hz.out;omega);rw [show k - 1=j by have:=Hz.out;omega,H9.out,Gc.out] at e;omega));have HZ:=hid (O.trans (C.mono O.size));clear qh g B;go_wp2_with fail;go_ret;exact⟨Qa3 HF.symm,HZ.out⟩
       ·have d4:decide ((0:Int)<=X)=false:=by simpa using Gd
        have He:Hid (0<k ->QaG (gL l (k - 1)) ⟨p,fl,r,q,v⟩<0):=hid (fun _=>by rw [show k - 1=j by have:=Hz.out;omega,H9.out,Gc.out];omega);have g:Hid (∀w',Below m.heap.size m w' ->(Below m.heap.size m w'/\ w'.cell? ⟨wr.heap.size,0,none⟩=some (.slice E p.length pc)/\ w'.cell? ⟨wr.heap.size,1,none⟩=some (.bool fl)/\ w'.cell? ⟨wr.heap.size,2,none⟩=some (.int .i64 r)/\ w'.cell? ⟨wr.heap.size,3,none⟩=some (.int .i64 q)/\ w'.cell? ⟨wr.heap.size,4,none⟩=some (.string v)/\ w'.cell? ⟨b,off+j*5,none⟩=some (.slice Hl p'.length Hm)/\ w'.cell? ⟨b,off+j*5+1,none⟩=some (.bool Hf)/\ w'.cell? ⟨b,off+j*5+2,none⟩=some (.int .i64 r')/\ w'.cell? ⟨b,off+j*5+3,none⟩=some (.int .i64 Q)/\ w'.cell? ⟨b,off+j*5+4,none⟩=some (.string v'))):=hid (fun w' hB=>⟨hB,(hB.cell (p:=⟨wr.heap.size,0,none⟩) z).trans y0,(hB.cell (p:=⟨wr.heap.size,1,none⟩) z).trans y1,(hB.cell (p:=⟨wr.heap.size,2,none⟩) z).trans L,(hB.cell (p:=⟨wr.heap.size,3,none⟩) z).trans N,(hB.cell (p:=⟨wr.heap.size,4,none⟩) z).trans y4,(hB.cell (p:=⟨b,off+j*5,none⟩) I).trans j0,(hB.cell (p:=⟨b,off+j*5+1,none⟩) I).trans j1,(hB.cell (p:=⟨b,off+j*5+2,none⟩) I).trans j2,(hB.cell (p:=⟨b,off+j*5+3,none⟩) I).trans j3,(hB.cell (p:=⟨b,off+j*5+4,none⟩) I).trans j4⟩);refine zR (S:=fun w'=>Below m.heap.size m w'/\ w'.cell? ⟨wr.heap.size,0,none⟩=some (.slice E p.length pc)/\ w'.cell? ⟨wr.heap.size,1,none⟩=some (.bool fl)/\ w'.cell? ⟨wr.heap.size,2,none⟩=some (.int .i64 r)/\ w'.cell? ⟨wr.heap.size,3,none⟩=some (.int .i64 q)/\ w'.cell? ⟨wr.heap.size,4,none⟩=some (.string v)/\ w'.cell? ⟨b,off+j*5,none⟩=some (.slice Hl p'.length Hm)/\ w'.cell? ⟨b,off+j*5+1,none⟩=some (.bool Hf)/\ w'.cell? ⟨b,off+j*5+2,none⟩=some (.int .i64 r')/\ w'.cell? ⟨b,off+j*5+3,none⟩=some (.int .i64 Q)/\ w'.cell? ⟨b,off+j*5+4,none⟩=some (.string v')) (g _ zI.drew) (fun qh=> ?_);refine tZ 0 19 ?_;refine cZ 1 ?_;intro K u;go_simp;refine(Ho _ qh.1).mono ?_;rintro e w3 ⟨rfl,b3⟩;have Z:=qh.1.trans (b3.mono qh.1.size);refine u.out _ _ (g _ Z) (fun qh=> ?_);clear u K;try simp only [zP]
        refine tZ 2 21 ?_;refine tZ 3 22 ?_;refine tZ 4 23 ?_;refine tZ 5 24 ?_;refine tZ 6 25 ?_;refine cZ 7 ?_;intro K u;go_simp;refine(Hr _ qh.1).mono ?_;rintro e w4 ⟨rfl,b4⟩;have U:=qh.1.trans (b4.mono qh.1.size);refine u.out _ _ (g _ U) (fun qh=> ?_);clear u K;try simp only [zP]
        refine tZ 8 27 ?_;refine tZ 9 28 ?_;refine tZ 10 29 ?_;refine tZ 11 30 ?_;refine tZ 12 31 ?_;refine tZ 13 32 ?_;refine tZ 14 33 ?_;refine tZ 15 34 ?_;refine tZ 16 35 ?_;refine tZ 17 36 ?_;refine tZ 18 37 ?_;refine tZ 19 38 ?_;refine cZ 20 ?_;intro K u;go_simp;refine(H8 _ qh.1).mono ?_;rintro e w5 ⟨rfl,b5⟩;have C:=qh.1.trans (b5.mono qh.1.size);refine u.out _ _ (g _ C) (fun qh=> ?_);clear u K;try simp only [zP]
        refine tZ 21 40 ?_;refine tZ 22 41 ?_;refine tZ 23 42 ?_;refine zD ?_;have Hw:=hid C;have L:=(C.cell (p:=⟨wr.heap.size,2,none⟩) z).trans L;have N:=(C.cell (p:=⟨wr.heap.size,3,none⟩) z).trans N;obtain⟨kl,Hh⟩:=Qd5 Hk.1 Hk.2;have H0:=hid Hh;have Ha:=Hn.below (Hd.trans (C.mono Hd.size));have Hb:=Ha.own;have Hj:plainElem (H:=Value) Tryz.prog 3 (.int .i64 (k:Int))=some (.lit (.int .i64 (k:Int)),[]):=plainElem_int Tryz.underlying3 (wfI (by omega) (by omega));have Hi:keyOf Tryz.prog 67 (.agg #[.int .i64 r,.int .i64 q])=some kl:=Hh;have Hx:=hid Ha;clear qh g B Ha Hh;go_wp2_with (refine wpList_mapUpdate_own _ rfl _ _ _ 169 rfl 67 3 QaD Tryz.underlying169 (plainElem Tryz.prog 3) (w.heap.size) k D rfl Hb (by unfold maxLen;omega) _ _ kl rfl rfl Hi (.lit (.int .i64 (k:Int))) [] Hj ?_;intro w6 Hc Hg);have Hy:=hid (Hx.step (by rw [J.out];exact H0.out) Hc);have Hp:=O.trans (Hw.mono O.size);have Hv:=hid (Hp.grown Hg Hp.size (fun t e=>by injection e with e;omega));have HN:Hid (QbQ R F T n l (k+1)):=hid (HI.step (by rw [J.out];exact QbP.1 H2.out) (by rw [J.out];exact HA.out) (fun h=>by rw [J.out];exact He h));go_roundw;case rel=>exact⟨k+1,Ht,by go_num,Hv,⟨_,Hy⟩,HN⟩
        case measure=>simp [intOf];omega
   ·obtain rfl:k=l.length:=by omega
    have Hb:=Hn.own;have Gh:Hid (Y=((Maps.size D:Int)==(l.length:Int))):=hid (by
     rw [<- HY.out];by_cases e:Maps.size D=l.length
     ·rw [Qal ⟨by omega,HI.out,fun i hi j hj=>Hn.eq.1 e i hi j hj⟩,e];simp
     ·rw [Qaj (fun h=>e (Hn.eq.2 (fun i hi j hj=>h.2.2 i hi j hj)))];symm;simp;omega)
    have HZ:=hid V.out;go_wp2_with (refine wpList_len_own _ rfl _ 169 rfl 67 3 Tryz.underlying169 _ _ _ _ rfl Hb ?_);go_ret;exact⟨Qa3 Gh.symm,HZ.out⟩
theorem Qjk (a:Option Addr)(c:Nat)(l:List Lf)(x:Option Addr)(n d:Nat)(R F T:Nat ->Int)(w:World)(hn:l.length<=1048576)(hp:LBd l)(hi:∀i,LfI (gL l i))(hm:n<=1048576)(h:Qf1 w a l)(h':Qb3 w x n R F T):
  Calls Tryz.prog 30 #[.agg #[.slice a l.length c,.slice x n d]] w fun e w'=>(∃M,e=.returned (.tuple #[M,.bool (yes (Qbe R F T n l))]))/\ Below w.heap.size w w':=by
 obtain⟨W,k⟩:∃W,w.alloc (.cells #[.slice a l.length c,.slice x n d] 28)=W:=⟨_,rfl⟩;have q:Below w.heap.size w W:=by rw [<- k];exact zO _ _
 have V:w.heap.size<W.heap.size:=by rw [<- k];simp
 have u:W.cell? ⟨w.heap.size,0,none⟩=some (.slice a l.length c):=by rw [<- k];simp
 have U:W.cell? ⟨w.heap.size,1,none⟩=some (.slice x n d):=by rw [<- k];simp
 have Z:=hid (h.below q);have A:=hid (h'.below q);have t:=hid q;clear h h' q;obtain⟨Y,z⟩:∃Y,yes (Qbe R F T n l)=Y:=⟨_,rfl⟩;have v:=hid z;rw [z];clear z;cases hcx:QcL R F T n with
 | false=>
  have s:Hid (Y=false):=hid (by rw [<- v.out];exact Qaj (fun h=>by have:=h.1;rw [hcx] at this;cases this));have m:=hid (Qk0 x n d R F T W hm A.out hcx);have K:=s.out;clear hcx s v;subst K;go_enter Tryz.func30,Tryz.ntmps30;go_wp2_with fail;try rw [k]
  clear k;refine m.mono ?_;rintro e w1 ⟨rfl,j⟩;have N:=(j.cell (p:=⟨w.heap.size,0,none⟩) V).trans u;have y:=hid (Qab t.out j);clear j m u U;go_wp2_with fail;go_ret2;exact⟨⟨_,rfl⟩,y.out⟩
 | true=>
  have g:=Qam.1 hcx;have m:=hid (QnF x n d R F T W hm A.out hcx);have I:Hid (∀r,Srt (Lk R F T n r)):=hid (fun r=>(Qdd n g.1 r).1);have H:Hid (∀r,(Lk R F T n r).length<=1000000):=hid (fun r=>by have:=Qdc R F T n r;have:=g.2;omega);have b:Hid (Y=yes (QmP R F T n l)):=hid (by
   rw [<- v.out];by_cases e:QmP R F T n l
   ·rw [Qal e,Qal ⟨hcx,e.1,e.2.1,e.2.2⟩]
   ·rw [Qaj e,Qaj (fun h=>e ⟨h.2.1,h.2.2.1,h.2.2.2⟩)])
  clear g hcx;go_enter Tryz.func30,Tryz.ntmps30;go_wp2_with fail;try rw [k]
  clear k;refine m.mono ?_;rintro e w1 ⟨J,D,G,rfl,Q,L,j⟩;have N:=(j.cell (p:=⟨w.heap.size,0,none⟩) V).trans u;have o:=hid (Qhl a c l J n D G R F T w1 hn hp hi (Z.below j) Q I.out H.out);have y:=hid (Qab t.out j);clear j m u U Q L;go_wp2_with fail;refine o.mono ?_;rintro e X ⟨rfl,O⟩;have E:=hid (Qab y.out O);rw [<- b.out];clear O o b;cases Y with
  | true=>
   go_wp2_with fail;go_ret2;exact⟨⟨_,rfl⟩,E.out⟩
  | false=>
   go_wp2_with fail;go_ret2;exact⟨⟨_,rfl⟩,E.out⟩
noncomputable def Mk (l:List Lf):Nat ->List Ky ->Dt ->Option ByteArray
 | 0=>fun _ _=>none
 | k+1=>QjN (Mk l k) (Qac (gL l k).p (kd (gL l k).fl)) ((gL l k).r,(gL l k).q) (gL l k).v
def Way (x:Lf):List Ky:=Qac x.p (kd x.fl)
theorem QjQ {l:List Lf}{p:List Ky}{d:Dt}:∀{k:Nat},Mk l k p d≠none↔∃j,j<k/\ Way (gL l j)=p/\ ((gL l j).r,(gL l j).q)=d
 | 0=>⟨fun h=>absurd rfl h,fun⟨j,m,_⟩=>by omega⟩
 | k+1=>by
  have y:=QjQ (l:=l) (p:=p) (d:=d) (k:=k);simp only [Mk];by_cases e:p=Qac (gL l k).p (kd (gL l k).fl)
  ·rw [e,QbD,<- e];by_cases u:d=((gL l k).r,(gL l k).q)
   ·rw [u,Qax];exact⟨fun _=>⟨k,by omega,e.symm,rfl⟩,fun _ h=>by cases h⟩
   ·rw [Qan _ _ u,y];constructor
    ·rintro⟨j,m,r⟩;exact⟨j,by omega,r⟩
    ·rintro⟨j,m,r1,r2⟩;by_cases v:j=k
     ·subst v;exact absurd r2.symm u
     ·exact⟨j,by omega,r1,r2⟩
  ·rw [Qbd _ _ _ e,y];constructor
   ·rintro⟨j,m,r⟩;exact⟨j,by omega,r⟩
   ·rintro⟨j,m,r1,r2⟩;by_cases v:j=k
    ·subst v;exact absurd r1.symm e
    ·exact⟨j,by omega,r1,r2⟩
def NkI (l:List Lf)(k:Nat)(N:List Ky ->Option (Nat×Nat)):Prop:=∀z,(N z).isSome=true↔z=[] \/∃j,j<k/\ z <+:Way (gL l j)
theorem Qjl (a:Option Addr)(c:Nat)(l:List Lf)(x:Option Addr)(n d:Nat)(R F T:Nat ->Int)(w:World)(hn:l.length<=1048576)(hp:LBd l)(hi:∀i,LfI (gL l i))(hm:n<=1048576)(h:Qf1 w a l)(h':Qb3 w x n R F T)(hok:Qbe R F T n l):
  Calls Tryz.prog 30 #[.agg #[.slice a l.length c,.slice x n d]] w fun e w'=>(∃j D G,e=.returned (.tuple #[.map (some j),.bool true])/\ QaY w' j n D G (Lk R F T n)/\ w.heap.size<=j)/\ Below w.heap.size w w':=by
 obtain⟨W,k⟩:∃W,w.alloc (.cells #[.slice a l.length c,.slice x n d] 28)=W:=⟨_,rfl⟩;have m:Below w.heap.size w W:=by rw [<- k];exact zO _ _
 have E:w.heap.size<W.heap.size:=by rw [<- k];simp
 have A:W.cell? ⟨w.heap.size,0,none⟩=some (.slice a l.length c):=by rw [<- k];simp
 have K:W.cell? ⟨w.heap.size,1,none⟩=some (.slice x n d):=by rw [<- k];simp
 have V:=hid (h.below m);have Z:=hid (h'.below m);have M:=hid m;clear h h' m;have v:=hok.1;have z:=Qam.1 v;have o:=hid (QnF x n d R F T W hm Z.out v);have H:Hid (∀r,Srt (Lk R F T n r)):=hid (fun r=>(Qdd n z.1 r).1);have Y:Hid (∀r,(Lk R F T n r).length<=1000000):=hid (fun r=>by have:=Qdc R F T n r;have:=z.2;omega);have t:Hid (yes (QmP R F T n l)=true):=hid (Qal ⟨hok.2.1,hok.2.2.1,hok.2.2.2⟩);have b:=hid E;clear z v hok;go_enter Tryz.func30,Tryz.ntmps30;go_wp2_with fail;try rw [k]
 clear k;refine o.mono ?_;rintro e w1 ⟨j,D,G,rfl,y,s,q⟩;have L:=(q.cell (p:=⟨w.heap.size,0,none⟩) b.out).trans A;have g:=hid (Qhl a c l j n D G R F T w1 hn hp hi (V.below q) y H.out Y.out);have I:=hid (Qab M.out q);have U:=hid y;have O:=hid s;clear q o A K y s E;go_wp2_with fail;refine g.mono ?_;rintro e N ⟨rfl,u⟩;have J:=hid (Qab I.out u);have Q:=hid (U.below u);rw [t.out];clear u g t;go_wp2_with fail;go_ret2;exact⟨⟨j,D,G,rfl,Q.out,Nat.le_trans (Nat.le_of_lt b.out) O.out⟩,J.out⟩
structure Bx3 (w:World)(b:Nat)(v0 v1 v2:Value):Prop where
 c0:w.cell? ⟨b,0,none⟩=some v0
 c1:w.cell? ⟨b,1,none⟩=some v1
 c2:w.cell? ⟨b,2,none⟩=some v2
 f:∀i,w.frozen? ⟨b,i,none⟩=false
 lt:b<w.heap.size
theorem Bx3.below {w w':World}{B b:Nat}{v0 v1 v2:Value}(h:Bx3 w b v0 v1 v2)(hb:Below B w w')(hB:b<B):Bx3 w' b v0 v1 v2:=
 ⟨(hb.cell (p:=⟨b,0,none⟩) hB).trans h.c0,(hb.cell (p:=⟨b,1,none⟩) hB).trans h.c1,(hb.cell (p:=⟨b,2,none⟩) hB).trans h.c2,fun i=>(hb.frozen (p:=⟨b,i,none⟩) hB).trans (h.f i),Nat.lt_of_lt_of_le h.lt hb.size⟩
theorem Bx3.gt {w w':World}{B b:Nat}{v0 v1 v2:Value}(h:Bx3 w b v0 v1 v2)(hg:Gt B w w'):Bx3 w' b v0 v1 v2:=
 ⟨hg.cell h.c0,hg.cell h.c1,hg.cell h.c2,fun i=>(hg.frozen (q:=⟨b,i,none⟩) h.c0 rfl).trans (h.f i),Nat.lt_of_lt_of_le h.lt hg.size⟩
theorem Bx3.made (w:World)(v0 v1 v2:Value)(t:TypeId):Bx3 (w.alloc (.cells #[v0,v1,v2] t)) w.heap.size v0 v1 v2:=⟨by simp,by simp,by simp,fun i=>by simp,by simp⟩
theorem Bx3.set0 {w:World}{b:Nat}{v0 v1 v2:Value}(h:Bx3 w b v0 v1 v2)(u:Value):Bx3 (w.setCell ⟨b,0,none⟩ u) b u v1 v2:=
 ⟨World.cell?_setCell_same _ _ _ h.c0,by simp [World.cell?_setCell_other,h.c1],by simp [World.cell?_setCell_other,h.c2],fun i=>by rw [World.frozen?_setCell];exact h.f i,by simp [World.setCell];exact h.lt⟩
theorem Bx3.set1 {w:World}{b:Nat}{v0 v1 v2:Value}(h:Bx3 w b v0 v1 v2)(u:Value):Bx3 (w.setCell ⟨b,1,none⟩ u) b v0 u v2:=
 ⟨by simp [World.cell?_setCell_other,h.c0],World.cell?_setCell_same _ _ _ h.c1,by simp [World.cell?_setCell_other,h.c2],fun i=>by rw [World.frozen?_setCell];exact h.f i,by simp [World.setCell];exact h.lt⟩
theorem Bx3.set2 {w:World}{b:Nat}{v0 v1 v2:Value}(h:Bx3 w b v0 v1 v2)(u:Value):Bx3 (w.setCell ⟨b,2,none⟩ u) b v0 v1 u:=
 ⟨by simp [World.cell?_setCell_other,h.c0],by simp [World.cell?_setCell_other,h.c1],World.cell?_setCell_same _ _ _ h.c2,fun i=>by rw [World.frozen?_setCell];exact h.f i,by simp [World.setCell];exact h.lt⟩
theorem Bx3.set {w:World}{b:Nat}{v0 v1 v2:Value}(h:Bx3 w b v0 v1 v2)(u0 u1 u2:Value):Bx3 (((w.setCell ⟨b,0,none⟩ u0).setCell ⟨b,1,none⟩ u1).setCell ⟨b,2,none⟩ u2) b u0 u1 u2:=((h.set0 u0).set1 u1).set2 u2
theorem NkI.step {l:List Lf}{k:Nat}{N N':List Ky ->Option (Nat×Nat)}(h:NkI l k N)(h':∀z,(N' z).isSome=true↔(N z).isSome=true \/z <+:Way (gL l k)):NkI l (k+1) N':=fun z=>by
 rw [h' z,h z];constructor
 ·rintro((e|⟨j,q,e⟩)|e)
  ·exact .inl e
  ·exact .inr ⟨j,by omega,e⟩
  ·exact .inr ⟨k,by omega,e⟩
 ·rintro(e|⟨j,q,e⟩)
  ·exact .inl (.inl e)
  ·by_cases m:j=k
   ·subst m;exact .inr e
   ·exact .inl (.inr ⟨j,by omega,e⟩)
theorem Qo9 (fl:Bool):(Lit.int .i64 (kd fl)).wf=true:=by cases fl<;>decide
theorem Qg8 (a:Option Addr)(c:Nat)(l:List Lf)(x:Option Addr)(n d:Nat)(R F T:Nat ->Int)(w:World)(hn:l.length<=1048576)(hp:LBd l)(hi:∀i,LfI (gL l i))(hm:n<=1048576)(h:Qf1 w a l)(h':Qb3 w x n R F T)(hok:¬Qbe R F T n l):
  Calls Tryz.prog 13 #[.agg #[.slice a l.length c,.slice x n d]] w fun e w'=>e=.returned (.tuple #[.agg #[.map none,.map none,.map none],.bool false])/\ Below w.heap.size w w':=by
 obtain⟨W,k⟩:∃W,(w.alloc (.cells #[.slice a l.length c,.slice x n d] 28)).alloc (.cells #[.map none,.map none,.map none] 49)=W:=⟨_,rfl⟩;have m:Below w.heap.size w W:=by rw [<- k];exact Qak _ _ _
 have y:Bx3 W (w.heap.size+1) (.map none) (.map none) (.map none):=by rw [<- k];simpa using Bx3.made (w.alloc (.cells #[.slice a l.length c,.slice x n d] 28)) (.map none) (.map none) (.map none) 49
 have s:W.cell? ⟨w.heap.size,0,none⟩=some (.slice a l.length c):=by rw [<- k];simp
 have A:W.cell? ⟨w.heap.size,1,none⟩=some (.slice x n d):=by rw [<- k];simp
 have r:=hid (Qjk a c l x n d R F T W hn hp hi hm (h.below m) (h'.below m));have b:=hid m;have z:=hid y;rw [Qaj hok] at r;clear h h' m y;go_enter Tryz.func13,Tryz.ntmps13;go_wp2_with fail;try rw [k]
 clear k;refine r.mono ?_;rintro e w1 ⟨⟨M,rfl⟩,u⟩;have j:=z.below u z.lt;have g:=j.c0;have t:=j.c1;have o:=j.c2;have O:=j.f 0;have Q:=j.f 1;have U:=j.f 2;have p:=hid (Qab b.out u);have q:=hid (j.set (.map none) (.map none) (.map none));clear u r s A j;go_wp2_with fail;have E:=q.c0;have r1:=q.c1;have r2:=q.c2;refine zF (v:=.tuple #[.agg #[.map none,.map none,.map none],.bool false]) (by simp [results,Tryz.results13,go_sem,E,r1,r2]) ⟨rfl,?_⟩;exact((p.setCell (by simp) _).setCell (by simp) _).setCell (by simp) _
theorem QaY.set {w:World}{bm n:Nat}{D:DataW Value}{G:Int ->Value}{L:Int ->List (Int×Int)}(h:QaY w bm n D G L)(q:Addr)(u:Value)(hq:q.block<bm):QaY (w.setCell q u) bm n D G L:=by
 have j:w.grownBy (w.setCell q u) (some q.block):=⟨rfl,rfl,rfl,by simp [World.setCell],fun k _ hk=>zH _ _ _ _ (fun e=>hk (by rw [e]))⟩;refine⟨h.own.kept j (fun e=>by injection e with e;omega),h.at',h.has',fun r=>(h.rows r).kept j ?_,h.apart⟩;cases e:(G r).ownBlock with
 | none=>exact .inl rfl
 | some g=>exact .inr (fun e2=>by have:=((h.rows r).lt g e).1;injection e2 with e2;omega)
theorem QhW (a:Option Addr)(c:Nat)(l:List Lf)(x:Option Addr)(n d:Nat)(R F T:Nat ->Int)(w:World)(hn:l.length<=1048576)(hp:LBd l)(hi:∀i,LfI (gL l i))(hm:n<=1048576)(h:Qf1 w a l)(h':Qb3 w x n R F T)(hok:Qbe R F T n l):
  Calls Tryz.prog 13 #[.agg #[.slice a l.length c,.slice x n d]] w fun e w'=>(∃x0 t D G N B,e=.returned (.tuple #[.agg #[.map (some x0.1),.map (some x0.2),.map (some t)],.bool true])/\ QaY w' t n D G (Lk R F T n)/\ w.heap.size<=t/\ w.heap.size<=B/\ t<B/\ Tre w' B N (Mk l l.length) (9*l.length)/\ N []=some x0/\ NkI l l.length N)/\ Below w.heap.size w w':=by
 obtain⟨W,I⟩:∃W,(w.alloc (.cells #[.slice a l.length c,.slice x n d] 28)).alloc (.cells #[.map none,.map none,.map none] 49)=W:=⟨_,rfl⟩;have C:Below w.heap.size w W:=by rw [<- I];exact Qak _ _ _
 have B0:Bx3 W (w.heap.size+1) (.map none) (.map none) (.map none):=by rw [<- I];simpa using Bx3.made (w.alloc (.cells #[.slice a l.length c,.slice x n d] 28)) (.map none) (.map none) (.map none) 49
 have k0:W.cell? ⟨w.heap.size,0,none⟩=some (.slice a l.length c):=by rw [<- I];simp
 have k1:W.cell? ⟨w.heap.size,1,none⟩=some (.slice x n d):=by rw [<- I];simp
 have HO:=hid (Qjl a c l x n d R F T W hn hp hi hm (h.below C) (h'.below C) hok);have Hx:=hid C;have X:=hid B0;have H3:=hid hok;have HL:=hid (h.below C);have Gb:=hok.2.1;clear h h' C B0 hok;go_enter Tryz.func13,Tryz.ntmps13;go_wp2_with fail;try rw [I]
 clear I;refine HO.mono ?_;rintro e w1 ⟨⟨t,D,G,rfl,Hb,H9⟩,P⟩;have B1:=X.below P X.lt;have L:=hid B1;have HZ:=hid (Qab Hx.out P);have k2:=(P.cell (p:=⟨w.heap.size,0,none⟩) (show w.heap.size<W.heap.size by have:=X.lt;omega)).trans k0;have Hm:=hid (HL.below P);have Hl:=hid Hb;have Hc:=hid (show w.heap.size+1<t from by have:=X.lt;omega);clear P HO k0 k1 B1 Hb H9 HL X;go_wp2_with fail;refine(QdN w1).mono ?_;rintro e Q ⟨u,g,rfl,Hw,Hu,Hv,m1,m2,b2⟩;obtain⟨o,J⟩:∃o,Q.alloc (.cells #[.map (some u),.map (some g)] 45)=o:=⟨_,rfl⟩;have b3:Below w1.heap.size w1 o:=by rw [<- J];exact b2.alloc b2.size _
 have NB:Bx2 o Q.heap.size (.map (some u)) (.map (some g)):=by rw [<- J];exact Bx2.made _ _ _ _
 have Hn:=hid NB;have T0:Tre o w1.heap.size (fun z=>if z=[] then some (u,g) else none) (Mk l 0) 0:=by
  have e1:o.heap[u]? =Q.heap[u]? :=by rw [<- J];exact Below.heap_alloc _ _ _ m1.lt
  have e2:o.heap[g]? =Q.heap[g]? :=by rw [<- J];exact Below.heap_alloc _ _ _ m2.lt
  refine⟨fun p x hx=> ?_,fun p x hx=> ?_,fun p q x y hx M=> ?_,fun p x hx=> ?_,fun p hp=>rfl,fun p y hp=>by simp⟩
  ·split at hx
   ·injection hx with hx;subst hx;exact(m1.same e1).ext (fun y=>by simp)
   ·cases hx
  ·split at hx
   ·injection hx with hx;subst hx;exact m2.same e2
   ·cases hx
  ·split at hx
   ·rename_i ep;split at M
    ·rename_i eq;injection hx with hx;injection M with M;subst hx;subst M;exact⟨Hw,fun _=>by rw [ep,eq],fun _=>by rw [ep,eq]⟩
    ·cases M
   ·cases hx
  ·split at hx
   ·injection hx with hx;subst hx;exact⟨Hu,Hv⟩
   ·cases hx
 have Hp:=hid T0;have He:=hid (L.below b3 L.lt);have H6:=hid (Qab HZ.out b3);have k3:=(b3.cell (p:=⟨w.heap.size,0,none⟩) (show w.heap.size<w1.heap.size by have:=L.lt;omega)).trans k2;have H1:=hid (Hm.below b3);have H8:=hid b3;have U:=hid (show w.heap.size<=w1.heap.size/\ w.heap.size+1<w1.heap.size/\ t<w1.heap.size/\ w1.heap.size<=o.heap.size from⟨HZ.size,L.lt,Hl.own.lt,b3.size⟩);clear m1 m2 b2 b3 NB T0 Hw Hu Hv L Hm k2;go_wp2_with fail;try rw [J]
 clear J k3;go_loopw [21] (fun i wr=>∃k:Nat,k<=l.length/\ i=.int .i64 k/\ Hid (Gt w1.heap.size o wr)/\ (∃N,Hid (Tre wr w1.heap.size N (Mk l k) (9*k))/\ Hid (N []=some (u,g))/\ Hid (NkI l k N))) (fun i _=>l.length - (intOf i).toNat);case atStart=>
  refine⟨0,Nat.zero_le _,rfl,hid (Gt.refl _ _),_,Hp,hid (if_pos rfl),hid (fun z=> ?_)⟩;show ((if z=[] then some (u,g) else none:Option (Nat×Nat)).isSome=true↔_);by_cases e:z=[]
  ·rw [if_pos e];exact⟨fun _=> .inl e,fun _=>rfl⟩
  ·rw [if_neg e];exact⟨fun h=>by simp at h,fun h=>by rcases h with h|⟨j,hj,_⟩;exact absurd h e;omega⟩
 case round=>
  clear Hp;obtain⟨k,hk,rfl,A,N,HT,HN,HI⟩:=hrel;by_cases Hj:k<l.length
  ·rcases (H1.gt A.out) with h|⟨b,off,rfl,hb,hc⟩
   ·omega
   obtain⟨pa,pc,x0,s,x1,x2,x3,x4⟩:=hc k Hj;have Hi:=H3.2.2.1 k Hj;have Hd:=hi k;have Hk:=hp k;have i1:(0:Int)<=(k:Int):=Int.natCast_nonneg _;have i2:(k:Int)<(l.length:Int):=by omega
   obtain⟨y,M⟩:∃y,gL l k=y:=⟨_,rfl⟩;rw [M] at s x0 x1 x2 x3 x4 Hk Hd Hi;have HS:=hid s;have HE:=hid M;obtain⟨p,fl,r,q,v⟩:=y;dsimp only [LfI] at HS x0 x1 x2 x3 x4 Hk Hd;have Ho:=hid Hi.1.1;have Ha:=hid (Hn.gt A.out);clear hc s M Hi;obtain⟨E,Ht⟩:∃E,wr.alloc (.cells #[.slice pa p.length pc,.bool fl,.int .i64 r,.int .i64 q,.string v] 69)=E:=⟨_,rfl⟩;have b4:Below wr.heap.size wr E:=by rw [<- Ht];exact zO _ _
   have m:Bx5 E wr.heap.size (.slice pa p.length pc) (.bool fl) (.int .i64 r) (.int .i64 q) (.string v):=by rw [<- Ht];exact⟨by simp,by simp,by simp,by simp,by simp,fun i=>by simp,by simp⟩
   have V:=Ha.below b4 Ha.lt;have y0:=m.c0;have y1:=m.c1;have y2:=m.c2;have y3:=m.c3;have y4:=m.c4;have n0:=V.c0;have n1:=V.c1;have H4:=hid (HS.below b4);have Hq:=hid (HT.below b4);have Hg:=hid (A.keep b4);clear b4 m V HS HT A Ha;go_wp2_with fail;have Hf:Hid (∀w',Gt w1.heap.size E w' ->(Gt w1.heap.size E w'/\ w'.cell? ⟨Q.heap.size,0,none⟩=some (.map (some u))/\ w'.cell? ⟨Q.heap.size,1,none⟩=some (.map (some g))/\ w'.cell? ⟨wr.heap.size,0,none⟩=some (.slice pa p.length pc)/\ w'.cell? ⟨wr.heap.size,1,none⟩=some (.bool fl)/\ w'.cell? ⟨wr.heap.size,2,none⟩=some (.int .i64 r)/\ w'.cell? ⟨wr.heap.size,3,none⟩=some (.int .i64 q)/\ w'.cell? ⟨wr.heap.size,4,none⟩=some (.string v))):=hid (fun w' hB=>⟨hB,hB.cell n0,hB.cell n1,hB.cell y0,hB.cell y1,hB.cell y2,hB.cell y3,hB.cell y4⟩);refine zR (S:=fun w'=>Gt w1.heap.size E w'/\ w'.cell? ⟨Q.heap.size,0,none⟩=some (.map (some u))/\ w'.cell? ⟨Q.heap.size,1,none⟩=some (.map (some g))/\ w'.cell? ⟨wr.heap.size,0,none⟩=some (.slice pa p.length pc)/\ w'.cell? ⟨wr.heap.size,1,none⟩=some (.bool fl)/\ w'.cell? ⟨wr.heap.size,2,none⟩=some (.int .i64 r)/\ w'.cell? ⟨wr.heap.size,3,none⟩=some (.int .i64 q)/\ w'.cell? ⟨wr.heap.size,4,none⟩=some (.string v)) (Hf _ (Gt.of_below zI.drew)) (fun qh=> ?_);refine tZ 0 25 ?_;refine tZ 1 26 ?_;refine tZ 2 27 ?_;refine tZ 3 28 ?_;refine tZ 5 30 ?_;refine tZ 6 31 ?_;refine tZ 7 32 ?_;refine tZ 8 33 ?_;refine tZ 9 34 ?_;refine cZ 4 ?_;intro K hK;go_simp;refine(Qfb _ fl _ _ _ _).mono ?_;rintro e w5 ⟨rfl,Y⟩;have O:Below E.heap.size E w5:=⟨Y.os,Y.tape,Y.output,Y.size,Y.block⟩;refine hK.out _ _ (Hf _ (Gt.of_below O)) (fun qh=> ?_);clear hK K;try simp only [zP]
   refine cZ 10 ?_;intro K hK;go_simp;refine(Qpp 0 p pa pc (kd fl) r q v w1.heap.size (9*k) N (Mk l k) (u,g) w5 Hk (fun i=> ?_) (Qo9 fl) Hd.1 Hd.2 (by omega) ?_ (H4.below O) (Hq.below O) HN.out ?_ (fun z x hz=> ?_)).mono ?_
   ·by_cases Ga:i<p.length
    ·have:=(Ho.2.2 i Ga).2;omega
    ·rw [Qnk (by omega)];simp
   ·have h1:=U.2.2.2;have h2:=Hg.size;have h3:=O.size;omega
   ·have h1:=U.out;have h2:=Hg.size;have h3:=O.size;omega
   ·have h1:=Hq.lo z x hz;have h2:=U.2.1;exact⟨by omega,by omega⟩
   rintro e w6 ⟨rfl,g6,_,N',T6,Hs,Hr⟩;have Hy:=hid ((Hg.keep O).trans g6);have H5:=hid T6;have H0:=hid Hr;have H2:=hid Hs;refine hK.out _ _ (Hf _ ((Gt.of_below O).trans g6)) (fun qh=> ?_);clear hK K;try simp only [zP]
   refine zD ?_;clear qh Y O g6 T6 Hs Hr;go_wp2_with fail;go_roundw;case rel=>
    have Gc:=Ho.2.1;refine⟨k+1,Hj,by go_num,Hy,N',hid ?_,H2,hid (HI.step ?_)⟩
    ·have e:Mk l (k+1)=QjN (Mk l k) (Qac p (kd fl)) (r,q) v:=by simp only [Mk];rw [HE.out]
     rw [e];exact H5.mono (by omega)
    ·rw [HE.out];exact H0.out
   case measure=>simp [intOf];omega
  ·obtain rfl:k=l.length:=by omega
   have V:=Hn.gt A.out;have n0:=V.c0;have n1:=V.c1;have m:=He.gt A.out;have Z:=m.c0;have H:=m.c1;have c2:=m.c2;have f0:=m.f 0;have f1:=m.f 1;have f2:=m.f 2;have HC:=hid (m.set (.map (some u)) (.map (some g)) (.map (some t)));have Hh:Below w1.heap.size o wr:=A.below U.2.2.2;have Hz:=hid (Hl.below (H8.trans Hh));have H7:=hid (H6.trans (Hh.mono U.1));clear V m Hh;go_wp2_with fail;have r0:=HC.c0;have r1:=HC.c1;have r2:=HC.c2;refine zF (v:=.tuple #[.agg #[.map (some u),.map (some g),.map (some t)],.bool true]) (by simp [results,Tryz.results13,go_sem,r0,r1,r2]) ⟨⟨(u,g),t,D,G,N,w1.heap.size,rfl,?_,by have:=Hc.out;omega,U.1,U.2.2.1,?_,HN.out,HI.out⟩,?_⟩
   ·exact((Hz.set _ _ Hc.out).set _ _ Hc.out).set _ _ Hc.out
   ·exact((HT.set _ Z).set _ (He.gt A.out|>.set0 _).c1).set _ ((He.gt A.out|>.set0 _).set1 _).c2
   ·exact((H7.setCell (by simp) _).setCell (by simp) _).setCell (by simp) _
theorem QaO {P:Program}{ops:Array Oper}{Q:Exit ->Act ->World ->Prop}{md:Region.Mode}{S:World ->Prop}{i j:Nat}{d d':Option Tmp}{fuel:Nat}{listed:Array Bool}{a:Act}{w:World}
  (hd:ops[i]?.map (fun o=>o.dst)=some d) (hd':ops[j]?.map (fun o=>o.dst)=some d') (hr:Region.ready md ops listed=[i,j])
  (h:∀o,ops[i]? =some o ->o.dst=d ->∀K':Act ->World ->Prop,Shut (∀a w,S w ->(S w ->wpAnyH P md ops Q S fuel (listed.setIfInBounds i true) a w) ->K' a w) ->if Region.wanted o (yielded ops a.tmps)=true then Oper.wp P o a w K' Q else K' (a.put o.dst undef) w)
  (h':∀o,ops[j]? =some o ->o.dst=d' ->∀K':Act ->World ->Prop,Shut (∀a w,S w ->(S w ->wpAnyH P md ops Q S fuel (listed.setIfInBounds j true) a w) ->K' a w) ->if Region.wanted o (yielded ops a.tmps)=true then Oper.wp P o a w K' Q else K' (a.put o.dst undef) w):
  wpAnyH P md ops Q S (fuel+1) listed a w:=by
 obtain⟨o,k,q⟩:=Option.map_eq_some_iff.1 hd;obtain⟨u,m,r⟩:=Option.map_eq_some_iff.1 hd';exact wpAnyH_ready hr (by simp) (AllReadyH.cons k (h o k q) (AllReadyH.cons m (h' u m r) AllReadyH.nil))
def mF (o:Option (Nat×Nat)):Option Nat:=o.map Prod.fst
def mS (o:Option (Nat×Nat)):Option Nat:=o.map Prod.snd
theorem Qm4 (o:Option (Nat×Nat)):Qdg o=.agg #[.map (mF o),.map (mS o)]:=by cases o<;>rfl
theorem Tre.look {w:World}{B c:Nat}{N:List Ky ->Option (Nat×Nat)}{M:List Ky ->Dt ->Option ByteArray}(h:Tre w B N M c)(p:List Ky)(y:Ky){kl:Lit}(hk:keyOf Tryz.prog 88 (Qbs y)=some kl):
  (Instr.lookup 42 (.map (mF (N p))) (Qbs y) false).run Tryz.prog w=.ok (.agg #[.map (mF (N (p++[y]))),.map (mS (N (p++[y])))]) w:=by
 rw [<- Qm4];cases e:N p with
 | some x=>exact(h.kids p x e).look Qbz Tryz.underlying42 (Qft w) hk
 | none=>
  rw [h.up p y e];exact Maps.look_nil false Qbz Tryz.underlying42 (Qft w) hk
theorem toList_inj {s t:ByteArray}(h:s.toList=t.toList):s=t:=by
 rw [ByteArray.toList_eq,ByteArray.toList_eq] at h;exact bytes_inj h
theorem QdL:∀l:List UInt8,Op.bytesLess l l=false
 | []=>rfl
 | a::l=>by simp [Op.bytesLess,QdL l]
theorem QbX {s t:ByteArray}:QbE s t=0↔s=t:=by
 unfold QbE ltS eqS;constructor
 ·intro h;split at h
  ·cases h
  ·split at h
   ·rename_i e;exact toList_inj (by simpa using e)
   ·cases h
 ·rintro rfl;rw [if_neg (by rw [QdL];simp),if_pos (by simp)]
theorem Qd3:∀{p q:List ByteArray},QaE p q=0↔p=q
 | [],[]=>by simp [QaE]
 | [],_::_=>by simp [QaE]
 | _::_,[]=>by simp [QaE]
 | s::p,t::q=>by
  simp only [QaE];by_cases e:QbE s t=0
  ·rw [if_pos e,Qd3];have:=QbX.1 e;subst this;simp
  ·rw [if_neg e];exact⟨fun h=>absurd h e,fun h=>by injection h with h1 h2;exact absurd (QbX.2 h1) e⟩
open Go.Sort Go.Lib Go.Shelf
structure QaF {α:Type}(f:α ->α ->Int):Prop where
 z:∀x y,f x y=0↔x=y
 neg:∀x y,f x y<0↔0<f y x
 tr:∀x y z,f x y<0 ->f y z<0 ->f x z<0
theorem QaF.irr {α:Type}{f:α ->α ->Int}(h:QaF f)(x:α):f x x=0:=(h.z x x).2 rfl
theorem QaF.swo {α:Type}{f:α ->α ->Int}(h:QaF f):SWO (ltOf f) where
 irrefl x:=by simp [ltOf,h.irr x]
 trans x y z h1 h2:=by simp only [ltOf,decide_eq_true_eq] at*;exact h.tr x y z h1 h2
 ntrans x y z h1 h2:=by
  simp only [ltOf,decide_eq_false_iff_not] at*;intro k;have j:0<=f x y:=by omega
  have m:0<=f y z:=by omega
  rcases Int.lt_or_eq_of_le j with j|j
  ·have:=h.tr y x z ((h.neg y x).2 j) k;omega
  ·have:=(h.z x y).1 j.symm;subst this;omega
theorem QaF.int:QaF QaT:=⟨fun x y=>Qen,fun x y=>by unfold QaT;split<;>split<;>(try split)<;>(try split)<;>omega,fun x y z h1 h2=>by rw [QeH] at*;omega⟩
theorem QaF.pair {α β:Type}{f:α ->α ->Int}{g:β ->β ->Int}(hf:QaF f)(hg:QaF g):QaF (fun x y:α×β=>orI (f x.1 y.1) (g x.2 y.2)):=by
 refine⟨fun x y=> ?_,fun x y=> ?_,fun x y z=> ?_⟩
 ·simp only [orI];by_cases e:f x.1 y.1=0
  ·rw [if_pos e,hg.z];exact⟨fun h=>Prod.ext ((hf.z _ _).1 e) h,fun h=>by rw [h]⟩
  ·rw [if_neg e];exact⟨fun h=>absurd h e,fun h=>by rw [h] at e;exact absurd (hf.irr _) e⟩
 ·simp only [orI];by_cases e:f x.1 y.1=0
  ·have r:f y.1 x.1=0:=(hf.z _ _).2 ((hf.z _ _).1 e).symm;rw [if_pos e,if_pos r,hg.neg]
  ·have r:f y.1 x.1≠0:=fun h=>e ((hf.z _ _).2 ((hf.z _ _).1 h).symm);rw [if_neg e,if_neg r,hf.neg]
 ·simp only [orI];intro q k;by_cases e:f x.1 y.1=0
  ·rw [if_pos e] at q;have:=(hf.z _ _).1 e;by_cases j:f y.1 z.1=0
   ·rw [if_pos j] at k;have m:f x.1 z.1=0:=by rw [this];exact j
    rw [if_pos m];exact hg.tr _ _ _ q k
   ·rw [if_neg j] at k;have m:f x.1 z.1≠0:=by rw [this];exact j
    rw [if_neg m,this];exact k
  ·rw [if_neg e] at q;by_cases j:f y.1 z.1=0
   ·have:=(hf.z _ _).1 j;have m:f x.1 z.1≠0:=by rw [<- this];exact e
    rw [if_neg m,<- this];exact q
   ·rw [if_neg j] at k;have u:=hf.tr _ _ _ q k;rw [if_neg (by omega)];exact u
theorem Qhn:∀x y:List UInt8,Op.bytesLess x y=false ->Op.bytesLess y x=false ->x=y
 | [],[],_,_=>rfl
 | [],_::_,h,_=>by simp [Op.bytesLess] at h
 | _::_,[],_,h=>by simp [Op.bytesLess] at h
 | a::x,b::y,h,h'=>by
  simp only [Op.bytesLess,Bool.or_eq_false_iff,decide_eq_false_iff_not,Bool.and_eq_false_iff] at h h';have e:a=b:=by
   have k:=h.1;have m:=h'.1;rcases Nat.lt_trichotomy a.toNat b.toNat with j|j|j
   ·exact absurd (UInt8.lt_iff_toNat_lt.2 j) k
   ·exact UInt8.toNat_inj.1 j
   ·exact absurd (UInt8.lt_iff_toNat_lt.2 j) m
  subst e;rw [Qhn x y (by simpa using h.2) (by simpa using h'.2)]
theorem Qhm:∀x y:List UInt8,Op.bytesLess x y=true ->Op.bytesLess y x=false
 | [],[],_=>rfl
 | [],_::_,_=>rfl
 | _::_,[],h=>by simp [Op.bytesLess] at h
 | a::x,b::y,h=>by
  simp only [Op.bytesLess,Bool.or_eq_true,decide_eq_true_eq,Bool.and_eq_true,beq_iff_eq] at h;simp only [Op.bytesLess,Bool.or_eq_false_iff,decide_eq_false_iff_not,Bool.and_eq_false_iff];rcases h with h|⟨rfl,h⟩
  ·have j:=UInt8.lt_iff_toNat_lt.1 h;refine⟨fun h2=>by have:=UInt8.lt_iff_toNat_lt.1 h2;omega,.inl ?_⟩;simp only [beq_eq_false_iff_ne];intro e;subst e;omega
  ·exact⟨fun h2=>by have:=UInt8.lt_iff_toNat_lt.1 h2;omega,.inr (Qhm x y h)⟩
theorem Qex:∀x y z:List UInt8,Op.bytesLess x y=true ->Op.bytesLess y z=true ->Op.bytesLess x z=true
 | _,_,[],_,h=>by cases ‹List UInt8›<;>simp [Op.bytesLess] at h
 | [],_,_::_,_,_=>rfl
 | _::_,[],_,h,_=>by simp [Op.bytesLess] at h
 | a::x,b::y,c::z,h,j=>by
  simp only [Op.bytesLess,Bool.or_eq_true,decide_eq_true_eq,Bool.and_eq_true,beq_iff_eq] at h j ⊢;rcases h with h|⟨rfl,h⟩
  ·rcases j with j|⟨rfl,j⟩
   ·exact .inl (UInt8.lt_iff_toNat_lt.2 (by have:=UInt8.lt_iff_toNat_lt.1 h;have:=UInt8.lt_iff_toNat_lt.1 j;omega))
   ·exact .inl h
  ·rcases j with j|⟨rfl,j⟩
   ·exact .inl j
   ·exact .inr ⟨rfl,Qex x y z h j⟩
theorem QeK {s t:ByteArray}:QbE s t<0↔Op.bytesLess s.toList t.toList=true:=by
 unfold QbE ltS eqS;split
 ·rename_i h;exact⟨fun _=>h,fun _=>by decide⟩
 ·rename_i h;split<;>exact⟨fun h2=>by omega,fun h2=>absurd h2 h⟩
theorem QaF.str:QaF QbE:=by
 refine⟨fun x y=>QbX,fun x y=> ?_,fun x y z h1 h2=> ?_⟩
 ·rw [QeK];constructor
  ·intro h;have:=Qhm _ _ h;unfold QbE ltS eqS;rw [if_neg (by rw [this];simp),if_neg]
   ·decide
   ·intro e;rw [toList_inj (by simpa using e:y.toList=x.toList),QdL] at h;cases h
  ·intro h;cases e:Op.bytesLess x.toList y.toList with
   | true=>rfl
   | false=>
    exfalso;cases e':Op.bytesLess y.toList x.toList with
    | true=>have:=QeK.2 e';omega
    | false=>rw [QbX.2 (toList_inj (Qhn _ _ e' e))] at h;omega
 ·rw [QeK] at*;exact Qex _ _ _ h1 h2
def Qb7 (x y:Ky):Int:=orI (QbE x.1 y.1) (QaT x.2 y.2)
def Qbh (x y:Dt):Int:=orI (QaT x.1 y.1) (QaT x.2 y.2)
theorem QaF.key:QaF Qb7:=QaF.str.pair QaF.int
theorem QaF.dot:QaF Qbh:=QaF.int.pair QaF.int
theorem QaF.uniq {α:Type}{f:α ->α ->Int}(h:QaF f):∀{l m:List α},l.Pairwise (fun x y=>f x y<0) ->m.Pairwise (fun x y=>f x y<0) ->(∀x,x∈l↔x∈m) ->l=m
 | [],[],_,_,_=>rfl
 | [],y::m,_,_,hm=>by have:=(hm y).2 (by simp);simp at this
 | x::l,[],_,_,hm=>by have:=(hm x).1 (by simp);simp at this
 | x::l,y::m,hl,hm',hm=>by
  have q:=List.pairwise_cons.1 hl;have r:=List.pairwise_cons.1 hm';have e:x=y:=by
   rcases List.mem_cons.1 ((hm x).1 (by simp)) with e|e
   ·exact e
   ·rcases List.mem_cons.1 ((hm y).2 (by simp)) with k|k
    ·exact k.symm
    ·have v:=r.1 x e;have g:=q.1 y k;have:=h.tr _ _ _ v g;rw [h.irr] at this;omega
  subst e;congr 1;refine h.uniq q.2 r.2 fun z=> ?_;have u:=hm z;simp only [List.mem_cons] at u;constructor
  ·intro j;rcases u.1 (.inr j) with e|e
   ·subst e;have:=q.1 _ j;rw [h.irr] at this;omega
   ·exact e
  ·intro j;rcases u.2 (.inr j) with e|e
   ·subst e;have:=r.1 _ j;rw [h.irr] at this;omega
   ·exact e
theorem QaF.rises {α:Type} [Inhabited α]{f:α ->α ->Int}(h:QaF f){d:Array α}(hs:SortedIn (ltOf f) 0 d.size d)(hn:d.toList.Nodup):d.toList.Pairwise (fun x y=>f x y<0):=by
 rw [List.pairwise_iff_getElem];intro i j q m r;have k:=hs i j (by omega) r (by simpa using m);have t:i<d.size:=by simpa using q
 have o:j<d.size:=by simpa using m
 have u:d[i]! =d[i]:=getElem!_pos d i t;have v:d[j]! =d[j]:=getElem!_pos d j o;rw [u,v] at k;simp only [ltOf,decide_eq_false_iff_not] at k;have b:d[i]≠d[j]:=by
  have:=(List.nodup_iff_pairwise_ne.1 hn);rw [List.pairwise_iff_getElem] at this;simpa using this i j q m r
 have p:f d[i] d[j]≠0:=fun e=>b ((h.z _ _).1 e);have g:=h.neg (d[j]) (d[i]);have s:¬0<f d[i] d[j]:=fun e=>k (g.2 e);have:f d[i] d[j]<0:=by omega
 simpa using this
def Bw (w w':World):Prop:=Below w.heap.size w w'/\ w.drawn<=w'.drawn
theorem Bw.grown {w w':World}(h:Bw w w'):∃q r,w'=grow (w.drewN q) r:=by
 obtain⟨u,v⟩:=h;refine⟨w'.drawn - w.drawn,w'.heap.extract w.heap.size w'.heap.size,?_⟩;obtain⟨o,s,z,r,out⟩:=w;obtain⟨y,A,g,b,p⟩:=w';obtain⟨j,k,b3,b4,m⟩:=u;simp only at j k b3 b4 m v;subst j;subst k;subst b3;simp only [grow,World.drewN,World.mk.injEq,and_true,true_and];refine⟨?_,by omega⟩;apply Array.ext_getElem?;intro i;rw [Array.getElem?_append];split
 ·rename_i hi;exact m i hi
 ·rename_i hi;rw [Array.getElem?_extract];by_cases t:i<y.size
  ·rw [if_pos (by omega)];congr 1;omega
  ·rw [if_neg (by omega)];exact Array.getElem?_eq_none (by omega)
theorem Qiv {α:Type}{cs:Array α}(h:cs.size=2):∃c0 c1,cs=#[c0,c1]:=by
 obtain⟨l⟩:=cs;match l,h with
 | [c0,c1],_=>exact⟨c0,c1,rfl⟩
theorem QiW {v:Value}{kl:Lit}(h:keyOf Tryz.prog 88 v=some kl):∃x,v=Qbs x:=by
 unfold keyOf at h;rw [Tryz.underlying88] at h;simp only [Qn3,Bool.true_and] at h;have p:0<Tryz.prog.types.size:=of_decide_eq_true (by kernel_rfl);obtain⟨m,o⟩:∃m,Tryz.prog.types.size=m+1:=⟨Tryz.prog.types.size - 1,by omega⟩;rw [o] at h;have z:Tryz.prog.cellsOf 88=2:=by kernel_rfl
 have g:Tryz.prog.cellsOf 3=1:=by kernel_rfl
 have t:Tryz.prog.cellsOf 9=1:=by kernel_rfl
 cases v<;>simp [Value.formed,Tryz.underlying88,z,Program.keyLits,Tryz.underlying3,Tryz.underlying9,g,t,Value.cells] at h;obtain⟨u,a,⟨i,h⟩,b⟩:=h;clear i b;obtain⟨y,j,rfl⟩:=Qiv u;clear u;cases y<;>simp at h;rename_i s;by_cases r:s.size<=maxLen
 ·cases j<;>simp [r] at h;rename_i k n;by_cases q:k=.i64/\ (Lit.int .i64 n).wf=true
  ·exact⟨(s,n),by rw [q.1];rfl⟩
  ·rw [if_neg q] at h;simp at h
 ·cases j<;>simp [r] at h
theorem QiV {v:Value}{kl:Lit}(h:keyOf Tryz.prog 67 v=some kl):∃x,v=dtV x:=by
 unfold keyOf at h;rw [Tryz.underlying67] at h;simp only [Qnd,Bool.true_and] at h;have b:0<Tryz.prog.types.size:=of_decide_eq_true (by kernel_rfl);obtain⟨m,t⟩:∃m,Tryz.prog.types.size=m+1:=⟨Tryz.prog.types.size - 1,by omega⟩;rw [t] at h;have z:Tryz.prog.cellsOf 67=2:=by kernel_rfl
 have g:Tryz.prog.cellsOf 3=1:=by kernel_rfl
 cases v<;>simp [Value.formed,Tryz.underlying67,z,Program.keyLits,Tryz.underlying3,g,Value.cells] at h;obtain⟨r,a,⟨o,h⟩,i⟩:=h;clear o i;obtain⟨u,y,rfl⟩:=Qiv r;clear r;cases u<;>simp at h;rename_i k n;by_cases j:k=.i64/\ (Lit.int .i64 n).wf=true
 ·rw [if_pos j] at h;cases y<;>simp at h;rename_i k' n';by_cases q:k'=.i64/\ (Lit.int .i64 n').wf=true
  ·exact⟨(n,n'),by rw [j.1,q.1];rfl⟩
  ·rw [if_neg q] at h;simp at h
 ·rw [if_neg j] at h;simp at h
structure Qdz {α β:Type}(t:TypeId)(kv:α ->Value)(f:α ->Option β)(left:Lit ->Bool)(ss:List α):Prop where
 nd:ss.Nodup
 old:∀x∈ss,f x≠none/\∀kl,keyOf Tryz.prog t (kv x)=some kl ->left kl=false
 all:∀x,f x≠none ->x∈ss \/∀kl,keyOf Tryz.prog t (kv x)=some kl ->left kl=true
def Qd0 {α β:Type}(f:α ->Option β)(ss:List α):Prop:=ss.Nodup/\∀x,x∈ss↔f x≠none
section
variable {α β : Type} {w : World} {t : TypeId} {kv : α -> Value} {vo : Option β -> Value} {b c : Nat} {f : α -> Option β} {D : DataW Value} {left : Lit -> Bool} {ss : List α}
theorem Qdz.start (h:FM w t kv vo b c f D):Qdz t kv f (has D) ([]:List α):=by
 refine⟨List.nodup_nil,fun x hx=>absurd hx (by simp),fun x hx=>Or.inr fun kl hk=> ?_⟩;rw [(h.at' x kl hk).1];cases e:f x with
 | none=>exact absurd e hx
 | some y=>rfl
theorem Qdz.step (hC:Qdz t kv f left ss)(h:FM w t kv vo b c f D)(K:Keyed Tryz.prog t)(hi:∀x y,kv x=kv y ->x=y){x:α}{kl:Lit}{y:DataW Value}(hk:keyOf Tryz.prog t (kv x)=some kl)(hl:left kl=true)(hat:∀zd,D.atKey kl zd=y):
  Qdz t kv f (fun z=>left z && !z.sameKey kl) (ss++[x]):=by
 have q:x ∉ ss:=fun hm=>by have:=(hC.old x hm).2 kl hk;rw [hl] at this;cases this
 have m:f x≠none:=fun e=>by
  have k:=has_true_of_atKey hat;rw [(h.at' x kl hk).1,e] at k;cases k
 refine⟨?_,fun z j=> ?_,fun z j=> ?_⟩
 ·rw [List.nodup_append];exact⟨hC.nd,by simp,fun a ha b hb=>by rw [List.mem_singleton] at hb;subst hb;exact fun e=>q (e ▸ ha)⟩
 ·rcases List.mem_append.1 j with j|j
  ·refine⟨(hC.old z j).1,fun kl' hk'=> ?_⟩;show (left kl' && !kl'.sameKey kl)=false;rw [(hC.old z j).2 kl' hk'];rfl
  ·rw [List.mem_singleton] at j;subst j;refine⟨m,fun kl' hk'=> ?_⟩;rw [hk] at hk';injection hk' with hk';subst hk';show (left kl && !kl.sameKey kl)=false;rw [WideAt.sameKey_self (K.key hk)];simp
 ·by_cases e:z=x
  ·subst e;exact .inl (by simp)
  ·rcases hC.all z j with k|k
   ·exact .inl (List.mem_append.2 (.inl k))
   ·refine .inr fun kl' hk'=> ?_;show (left kl' && !kl'.sameKey kl)=true;rw [k kl' hk',sameKey_ne (fun e2=>e (hi _ _ (by subst e2;exact K.inj hk' hk)))];rfl
theorem Qdz.done (hC:Qdz t kv f left ss)(h:FM w t kv vo b c f D)(hl:∀j,left j=false):Qd0 f ss:=
 ⟨hC.nd,fun x=>⟨fun hx=>(hC.old x hx).1,fun hx=>by
  rcases hC.all x hx with k|k
  ·exact k
  ·obtain⟨j,m⟩:=h.ok x hx;have:=k j m;rw [hl j] at this;cases this⟩⟩
end
theorem QgZ:∀p q:List ByteArray,QaE p q<0↔0<QaE q p
 | [],[]=>by simp [QaE]
 | [],_::_=>by simp [QaE]
 | _::_,[]=>by simp [QaE]
 | s::p,t::q=>by
  simp only [QaE];by_cases e:QbE s t=0
  ·have j:QbE t s=0:=QbX.2 (QbX.1 e).symm;rw [if_pos e,if_pos j];exact QgZ p q
  ·have j:QbE t s≠0:=fun h=>e (QbX.2 (QbX.1 h).symm);rw [if_neg e,if_neg j];exact QaF.str.neg s t
theorem Qi2:∀p q r:List ByteArray,QaE p q<0 ->QaE q r<0 ->QaE p r<0
 | [],[],_,h,_=>by simp [QaE] at h
 | [],_::_,[],_,h=>by simp [QaE] at h
 | [],_::_,_::_,_,_=>by simp [QaE]
 | _::_,[],_,h,_=>by simp [QaE] at h
 | _::_,_::_,[],_,h=>by simp [QaE] at h
 | s::p,t::q,u::r,h,h'=>by
  simp only [QaE] at*;by_cases e:QbE s t=0
  ·rw [if_pos e] at h;have:=QbX.1 e;subst this;by_cases j:QbE s u=0
   ·rw [if_pos j] at h' ⊢;exact Qi2 p q r h h'
   ·rw [if_neg j] at h' ⊢;exact h'
  ·rw [if_neg e] at h;by_cases j:QbE t u=0
   ·have:=QbX.1 j;subst this;rw [if_neg e];exact h
   ·rw [if_neg j] at h';have k:=QaF.str.tr s t u h h';rw [if_neg (by omega)];exact k
theorem QaF.path:QaF QaE:=⟨fun _ _=>Qd3,QgZ,Qi2⟩
theorem Qgj {x y z:Lf}(h:QaG x y<0)(h':QaG y z<0):QaG x z<0:=
 (QaF.path.pair (QaF.int.pair QaF.dot)).tr (x.p,(kd x.fl,(x.r,x.q))) (y.p,(kd y.fl,(y.r,y.q))) (z.p,(kd z.fl,(z.r,z.q))) h h'
theorem QbQ.lt {R F T:Nat ->Int}{n:Nat}{l:List Lf}{k:Nat}(h:QbQ R F T n l k){i:Nat}:∀j,i<j ->j<k ->QaG (gL l i) (gL l j)<0
 | 0,h1,_=>by omega
 | j+1,h1,h2=>by
  have m:=(h (j+1) h2).2.2 (by omega);simp only [Nat.add_sub_cancel] at m;by_cases e:i=j
  ·subst e;exact m
  ·exact Qgj (h.lt j (by omega) (by omega)) m
theorem QjI (p:List ByteArray):Qac p 3=(List.range p.length).map fun i=>(gS p i,3):=by
 unfold Qac;congr 1;funext i;split<;>rfl
theorem QiI {p q:List ByteArray}(h:p <+:q){i:Nat}(hi:i<p.length):gS q i=gS p i:=by
 obtain⟨r,rfl⟩:=h;simp [gS,List.getD,List.getElem?_append,hi]
theorem QkO {p q:List ByteArray}{k:Int}(h:p <+:q)(hl:p.length<q.length):(Qac q k).take p.length=Qac p 3:=by
 apply List.ext_getElem?;intro i;by_cases j:i<p.length
 ·rw [List.getElem?_take_of_lt j,Qbu (by omega),QjI,if_pos (by omega),QiI h j];simp [j]
 ·rw [List.getElem?_take_eq_none (by omega),List.getElem?_eq_none (by rw [QaW];omega)]
noncomputable def nx (p:List ByteArray)(x:Lf):Option Ky:=if yes (p <+:x.p/\ p.length<x.p.length)=true then some (Qat x.p (kd x.fl) p.length) else none
theorem Qhq {p:List ByteArray}{x:Lf}{y:Ky}:Qac p 3++[y] <+:Way x↔nx p x=some y:=by
 unfold nx Way;constructor
 ·intro h;have z:p.length+1<=x.p.length:=by have:=h.length_le;simpa [QaW] using this
  have j:=List.prefix_iff_eq_take.1 h;simp only [List.length_append,QaW,List.length_cons,List.length_nil] at j;rw [Qda (by omega)] at j;have m:=List.append_inj' j rfl;have v:p <+:x.p:=by
   have r:p=x.p.take p.length:=by
    refine Qlj (by simp;omega) fun i hi=> ?_;have:=congrArg (fun l=>l[i]?) m.1;rw [List.getElem?_take_of_lt hi,Qbu hi,Qbu (k:=kd x.fl) (show i<x.p.length by omega)] at this;injection this with this;rw [(Prod.mk.inj this).1];simp [gS,List.getD,List.getElem?_take_of_lt hi]
   rw [r];exact List.take_prefix _ _
  rw [if_pos (Qal ⟨v,by omega⟩)];have q:=m.2;simp only [List.cons.injEq,and_true] at q;rw [q];rfl
 ·intro h;by_cases e:p <+:x.p/\ p.length<x.p.length
  ·rw [if_pos (Qal e)] at h;injection h with h;have:=Qda (k:=kd x.fl) e.2;rw [QkO e.1 e.2] at this;have u:(gS x.p p.length,if p.length+1<x.p.length then 3 else kd x.fl)=y:=h;rw [u] at this;rw [<- this];exact List.take_prefix _ _
  ·rw [Qaj e] at h;simp at h
theorem QgY:∀(p a b:List ByteArray),QaE (p++a) (p++b)=QaE a b
 | [],_,_=>rfl
 | s::p,a,b=>by
  simp only [List.cons_append,QaE];rw [if_pos (QbX.2 rfl)];exact QgY p a b
theorem QbH {p:List ByteArray}{a b:Lf}{y z:Ky}(h:QaG a b<0)(ha:nx p a=some y)(hb:nx p b=some z):Qb7 y z<=0:=by
 unfold nx at ha hb;by_cases q:p <+:a.p/\ p.length<a.p.length
 ·by_cases r:p <+:b.p/\ p.length<b.p.length
  ·rw [if_pos (Qal q)] at ha;rw [if_pos (Qal r)] at hb;injection ha with ha;injection hb with hb;obtain⟨⟨k,o⟩,A⟩:=q;obtain⟨⟨j,i⟩,E⟩:=r;cases k with
   | nil=>rw [<- o] at A;simp at A
   | cons s k=>
    cases j with
    | nil=>rw [<- i] at E;simp at E
    | cons t j=>
     have O:y=(s,if k=[] then kd a.fl else 3):=by
      rw [<- ha];unfold Qat;rw [<- o];have g:gS (p++s::k) p.length=s:=by simp [gS,List.getD]
      rw [g];cases k<;>simp
     have Q:z=(t,if j=[] then kd b.fl else 3):=by
      rw [<- hb];unfold Qat;rw [<- i];have g:gS (p++t::j) p.length=t:=by simp [gS,List.getD]
      rw [g];cases j<;>simp
     unfold QaG at h;rw [<- o,<- i,QgY] at h;rw [O,Q];unfold Qb7;simp only [QaE] at h;by_cases m:QbE s t=0
     ·rw [if_pos m] at h;simp only [orI,m,if_true];have V:kd b.fl<=3:=by cases b.fl<;>decide
      have U:kd a.fl<=3:=by cases a.fl<;>decide
      cases k with
      | nil=>
       cases j with
       | nil=>
        simp only [if_true];simp only [QaE,orI,if_true] at h;by_cases M:QaT (kd a.fl) (kd b.fl)=0
        ·omega
        ·rw [if_neg M] at h;omega
       | cons u j=>
        simp only [if_true,reduceCtorEq,if_false];unfold QaT;split
        ·omega
        ·split<;>omega
      | cons u k=>
       cases j with
       | nil=>simp [QaE,orI] at h
       | cons v j=>simp [QaT]
     ·rw [if_neg m] at h;simp only [orI,m,if_false] at h ⊢;omega
  ·rw [Qaj r] at hb;simp at hb
 ·rw [Qaj q] at ha;simp at ha
noncomputable def kS (l:List Lf)(p:List ByteArray):Nat ->List Ky
 | 0=>[]
 | k+1=>match nx p (gL l k) with
  | none=>kS l p k
  | some y=>if yes ((kS l p k).getLast? =some y)=true then kS l p k else kS l p k++[y]
theorem Qcu {l:List Lf}{p:List ByteArray}{k:Nat}(h:nx p (gL l k)=none):kS l p (k+1)=kS l p k:=by simp only [kS,h]
theorem Qcv {l:List Lf}{p:List ByteArray}{k:Nat}{y:Ky}(h:nx p (gL l k)=some y):kS l p (k+1)=if yes ((kS l p k).getLast? =some y)=true then kS l p k else kS l p k++[y]:=by simp only [kS,h]
theorem Qev (l:List Lf)(p:List ByteArray):∀k,(kS l p k).length<=k
 | 0=>by simp [kS]
 | k+1=>by
  have j:=Qev l p k;cases h:nx p (gL l k) with
  | none=>rw [Qcu h];omega
  | some y=>rw [Qcv h];split<;>simp<;>omega
theorem QdJ {R F T:Nat ->Int}{n:Nat}{l:List Lf}(p:List ByteArray)(h:QbQ R F T n l l.length):∀k,k<=l.length ->(kS l p k).Pairwise (fun x y=>Qb7 x y<0)/\∀y,y∈kS l p k↔∃j,j<k/\ nx p (gL l j)=some y
 | 0,_=>⟨List.Pairwise.nil,fun y=>by simp [kS]⟩
 | k+1,hk=>by
  obtain⟨r,i⟩:=QdJ p h k (by omega);have t:∀y,(∃j,j<k+1/\ nx p (gL l j)=some y)↔y∈kS l p k \/nx p (gL l k)=some y:=fun y=>by
   rw [i];constructor
   ·rintro⟨j,v,e⟩;by_cases s:j=k
    ·subst s;exact .inr e
    ·exact .inl ⟨j,by omega,e⟩
   ·rintro(⟨j,v,e⟩|e)
    ·exact⟨j,by omega,e⟩
    ·exact⟨k,by omega,e⟩
  cases hn:nx p (gL l k) with
  | none=>
   rw [Qcu hn];refine⟨r,fun y=> ?_⟩;rw [t y,hn];simp
  | some z=>
   have g:∀y∈kS l p k,Qb7 y z<=0:=fun y hy=>by
    obtain⟨j,v,e⟩:=(i y).1 hy;exact QbH (h.lt k v (by omega)) e hn
   rw [Qcv hn];by_cases e:(kS l p k).getLast? =some z
   ·rw [if_pos (Qal e)];refine⟨r,fun y=> ?_⟩;rw [t y,hn];constructor
    ·exact .inl
    ·rintro(m|m)
     ·exact m
     ·injection m with m;subst m;exact List.mem_of_getLast? e
   ·rw [if_neg (by rw [Qaj e];simp)];have q:z ∉ kS l p k:=fun q=>by
     obtain⟨b,u,E⟩:∃b u,kS l p k=b++[u]:=by
      refine⟨(kS l p k).dropLast,(kS l p k).getLast (List.ne_nil_of_mem q),(List.dropLast_concat_getLast _).symm⟩
     rw [E] at q g e r;simp at e;rcases List.mem_append.1 q with m|m
     ·have o:=(List.pairwise_append.1 r).2.2 z m u (by simp);have M:=g u (by simp);have A:=QaF.key.neg z u;have:0<Qb7 u z:=A.1 o;omega
     ·simp at m;exact e m.symm
    refine⟨List.pairwise_append.2 ⟨r,List.pairwise_singleton _ _,fun x hx y hy=> ?_⟩,fun y=> ?_⟩
    ·simp at hy;subst hy;have m:=g x hx;have o:Qb7 x y≠0:=fun e=>q ((QaF.key.z x y).1 e ▸ hx);omega
    ·rw [t y,hn];simp only [List.mem_append,List.mem_singleton,Option.some.injEq];exact⟨fun h=>h.imp id Eq.symm,fun h=>h.imp id Eq.symm⟩
theorem QiU {R F T:Nat ->Int}{n:Nat}{l:List Lf}{N:List Ky ->Option (Nat×Nat)}{p:List ByteArray}{ts:List Ky}(h:QbQ R F T n l l.length)(hI:NkI l l.length N)(h1:ts.Pairwise (fun x y=>Qb7 x y<0))(h2:∀x,x∈ts↔N (Qac p 3++[x])≠none):ts=kS l p l.length:=by
 obtain⟨m,q⟩:=QdJ p h l.length zL;refine QaF.key.uniq h1 m fun x=> ?_;rw [h2,q];have:=hI (Qac p 3++[x]);rw [Option.isSome_iff_ne_none] at this;rw [this];simp only [List.append_eq_nil_iff,List.cons_ne_self,and_false,false_or,reduceCtorEq];constructor
 ·rintro⟨j,k,e⟩;exact⟨j,k,Qhq.1 e⟩
 ·rintro⟨j,k,e⟩;exact⟨j,k,Qhq.2 e⟩
noncomputable def rV (l:List Lf)(p:List ByteArray):Nat ->List ByteArray
 | 0=>[]
 | k+1=>if yes ((gL l k).fl=false/\ (gL l k).p=p)=true then rV l p k++[(gL l k).v] else rV l p k
theorem QnM {l:List Lf}{p:List ByteArray}{s:ByteArray}:∀{k:Nat},s∈rV l p k↔∃j,j<k/\ (gL l j).fl=false/\ (gL l j).p=p/\ (gL l j).v=s
 | 0=>by simp [rV]
 | k+1=>by
  have y:=QnM (l:=l) (p:=p) (s:=s) (k:=k);simp only [rV];by_cases e:(gL l k).fl=false/\ (gL l k).p=p
  ·rw [if_pos (Qal e),List.mem_append,y,List.mem_singleton];constructor
   ·rintro(⟨j,u,r⟩|r)
    ·exact⟨j,by omega,r⟩
    ·exact⟨k,by omega,e.1,e.2,r.symm⟩
   ·rintro⟨j,u,r1,r2,m⟩;by_cases q:j=k
    ·subst q;exact .inr m.symm
    ·exact .inl ⟨j,by omega,r1,r2,m⟩
  ·rw [if_neg (by rw [Qaj e];simp),y];constructor
   ·rintro⟨j,u,r⟩;exact⟨j,by omega,r⟩
   ·rintro⟨j,u,r1,r2,m⟩;by_cases q:j=k
    ·subst q;exact absurd ⟨r1,r2⟩ e
    ·exact⟨j,by omega,r1,r2,m⟩
theorem QkU {l:List Lf}{p:List Ky}{d:Dt}{s:ByteArray}:∀{k:Nat},Dis l k ->(Mk l k p d=some s↔∃j,j<k/\ Way (gL l j)=p/\ ((gL l j).r,(gL l j).q)=d/\ (gL l j).v=s)
 | 0,_=>⟨fun h=>by simp [Mk] at h,fun⟨j,m,_⟩=>by omega⟩
 | k+1,hd=>by
  have g:=QkU (l:=l) (p:=p) (d:=d) (s:=s) (k:=k) (fun i hi j m=>hd i (by omega) j m);simp only [Mk];by_cases e:p=Qac (gL l k).p (kd (gL l k).fl)
  ·rw [e,QbD,<- e];by_cases z:d=((gL l k).r,(gL l k).q)
   ·rw [z,Qax];constructor
    ·intro h;injection h with h;exact⟨k,by omega,e.symm,rfl,h⟩
    ·rintro⟨j,m,r1,r2,y⟩;by_cases u:j=k
     ·subst u;rw [y]
     ·have:=hd k (by omega) j (by omega);exact absurd ⟨congrArg Prod.fst r2,congrArg Prod.snd r2⟩ this
   ·rw [Qan _ _ z,g];constructor
    ·rintro⟨j,m,r⟩;exact⟨j,by omega,r⟩
    ·rintro⟨j,m,r1,r2,y⟩;by_cases u:j=k
     ·subst u;exact absurd r2.symm z
     ·exact⟨j,by omega,r1,r2,y⟩
  ·rw [Qbd _ _ _ e,g];constructor
   ·rintro⟨j,m,r⟩;exact⟨j,by omega,r⟩
   ·rintro⟨j,m,r1,r2,y⟩;by_cases u:j=k
    ·subst u;exact absurd r1.symm e
    ·exact⟨j,by omega,r1,r2,y⟩
end Go.Proofs.YtdeolligikjieaaGreatDoor
