import Derived.Test.YtfidfeilljlbiaaGreatFrg08
import Derived.Shelf.SlSortCmp.WholeK
set_option linter.unusedVariables false
set_option linter.unusedSimpArgs false
set_option maxRecDepth 100000
set_option maxHeartbeats 40000000
namespace Go.Proofs.YtfidfeilljlbiaaGreat
open Go.ChangeShapes Go.WideShapes Go.ChangeAt Go.RowKit Go.Maps
theorem SSeg.gt {w w1:World}{B:Nat}{a:Option Addr}{p:List ByteArray}(h:SSeg w a p)(hg:Gt B w w1):SSeg w1 a p:=by
 refine h.imp id ?_;rintro⟨b,Hb,e,Ha,hc⟩;exact⟨b,Hb,e,Nat.lt_of_lt_of_le Ha hg.size,fun i hi=>hg.cell (hc i hi)⟩
theorem LSeg.gt {w w1:World}{B:Nat}{a:Option Addr}{l:List Lf}(h:LSeg w a l)(hg:Gt B w w1):LSeg w1 a l:=by
 refine h.imp id ?_;rintro⟨b,Hb,e,Ha,hc⟩;refine⟨b,Hb,e,Nat.lt_of_lt_of_le Ha hg.size,fun i hi=> ?_⟩;obtain⟨pa,pc,c0,s,c1,c2,c3,c4⟩:=hc i hi;exact⟨pa,pc,hg.cell c0,s.gt hg,hg.cell c1,hg.cell c2,hg.cell c3,hg.cell c4⟩
def onWay (p:List ByteArray)(k:Int)(i:Nat):Ky:=(gS p i,if i+1<p.length then 3 else k)
theorem keyOnWay (p:List ByteArray)(a:Option Addr)(c:Nat)(k:Int)(i:Nat)(w:World)(hp:p.length<=1048576)(hi:i<p.length)(h:SSeg w a p):
  Calls Tryz.prog 60 #[.slice a p.length c,.int .i64 i,.int .i64 k] w fun e w'=>e=.returned (keyV (onWay p k i))/\ Below w.heap.size w w':=by
 rcases h with h|⟨b,Hc,rfl,hb,hc⟩
 ·omega
 have x0:=hc i hi;have i0:(0:Int)<=(i:Int):=Int.natCast_nonneg _;have i1:(i:Int)<(p.length:Int):=by omega
 obtain⟨s,hs⟩:∃s,gS p i=s:=⟨_,rfl⟩;rw [hs] at x0;have HK:Hid (onWay p k i=(s,if i+1<p.length then 3 else k)):=hid (by unfold onWay;rw [hs]);obtain⟨m,hm⟩:∃m:Nat,p.length=m+1:=⟨p.length - 1,by omega⟩;have Hb:IntKind.i64.wrap ((p.length:Int) - 1)=(m:Int):=by rw [IntKind.wrap_i64];omega
 clear hs hc;by_cases hl:i+1<p.length
 ·have d0:decide (i<m)=true:=by simp;omega
  have Ha:=hid (show onWay p k i=(s,3) by rw [HK.out,if_pos hl]);clear HK hl hm;go_enter Tryz.func60,Tryz.ntmps60;go_wp2_with fail;refine zF (v:=.agg #[.string s,.int .i64 3]) (by simp [results,Tryz.results60,go_sem]) ⟨by rw [Ha.out];rfl,?_⟩;exact zO _ _
 ·have d0:decide (i<m)=false:=by simp;omega
  have Ha:=hid (show onWay p k i=(s,k) by rw [HK.out,if_neg hl]);clear HK hl hm;go_enter Tryz.func60,Tryz.ntmps60;go_wp2_with fail;refine zF (v:=.agg #[.string s,.int .i64 k]) (by simp [results,Tryz.results60,go_sem]) ⟨by rw [Ha.out];rfl,?_⟩;exact zO _ _
theorem newNode (w:World):
  Calls Tryz.prog 54 #[] w fun e w'=>∃s s',e=.returned (.agg #[.map (some s),.map (some s')])/\ s≠s'/\ w.heap.size<=s/\ w.heap.size<=s'/\ MapF w' 114 (α:=Ky) keyV nodV s 0 (fun _=>none)/\ MapF w' 58 (α:=Dt) dtV mrkV s' 0 (fun _=>none)/\ Below w.heap.size w w':=by
 have Ha:=@run_makeMap Tryz.prog;have H1:=hid ((MapF.made (α:=Ky) (w.alloc (.cells #[.map (some (w.heap.size+1)),.map (some (w.heap.size+1+1))] 65)) 114 keyV nodV).same (w':=(((w.alloc (.cells #[.map (some (w.heap.size+1)),.map (some (w.heap.size+1+1))] 65)).alloc (.map #[] 0)).alloc (.map #[] 0))) (Below.heap_alloc _ _ _ (by simp)));have H2:=hid (MapF.made (α:=Dt) ((w.alloc (.cells #[.map (some (w.heap.size+1)),.map (some (w.heap.size+1+1))] 65)).alloc (.map #[] 0)) 58 dtV mrkV);go_enter Tryz.func54,Tryz.ntmps54;go_wp2_with fail;refine zF (v:=.agg #[.map (some (w.heap.size+1)),.map (some (w.heap.size+1+1))]) (by simp [results,Tryz.results54,go_sem]) ⟨_,_,rfl,by omega,by omega,by omega,by simpa using H1.out,by simpa using H2.out,?_⟩;exact((zO _ _).alloc (by simp) _).alloc (by simp;omega) _
structure Bx2 (w:World)(b:Nat)(v0 v1:Value):Prop where
 c0:w.cell? ⟨b,0,none⟩=some v0
 c1:w.cell? ⟨b,1,none⟩=some v1
 f:∀i,w.frozen? ⟨b,i,none⟩=false
 lt:b<w.heap.size
theorem Bx2.below {w w':World}{B b:Nat}{v0 v1:Value}(h:Bx2 w b v0 v1)(hb:Below B w w')(hB:b<B):Bx2 w' b v0 v1:=
 ⟨(hb.cell (p:=⟨b,0,none⟩) hB).trans h.c0,(hb.cell (p:=⟨b,1,none⟩) hB).trans h.c1,fun i=>(hb.frozen (p:=⟨b,i,none⟩) hB).trans (h.f i),Nat.lt_of_lt_of_le h.lt hb.size⟩
theorem Bx2.gt {w w':World}{B b:Nat}{v0 v1:Value}(h:Bx2 w b v0 v1)(hg:Gt B w w'):Bx2 w' b v0 v1:=
 ⟨hg.cell h.c0,hg.cell h.c1,fun i=>(hg.frozen (q:=⟨b,i,none⟩) h.c0 rfl).trans (h.f i),Nat.lt_of_lt_of_le h.lt hg.size⟩
theorem Bx2.setAt {w:World}{b:Nat}{v0 v1:Value}(h:Bx2 w b v0 v1)(q:Addr)(u:Value)(hq:q.block≠b):Bx2 (w.setCell q u) b v0 v1:=
 ⟨by rw [World.cell?_setCell_far _ _ _ _ hq];exact h.c0,by rw [World.cell?_setCell_far _ _ _ _ hq];exact h.c1,fun i=>by rw [World.frozen?_setCell];exact h.f i,by simp [World.setCell];exact h.lt⟩
theorem Bx2.set0 {w:World}{b:Nat}{v0 v1:Value}(h:Bx2 w b v0 v1)(u:Value):Bx2 (w.setCell ⟨b,0,none⟩ u) b u v1:=
 ⟨World.cell?_setCell_same _ _ _ h.c0,by simp [World.cell?_setCell_other,h.c1],fun i=>by rw [World.frozen?_setCell];exact h.f i,by simp [World.setCell];exact h.lt⟩
theorem Bx2.set1 {w:World}{b:Nat}{v0 v1:Value}(h:Bx2 w b v0 v1)(u:Value):Bx2 (w.setCell ⟨b,1,none⟩ u) b v0 u:=
 ⟨by simp [World.cell?_setCell_other,h.c0],World.cell?_setCell_same _ _ _ h.c1,fun i=>by rw [World.frozen?_setCell];exact h.f i,by simp [World.setCell];exact h.lt⟩
theorem Bx2.set {w:World}{b:Nat}{v0 v1:Value}(h:Bx2 w b v0 v1)(u u':Value):Bx2 ((w.setCell ⟨b,0,none⟩ u).setCell ⟨b,1,none⟩ u') b u u':=(h.set0 u).set1 u'
theorem Bx2.made (w:World)(v0 v1:Value)(t:TypeId):Bx2 (w.alloc (.cells #[v0,v1] t)) w.heap.size v0 v1:=⟨by simp,by simp,fun i=>by simp,by simp⟩
theorem Bx2.allocs {w:World}{b:Nat}{v0 v1:Value}(h:Bx2 w b v0 v1)(o:Obj):Bx2 (w.alloc o) b v0 v1:=h.below (zO _ o) h.lt
structure Bx1 (w:World)(b:Nat)(v0:Value):Prop where
 c0:w.cell? ⟨b,0,none⟩=some v0
 f:∀i,w.frozen? ⟨b,i,none⟩=false
 lt:b<w.heap.size
theorem Bx1.below {w w':World}{B b:Nat}{v0:Value}(h:Bx1 w b v0)(hb:Below B w w')(hB:b<B):Bx1 w' b v0:=
 ⟨(hb.cell (p:=⟨b,0,none⟩) hB).trans h.c0,fun i=>(hb.frozen (p:=⟨b,i,none⟩) hB).trans (h.f i),Nat.lt_of_lt_of_le h.lt hb.size⟩
theorem Bx1.gt {w w':World}{B b:Nat}{v0:Value}(h:Bx1 w b v0)(hg:Gt B w w'):Bx1 w' b v0:=
 ⟨hg.cell h.c0,fun i=>(hg.frozen (q:=⟨b,i,none⟩) h.c0 rfl).trans (h.f i),Nat.lt_of_lt_of_le h.lt hg.size⟩
theorem Bx1.setAt {w:World}{b:Nat}{v0:Value}(h:Bx1 w b v0)(q:Addr)(u:Value)(hq:q.block≠b):Bx1 (w.setCell q u) b v0:=
 ⟨by rw [World.cell?_setCell_far _ _ _ _ hq];exact h.c0,fun i=>by rw [World.frozen?_setCell];exact h.f i,by simp [World.setCell];exact h.lt⟩
theorem Bx1.made (w:World)(v0:Value)(t:TypeId):Bx1 (w.alloc (.cells #[v0] t)) w.heap.size v0:=⟨by simp,fun i=>by simp,by simp⟩
theorem Gt.set {B:Nat}{w wr:World}(h:Gt B w wr)(q:Addr)(u:Value)(hq:w.heap.size<=q.block):Gt B w (wr.setCell q u):=
 ⟨h.os,h.tape,h.output,by simpa [World.setCell] using h.size,fun g hg ho=>(zH _ _ _ _ (by omega)).trans (h.block g hg ho)⟩
theorem Gt.keep {B:Nat}{w wr w1:World}(h:Gt B w wr)(hb:Below wr.heap.size wr w1):Gt B w w1:=h.trans (Gt.of_below hb)
theorem wpList_mapUpdate_F {α β:Type}(w:World){ops:Array Oper}{rest:List Oper}{o:Oper}{a:Act}{Q:Exit ->Act ->World ->Prop}
  (hg:o.guard=none) (m x v:Operand) (mt:TypeId) (hop:o.op=Op.mapUpdate mt m x v) (t e:TypeId) (K:Keyed Tryz.prog t) (kv:α ->Value) (hi:∀x y,kv x=kv y ->x=y) (ht:Tryz.prog.underlying mt=some (.map t e)) (vo:Option β ->Value) (b c:Nat) (f:α ->Option β)
  (hm:a.eval m=.map (some b)) (h:MapF w t kv vo b c f) (hc:c<maxLen) (k:α) (y:β) (kl:Lit) (hx:a.eval x=kv k) (hv:a.eval v=vo (some y)) (hk:keyOf Tryz.prog t (kv k)=some kl)
  (hK:∀w',MapF w' t kv vo b (c+1) (updF f k (some y)) ->w.grownBy w' (some b) ->wpList Tryz.prog ops Q rest (a.put o.dst undef) w'):
  wpList Tryz.prog ops Q (o::rest) a w:=by
 refine wpList_plain hg fun K' hK'=> ?_;obtain⟨w',Ha,r1,r2⟩:=h.store K hi ht hc (y:=y) hk;unfold Oper.wp;simp [execOp,hop,hm,hx,hv,Ha,Result.andThen];exact hK' _ _ (hK w' r1 r2)
theorem zeroNode (w:World):(zeroValue 65).run Tryz.prog w=.ok (nodV none) w:=by kernel_rfl
theorem zeroMark (w:World):(zeroValue 74).run Tryz.prog w=.ok (mrkV none) w:=by kernel_rfl
structure PB (w:World)(h:Nat)(x:Nat×Nat)(r q:Int)(s:ByteArray):Prop where
 n:Bx2 w h (.map (some x.1)) (.map (some x.2))
 d:Bx2 w (h+1) (.int .i64 r) (.int .i64 q)
 m:Bx1 w (h+2) (.string s)
theorem PB.below {w w':World}{h:Nat}{x:Nat×Nat}{r q:Int}{s:ByteArray}(p:PB w h x r q s)(hb:Below w.heap.size w w'):PB w' h x r q s:=⟨p.n.below hb p.n.lt,p.d.below hb p.d.lt,p.m.below hb p.m.lt⟩
theorem PB.gt {w w':World}{B h:Nat}{x:Nat×Nat}{r q:Int}{s:ByteArray}(p:PB w h x r q s)(hb:Gt B w w'):PB w' h x r q s:=⟨p.n.gt hb,p.d.gt hb,p.m.gt hb⟩
theorem PB.set {w:World}{h:Nat}{x:Nat×Nat}{r q:Int}{s:ByteArray}(p:PB w h x r q s)(y:Nat×Nat):PB ((w.setCell ⟨h,0,none⟩ (.map (some y.1))).setCell ⟨h,1,none⟩ (.map (some y.2))) h y r q s:=
 ⟨p.n.set _ _,(p.d.setAt _ _ (by simp)).setAt _ _ (by simp),(p.m.setAt _ _ (by simp)).setAt _ _ (by simp)⟩
theorem PB.setAt {w:World}{h:Nat}{x:Nat×Nat}{r q:Int}{s:ByteArray}(p:PB w h x r q s)(a:Addr)(u:Value)(ha:h+2<a.block):PB (w.setCell a u) h x r q s:=
 ⟨p.n.setAt _ _ (by omega),p.d.setAt _ _ (by omega),p.m.setAt _ _ (by omega)⟩
theorem putX (X:Nat)(p:List ByteArray)(a:Option Addr)(cp:Nat)(k:Int)(r q:Int)(s:ByteArray)(B c:Nat)(N:List Ky ->Option (Nat×Nat))(M:List Ky ->Dt ->Option ByteArray)(x0:Nat×Nat)(w:World)
  (hp:p.length<=1048576) (hs:∀i,(gS p i).size<=1048576) (hk:(Lit.int .i64 k).wf=true) (hr:(Lit.int .i64 r).wf=true) (hq:(Lit.int .i64 q).wf=true) (hc:c<=1073741824) (hB:B<=w.heap.size) (h:SSeg w a p) (hT:Tre w B N M c) (h0:N []=some x0) (hX:X<w.heap.size) (hXN:∀z x,N z=some x ->x.1≠X/\ x.2≠X):
  Calls Tryz.prog 56 #[.agg #[.map (some x0.1),.map (some x0.2)],.slice a p.length cp,.int .i64 k,.agg #[.int .i64 r,.int .i64 q],.agg #[.string s]] w fun e w'=>e=.returned (.tuple #[])/\ Gt B w w'/\ w'.heap[X]? =w.heap[X]? /\
   ∃N',Tre w' B N' (updM M (wayOf p k) (r,q) s) (c+p.length+1)/\ N' []=some x0/\∀z,(N' z).isSome=true↔(N z).isSome=true \/z <+:wayOf p k:=by
 obtain⟨W,hW⟩:∃W,((w.alloc (.cells #[.map (some x0.1),.map (some x0.2)] 65)).alloc (.cells #[.int .i64 r,.int .i64 q] 58)).alloc (.cells #[.string s] 74)=W:=⟨_,rfl⟩;have b0:Below w.heap.size w W:=by rw [<- hW];exact((zO _ _).alloc (by simp) _).alloc (by simp;omega) _
 have P0:PB W w.heap.size x0 r q s:=by
  have d1:=Bx2.made (w.alloc (.cells #[.map (some x0.1),.map (some x0.2)] 65)) (.int .i64 r) (.int .i64 q) 58;have m1:=Bx1.made ((w.alloc (.cells #[.map (some x0.1),.map (some x0.2)] 65)).alloc (.cells #[.int .i64 r,.int .i64 q] 58)) (.string s) 74;rw [<- hW];exact⟨((Bx2.made w _ _ _).allocs _).allocs _,by simpa using d1.allocs _,by simpa using m1⟩
 have Gk:Hid (W.heap[X]? =w.heap[X]?):=hid (b0.block X hX);have Hk:=hid hXN;have Gm:=hid hX;have HS:=hid h;have Gh:=hid P0;have Gj:=hid (hT.below b0);have Gg:=hid (Gt.of_below (B:=B) b0);have H0:=hid h0;have HB:=hid hB;have Hs:=hid hs;clear h hT h0 b0 P0 hs hB hX hXN;go_enter Tryz.func56,Tryz.ntmps56;go_wp2_with fail;try rw [hW]
 clear hW;go_loopw [16] (fun i wr=>∃j:Nat,j<=p.length/\ i=.int .i64 j/\ Hid (Gt B w wr)/\ (∃Nk x,Hid (Tre wr B Nk M (c+j))/\ Hid (Nk []=some x0)/\ Hid (Nk ((wayOf p k).take j)=some x)/\ Hid (∀z,(Nk z).isSome=true↔(N z).isSome=true \/z <+:(wayOf p k).take j)/\ Hid (PB wr w.heap.size x r q s)/\ Hid (wr.heap[X]? =w.heap[X]?)/\ Hid (∀z x,Nk z=some x ->x.1≠X/\ x.2≠X))) (fun i _=>p.length - (intOf i).toNat);case atStart=>
  refine⟨0,Nat.zero_le _,rfl,Gg,N,x0,Gj,H0,hid (by simpa using H0.out),hid (fun z=> ?_),Gh,Gk,Hk⟩;simp only [List.take_zero,List.prefix_nil];exact⟨fun h=> .inl h,fun h=>h.elim id (fun e=>by rw [e,H0.out];rfl)⟩
 case round=>
  clear Gj Gg Gh Gk Hk;obtain⟨j,hj,rfl,HG,Nk,x,HT,H6,Hb,HI,HP,HX,Hx⟩:=hrel;have Gc:Hid (X<wr.heap.size):=hid (Nat.lt_of_lt_of_le Gm.out HG.out.size);have Hy:Hid (w.heap.size≠X):=hid (by have:=Gm.out;omega);by_cases Hz:j<p.length
  ·have i1:(0:Int)<=(j:Int):=Int.natCast_nonneg _;have i2:(j:Int)<(p.length:Int):=by omega
   have Hr:=hid (keyOnWay p a cp k j wr hp Hz (HS.out.gt HG.out));obtain⟨nm,kd,Ha⟩:∃nm kd,onWay p k j=(nm,kd):=⟨_,_,rfl⟩;have H4:=hid Ha;rw [Ha] at Hr;obtain⟨kl,Hl⟩:∃kl,keyOf Tryz.prog 114 (keyV (nm,kd))=some kl:=by
    unfold onWay at Ha;have e1:=(Prod.mk.inj Ha).1;have e2:=(Prod.mk.inj Ha).2;refine keyKey ?_ ?_
    ·rw [<- e1];have:=Hs.out j;unfold maxLen;omega
    ·rw [<- e2];split
     ·decide
     ·exact hk
   have Hq:=hid Hl;clear Ha Hl;dsimp only [keyV] at Hr;go_wp2_with fail;refine Hr.out.mono ?_;rintro e w1 ⟨rfl,b1⟩;obtain⟨w2,Gf⟩:∃w2,w1.alloc (.cells #[.string nm,.int .i64 kd] 114)=w2:=⟨_,rfl⟩;have b2:Below wr.heap.size wr w2:=by rw [<- Gf];exact b1.alloc b1.size _
   have Hp:Bx2 w2 w1.heap.size (.string nm) (.int .i64 kd):=by rw [<- Gf];exact Bx2.made _ _ _ _
   have Hu:=HP.out.below b2;have Hw:=hid (HT.out.below b2);have H1:=hid (HG.out.keep b2);have Gl:Hid (w2.heap[X]? =w.heap[X]?):=hid ((b2.block X Gc.out).trans HX.out);have He:Hid (X<w2.heap.size):=hid (Nat.lt_of_lt_of_le Gc.out b2.size);have e0:=Hu.n.c0;have e1:=Hp.c0;have e2:=Hp.c1;have H8:=hid Hu;have H3:=hid Hp;have Gu:Hid (w.heap.size+2<w2.heap.size):=hid Hu.m.lt;have Hm:=(Hw.out.kids _ x Hb.out).look_ok (mt:=62) keyKeyed Tryz.underlying62 (zeroNode w2) Hq.out;clear Hp Hu b1 b2 Hr HT HG HP;dsimp only [keyV] at Hm;have Gp:(wayOf p k).take (j+1)=(wayOf p k).take j++[(nm,kd)]:=by rw [wayOf_take Hz];have:=H4.out;unfold onWay at this;rw [this]
   have Hv:=hid Gp;clear Gp;cases hNy:Nk ((wayOf p k).take j++[(nm,kd)]) with
   | some y=>
    rw [hNy] at Hm;dsimp only [nodV,Option.isSome] at Hm;have Ht:=hid hNy;clear hNy;obtain⟨w3,Hi⟩:∃w3,w2.alloc (.cells #[.map (some y.1),.map (some y.2)] 65)=w3:=⟨_,rfl⟩;have b3:Below w2.heap.size w2 w3:=by rw [<- Hi];exact zO _ _
    have KB:Bx2 w3 w2.heap.size (.map (some y.1)) (.map (some y.2)):=by rw [<- Hi];exact Bx2.made _ _ _ _
    have g0:=KB.c0;have g1:=KB.c1;have P3:=H8.out.below b3;have n0:=P3.n.c0;have n1:=P3.n.c1;have f0:=P3.n.f 0;have f1:=P3.n.f 1;have Hj:=hid ((Hw.out.below b3).set (q:=⟨w.heap.size,0,none⟩) (.map (some y.1)) n0);have Gv:=hid (Hj.out.set (q:=⟨w.heap.size,1,none⟩) (.map (some y.2)) ((P3.n.set0 _).c1));have Ho:=hid (((H1.out.keep b3).set ⟨w.heap.size,0,none⟩ (.map (some y.1)) zL).set ⟨w.heap.size,1,none⟩ (.map (some y.2)) zL);have Gs:=hid (P3.set y);have Gy:Hid (((w3.setCell ⟨w.heap.size,0,none⟩ (.map (some y.1))).setCell ⟨w.heap.size,1,none⟩ (.map (some y.2))).heap[X]? =w.heap[X]?):=hid (by
     rw [zH _ _ _ _ (by exact Hy.out.symm),zH _ _ _ _ (by exact Hy.out.symm)];exact(b3.block X He.out).trans Gl.out)
    clear b3 KB P3 Hj;go_wp2_with fail;go_roundw;case rel=>
     refine⟨j+1,Hz,by go_num,Ho,Nk,y,hid (Gv.out.mono (by omega)),H6,hid (by rw [Hv.out];exact Ht.out),hid (fun z=> ?_),Gs,Gy,Hx⟩;rw [HI.out z,take_pre Hv.out];constructor
     ·rintro(e|e)
      ·exact .inl e
      ·exact .inr (.inl e)
     ·rintro(e|e|e)
      ·exact .inl e
      ·exact .inr e
      ·exact(HI.out z).1 (by rw [e,Ht.out];rfl)
    case measure=>simp [intOf];omega
   | none=>
    rw [hNy] at Hm;dsimp only [nodV,Option.isSome] at Hm;have Ht:=hid hNy;clear hNy;obtain⟨w3,Hi⟩:∃w3,w2.alloc (.cells #[.map none,.map none] 65)=w3:=⟨_,rfl⟩;have b3:Below w2.heap.size w2 w3:=by rw [<- Hi];exact zO _ _
    have KB:Bx2 w3 w2.heap.size (.map none) (.map none):=by rw [<- Hi];exact Bx2.made _ _ _ _
    have Hc:=hid KB;have Hd:=hid (H3.out.below b3 H3.out.lt);have H7:=hid (H8.out.below b3);have Hj:=hid (Hw.out.below b3);have Ho:=hid (H1.out.keep b3);have G2:=hid b3.size;have Gx:Hid (w3.heap[X]? =w.heap[X]?):=hid ((b3.block X He.out).trans Gl.out);have Hg:Hid (X<w3.heap.size):=hid (Nat.lt_of_lt_of_le He.out b3.size);have Gw:=hid Hi;clear b3 KB H8 Hw H1 H3 Hi;go_wp2_with fail;rw [Gw.out];refine(newNode w3).mono ?_;rintro e w4 ⟨s1,s2,rfl,G0,G3,G4,m1,m2,b4⟩;have Hh:=Hc.out.below b4 Hc.out.lt;have g0:=Hh.c0;have g1:=Hh.c1;have h0:=Hh.f 0;have h1:=Hh.f 1;obtain⟨w5,Hf⟩:∃w5,(w4.setCell ⟨w2.heap.size,0,none⟩ (.map (some s1))).setCell ⟨w2.heap.size,1,none⟩ (.map (some s2))=w5:=⟨_,rfl⟩;have G8:w1.heap.size<w3.heap.size:=Hd.out.lt;have G7:=H7.out.m.lt;have Hn:w2.heap.size≠w1.heap.size:=by rw [<- Gf];simp
    have Gd:PB w5 w.heap.size x r q s/\ w.heap.size+2<w2.heap.size:=by
     have hz:w.heap.size+2<w2.heap.size:=Gu.out;rw [<- Hf];exact⟨((H7.out.below b4).setAt _ _ hz).setAt _ _ hz,hz⟩
    have K5:Bx2 w5 w2.heap.size (.map (some s1)) (.map (some s2)):=by rw [<- Hf];exact Hh.set _ _
    have Y5:Bx2 w5 w1.heap.size (.string nm) (.int .i64 kd):=by rw [<- Hf];exact((Hd.out.below b4 Hd.out.lt).setAt _ _ Hn).setAt _ _ Hn
    have T5:Tre w5 B Nk M (c+j):=by rw [<- Hf];exact((Hj.out.below b4).set _ g0).set _ (Hh.set0 _).c1
    have G5:Gt B w w5:=by rw [<- Hf];exact((Ho.out.keep b4).set _ _ (by show w.heap.size<=w2.heap.size;omega)).set _ _ (by show w.heap.size<=w2.heap.size;omega)
    have X5:w5.heap[X]? =w.heap[X]? :=by
     have Gr:X≠w2.heap.size:=by have:=He.out;omega
     rw [<- Hf,zH _ _ _ _ Gr,zH _ _ _ _ Gr];exact(b4.block X Hg.out).trans Gx.out
    have G1:w4.heap.size=w5.heap.size:=by rw [<- Hf];simp [World.setCell]
    have Gb:Hid (∀z x,updF Nk ((wayOf p k).take j++[(nm,kd)]) (some (s1,s2)) z=some x ->x.1≠X/\ x.2≠X):=hid (fun z y hy=>by
     have h3:=Hg.out;by_cases ez:z=(wayOf p k).take j++[(nm,kd)]
     ·rw [ez,updF_same] at hy;injection hy with hy;subst hy;exact⟨by show s1≠X;omega,by show s2≠X;omega⟩
     ·rw [updF_other _ _ ez] at hy;exact Hx.out z y hy)
    have Gn:s1≠w2.heap.size:=by intro e;have:=Hc.out.lt;omega
    have Go:s2≠w2.heap.size:=by intro e;have:=Hc.out.lt;omega
    have M1:MapF w5 114 (α:=Ky) keyV nodV s1 0 (fun _=>none):=by rw [<- Hf];exact(m1.same (zH _ _ _ _ Gn)).same (zH _ _ _ _ Gn)
    have M2:MapF w5 58 (α:=Dt) dtV mrkV s2 0 (fun _=>none):=by rw [<- Hf];exact(m2.same (zH _ _ _ _ Go)).same (zH _ _ _ _ Go)
    have c1:=Gd.1.n.c0;have c2:=Y5.c0;have c3:=Y5.c1;have c4:=K5.c0;have c5:=K5.c1;have HU:Hid (∀w6,MapF w6 114 keyV nodV x.1 (c+j+1) (updF (fun z=>Nk ((wayOf p k).take j++[z])) (nm,kd) (some (s1,s2))) ->w5.grownBy w6 (some x.1) ->Tre w6 B (updF Nk ((wayOf p k).take j++[(nm,kd)]) (some (s1,s2))) M (c+j+1)/\ Gt B w w6/\ PB w6 w.heap.size x r q s/\ Bx2 w6 w2.heap.size (.map (some s1)) (.map (some s2))/\ w6.heap[X]? =w.heap[X]?):=hid (fun w6 hu hg=>by
     have Gz:=(T5.lo _ x Hb.out).1;have Ge:=Gt.grown hg Gz (T5.kids _ x Hb.out).obj;refine⟨T5.add Hb.out Ht.out M1 M2 G0 (fun q z hz=> ?_) ⟨by have:=HB.out;omega,by have:=HB.out;omega⟩ hu hg,G5.trans Ge,Gd.1.gt Ge,K5.gt Ge,(hg.block X (by have:=Hg.out;have:=b4.size;omega) (fun e=>(Hx.out _ x Hb.out).1 (Option.some.inj e).symm)).trans X5⟩;have:=Hj.out.lt hz;exact⟨by omega,by omega,by omega,by omega⟩)
    have H5:=hid (T5.kids _ x Hb.out);clear Gd X5 G1 K5 Y5 T5 G5 M1 M2 m1 m2 b4 Hh Hc Hd H7 Hj Ho;go_wp2_with (refine wpList_mapUpdate_F _ rfl _ _ _ 62 rfl 114 65 keyKeyed keyV (fun _ _=>keyV_inj) Tryz.underlying62 nodV x.1 (c+j) (fun z=>Nk ((wayOf p k).take j++[z])) rfl H5.out (by unfold maxLen;omega) (nm,kd) (s1,s2) kl rfl rfl Hq.out ?_;intro w6 hu hg;obtain⟨T6,G6,P6,K6,X6⟩:=HU.out w6 hu hg;have Ga:=hid X6;clear X6;have H9:=hid T6;have H2:=hid G6;have Gi:=hid P6;have t0:=P6.n.c0;have t1:=P6.n.c1;have t2:=P6.n.f 0;have t3:=P6.n.f 1;have t4:=K6.c0;have t5:=K6.c1;clear hu hg T6 G6 P6 K6);go_roundw;case rel=>
     have T7:=(H9.out.set (q:=⟨w.heap.size,0,none⟩) (.map (some s1)) t0).set (q:=⟨w.heap.size,1,none⟩) (.map (some s2)) (Gi.out.n.set0 _).c1;refine⟨j+1,Hz,by go_num,hid ((H2.out.set _ _ zL).set _ _ zL),updF Nk ((wayOf p k).take j++[(nm,kd)]) (some (s1,s2)),(s1,s2),hid T7,hid ?_,hid ?_,hid (fun z=> ?_),hid (Gi.out.set (s1,s2)),hid ?_,Gb⟩
     ·rw [updF_other _ _ (by simp)];exact H6.out
     ·rw [Hv.out,updF_same]
     ·rw [take_pre Hv.out];by_cases ez:z=(wayOf p k).take j++[(nm,kd)]
      ·rw [ez,updF_same];exact⟨fun _=> .inr (.inr rfl),fun _=>rfl⟩
      ·rw [updF_other _ _ ez,HI.out z];constructor
       ·rintro(h|h)
        ·exact .inl h
        ·exact .inr (.inl h)
       ·rintro(h|h|h)
        ·exact .inl h
        ·exact .inr h
        ·exact absurd h ez
     ·rw [zH _ _ _ _ (by exact Hy.out.symm),zH _ _ _ _ (by exact Hy.out.symm)];exact Ga.out
    case measure=>simp [intOf];omega
  ·obtain rfl:j=p.length:=by omega
   have Gq:(wayOf p k).take p.length=wayOf p k:=List.take_of_length_le (by rw [wayOf_len];exact Nat.le_refl _);rw [Gq] at Hb HI;obtain⟨kl,Hl⟩:∃kl,keyOf Tryz.prog 58 (dtV (r,q))=some kl:=dotKey hr hq;have Hq:=hid Hl;have c0:=HP.out.n.c1;have c1:=HP.out.d.c0;have c2:=HP.out.d.c1;have c3:=HP.out.m.c0;have H5:=hid (HT.out.marks _ x Hb.out);have HU:Hid (∀w6,MapF w6 58 dtV mrkV x.2 (c+p.length+1) (updF (M (wayOf p k)) (r,q) (some s)) ->wr.grownBy w6 (some x.2) ->Tre w6 B Nk (updM M (wayOf p k) (r,q) s) (c+p.length+1)/\ Gt B w w6/\ w6.heap[X]? =w.heap[X]?):=hid (fun w6 hu hg=>
     ⟨HT.out.mark Hb.out hu hg,HG.out.trans (Gt.grown hg (HT.out.lo _ x Hb.out).2 (HT.out.marks _ x Hb.out).obj),(hg.block X Gc.out (fun e=>(Hx.out _ x Hb.out).2 (Option.some.inj e).symm)).trans HX.out⟩)
   clear Gq Hl HT HG HP;go_wp2_with (refine wpList_mapUpdate_F _ rfl _ _ _ 63 rfl 58 74 dotKeyed dtV (fun _ _=>dtV_inj) Tryz.underlying63 mrkV x.2 (c+p.length) (M (wayOf p k)) rfl H5.out (by unfold maxLen;omega) (r,q) s kl rfl rfl Hq.out ?_;intro w6 hu hg;obtain⟨T6,G6,X6⟩:=HU.out w6 hu hg;have Ga:=hid X6;clear X6;have H9:=hid T6;have H2:=hid G6;clear hu hg T6 G6);go_end0;exact⟨rfl,H2.out,Ga.out,Nk,H9.out,H6.out,HI.out⟩
theorem DotM.below {w w1:World}{bm k:Nat}{l:List Lf}{D:DataW Value}(h:DotM w bm k l D)(hb:Below w.heap.size w w1):DotM w1 bm k l D:=
 ⟨h.own.kept ⟨hb.os,hb.tape,hb.output,hb.size,fun k hk _=>hb.block k hk⟩ (by simp:some bm≠none),h.tidy,h.has',h.le,h.eq⟩
def LsOk (R F T:Nat ->Int)(n:Nat)(l:List Lf):Prop:=l.length<=1000/\ LvOk R F T n l l.length/\ Dis l l.length
theorem leavesOk (a:Option Addr)(c:Nat)(l:List Lf)(bm n:Nat)(M:DataW Value)(G:Int ->Value)(R F T:Nat ->Int)(w:World)(hn:l.length<=1048576)(hp:LBd l)(hi:∀i,LfI (gL l i))(h:LSeg w a l)
  (hG:GrpAt w bm n M G (Lk R F T n)) (hs:∀r,Srt (Lk R F T n r)) (hl:∀r,(Lk R F T n r).length<=1000000):
  Calls Tryz.prog 84 #[.slice a l.length c,.map (some bm)] w fun e w'=>e=.returned (.bool (yes (LsOk R F T n l)))/\ Below w.heap.size w w':=by
 have Gq:=@run_makeMap Tryz.prog;obtain⟨Y,hY⟩:∃Y,yes (LsOk R F T n l)=Y:=⟨_,rfl⟩;have HY:=hid hY;rw [hY];clear hY;have HL:=hid h;have HG:=hid hG;clear h hG;by_cases Hy:(1000:Int)<(l.length:Int)
 ·have d0:decide ((1000:Int)<(l.length:Int))=true:=by simpa using Hy
  have HF:Hid (Y=false):=hid (by rw [<- HY.out];exact yes_f (fun h=>by have:=h.1;omega));go_enter Tryz.func84,Tryz.ntmps84;go_wp2_with fail;go_ret;exact⟨ret_b HF.out.symm,zI⟩
 ·have d0:decide ((1000:Int)<(l.length:Int))=false:=by simpa using Hy
  go_enter Tryz.func84,Tryz.ntmps84;go_wp2_with fail;clear d0;have Gi:=hid (DotM.made w l);have Gf:Hid (Below w.heap.size w (w.alloc (.map #[] 0))):=hid (zO _ _);go_loopw [14] (fun i wr=>∃k:Nat,k<=l.length/\ i=.int .i64 k/\ Hid (Below w.heap.size w wr)/\ (∃D,Hid (DotM wr w.heap.size k l D))/\ Hid (LvOk R F T n l k)) (fun i _=>l.length - (intOf i).toNat);case atStart=>exact⟨0,Nat.zero_le _,rfl,Gf,⟨_,Gi⟩,hid (fun i hi=>by omega)⟩
  case round=>
   clear Gi Gf Gq;obtain⟨k,hk,rfl,Hh,⟨D,Hv⟩,HI⟩:=hrel;by_cases H1:k<l.length
   ·rcases HL.out with h|⟨b,Ha,rfl,hb,hc⟩
    ·omega
    obtain⟨pa,pc,c0,s,c1,c2,c3,c4⟩:=hc k H1;have x0:=(Hh.out.cell (p:=⟨b,Ha+k*5,none⟩) hb).trans c0;have x1:=(Hh.out.cell (p:=⟨b,Ha+k*5+1,none⟩) hb).trans c1;have x2:=(Hh.out.cell (p:=⟨b,Ha+k*5+2,none⟩) hb).trans c2;have x3:=(Hh.out.cell (p:=⟨b,Ha+k*5+3,none⟩) hb).trans c3;have x4:=(Hh.out.cell (p:=⟨b,Ha+k*5+4,none⟩) hb).trans c4;have HS:=hid (s.below Hh.out);have i1:(0:Int)<=(k:Int):=Int.natCast_nonneg _;have i2:(k:Int)<(l.length:Int):=by omega
    have Gn:=hid hc;have zr:w.heap.size<=wr.heap.size:=Hh.out.size;have Hs:=hi k;clear hc c0 c1 c2 c3 c4 s;obtain⟨y,hy⟩:∃y,gL l k=y:=⟨_,rfl⟩;have H2:=hp k;rw [hy] at HS x0 x1 x2 x3 x4 H2 Hs;have HE:=hid hy;clear hy;obtain⟨p,fl,r,q,v⟩:=y;dsimp only [LfI] at HS x0 x1 x2 x3 x4 H2 Hs;go_wp2_with fail;obtain⟨W2,H0⟩:∃W2,wr.alloc (.cells #[.slice pa p.length pc,.bool fl,.int .i64 r,.int .i64 q,.string v] 60)=W2:=⟨_,rfl⟩;have b2:Below wr.heap.size wr W2:=by rw [<- H0];exact zO _ _
    have B5:Bx5 W2 wr.heap.size (.slice pa p.length pc) (.bool fl) (.int .i64 r) (.int .i64 q) (.string v):=by rw [<- H0];exact⟨by simp,by simp,by simp,by simp,by simp,fun i=>by simp,by simp⟩
    have y0:=B5.c0;have y1:=B5.c1;have y2:=B5.c2;have y3:=B5.c3;have y4:=B5.c4;have z2:=B5.lt;have Hj:=hid b2;have Hd:=hid (Hh.out.trans (b2.mono Hh.out.size));have Gj:=hid (HS.out.below b2);have Go:=hid (HG.out.below Hd.out);rw [H0];clear H0 b2 B5 x0 x1 x2 x3 x4 HS;have Hk:Hid (¬(LfOk1 ⟨p,fl,r,q,v⟩/\ hasK R F T r q q n=true/\ (0<k ->cmpL (gL l (k - 1)) ⟨p,fl,r,q,v⟩<0)) ->Y=false):=hid (fun no=>by
     rw [<- HY.out];exact yes_f (fun h=>no (by have:=h.2.1 k H1;rw [HE.out] at this;exact this)))
    obtain⟨Y1,Gb⟩:∃Y1,yes (LfOk1 ⟨p,fl,r,q,v⟩)=Y1:=⟨_,rfl⟩;have Ga:=hid Gb;have Hw:Hid (∀W,Below W2.heap.size W2 W ->Calls Tryz.prog 114 #[.agg #[.slice pa p.length pc,.bool fl,.int .i64 r,.int .i64 q,.string v]] W fun e w'=>e=.returned (.bool Y1)/\ Below W.heap.size W w'):=hid (fun W hB=>by rw [<- Gb];exact leafOk pa pc p fl r q v W H2 (Gj.out.below hB));obtain⟨A,hA⟩:∃A,hasK R F T r q q n=A:=⟨_,rfl⟩;have HA:=hid hA;have Hz:Hid (∀W,Below W2.heap.size W2 W ->Calls Tryz.prog 115 #[.map (some bm),.agg #[.int .i64 r,.int .i64 q]] W fun e w'=>e=.returned (.bool A)/\ Below W.heap.size W w'):=hid (fun W hB=>by rw [<- hA,<- in_hasK];exact hasM (Go.out.below hB) r q Hs.1 (hs r) (hl r));clear Gb hA;cases Y1 with
    | false=>
     have Hb:Hid (∀w',Below W2.heap.size W2 w' ->(Below W2.heap.size W2 w'/\ w'.cell? ⟨wr.heap.size,0,none⟩=some (.slice pa p.length pc)/\ w'.cell? ⟨wr.heap.size,1,none⟩=some (.bool fl)/\ w'.cell? ⟨wr.heap.size,2,none⟩=some (.int .i64 r)/\ w'.cell? ⟨wr.heap.size,3,none⟩=some (.int .i64 q)/\ w'.cell? ⟨wr.heap.size,4,none⟩=some (.string v))):=hid (fun w' hB=>⟨hB,(hB.cell (p:=⟨wr.heap.size,0,none⟩) z2).trans y0,(hB.cell (p:=⟨wr.heap.size,1,none⟩) z2).trans y1,(hB.cell (p:=⟨wr.heap.size,2,none⟩) z2).trans y2,(hB.cell (p:=⟨wr.heap.size,3,none⟩) z2).trans y3,(hB.cell (p:=⟨wr.heap.size,4,none⟩) z2).trans y4⟩);refine zR (S:=fun w'=>Below W2.heap.size W2 w'/\ w'.cell? ⟨wr.heap.size,0,none⟩=some (.slice pa p.length pc)/\ w'.cell? ⟨wr.heap.size,1,none⟩=some (.bool fl)/\ w'.cell? ⟨wr.heap.size,2,none⟩=some (.int .i64 r)/\ w'.cell? ⟨wr.heap.size,3,none⟩=some (.int .i64 q)/\ w'.cell? ⟨wr.heap.size,4,none⟩=some (.string v)) (Hb.out _ zI.drew) (fun qh=> ?_);refine tZ 0 19 ?_;refine cZ 1 ?_;intro K hK;go_simp;refine(Hw.out _ qh.1).mono ?_;rintro e w3 ⟨rfl,b3⟩;have Hi:=qh.1.trans (b3.mono qh.1.size);refine hK.out _ _ (Hb.out _ Hi) (fun qh=> ?_);clear hK K;try simp only [zP]
     refine tZ 2 21 ?_;refine tZ 3 22 ?_;refine uZ 4 23 ?_;refine uZ 5 24 ?_;refine uZ 6 25 ?_;refine uZ 7 26 ?_;refine uZ 8 27 ?_;refine tZ 9 28 ?_;refine tZ 10 29 ?_;refine uZ 11 30 ?_;refine uZ 12 31 ?_;refine uZ 13 32 ?_;refine uZ 14 33 ?_;refine uZ 15 34 ?_;refine uZ 16 35 ?_;refine uZ 17 36 ?_;refine uZ 18 37 ?_;refine uZ 19 38 ?_;refine uZ 20 39 ?_;refine uZ 21 40 ?_;refine uZ 22 41 ?_;refine tZ 23 42 ?_;refine zD ?_;have HF:=hid (Hk.out (fun h=>by have:=yes_t h.1;rw [Ga.out] at this;cases this));have HZ:=hid (Hd.out.trans (Hi.mono Hd.out.size));clear qh Hb Hk;go_wp2_with fail;go_ret;exact⟨ret_b HF.out.symm,HZ.out⟩
    | true=>
     cases A with
     | false=>
      have Hb:Hid (∀w',Below W2.heap.size W2 w' ->(Below W2.heap.size W2 w'/\ w'.cell? ⟨wr.heap.size,0,none⟩=some (.slice pa p.length pc)/\ w'.cell? ⟨wr.heap.size,1,none⟩=some (.bool fl)/\ w'.cell? ⟨wr.heap.size,2,none⟩=some (.int .i64 r)/\ w'.cell? ⟨wr.heap.size,3,none⟩=some (.int .i64 q)/\ w'.cell? ⟨wr.heap.size,4,none⟩=some (.string v))):=hid (fun w' hB=>⟨hB,(hB.cell (p:=⟨wr.heap.size,0,none⟩) z2).trans y0,(hB.cell (p:=⟨wr.heap.size,1,none⟩) z2).trans y1,(hB.cell (p:=⟨wr.heap.size,2,none⟩) z2).trans y2,(hB.cell (p:=⟨wr.heap.size,3,none⟩) z2).trans y3,(hB.cell (p:=⟨wr.heap.size,4,none⟩) z2).trans y4⟩);refine zR (S:=fun w'=>Below W2.heap.size W2 w'/\ w'.cell? ⟨wr.heap.size,0,none⟩=some (.slice pa p.length pc)/\ w'.cell? ⟨wr.heap.size,1,none⟩=some (.bool fl)/\ w'.cell? ⟨wr.heap.size,2,none⟩=some (.int .i64 r)/\ w'.cell? ⟨wr.heap.size,3,none⟩=some (.int .i64 q)/\ w'.cell? ⟨wr.heap.size,4,none⟩=some (.string v)) (Hb.out _ zI.drew) (fun qh=> ?_);refine tZ 0 19 ?_;refine cZ 1 ?_;intro K hK;go_simp;refine(Hw.out _ qh.1).mono ?_;rintro e w3 ⟨rfl,b3⟩;have Hi:=qh.1.trans (b3.mono qh.1.size);refine hK.out _ _ (Hb.out _ Hi) (fun qh=> ?_);clear hK K;try simp only [zP]
      refine tZ 2 21 ?_;refine tZ 3 22 ?_;refine tZ 4 23 ?_;refine tZ 5 24 ?_;refine tZ 6 25 ?_;refine cZ 7 ?_;intro K hK;go_simp;refine(Hz.out _ qh.1).mono ?_;rintro e w4 ⟨rfl,b4⟩;have He:=qh.1.trans (b4.mono qh.1.size);refine hK.out _ _ (Hb.out _ He) (fun qh=> ?_);clear hK K;try simp only [zP]
      refine tZ 8 27 ?_;refine tZ 9 28 ?_;refine tZ 10 29 ?_;refine uZ 11 30 ?_;refine uZ 12 31 ?_;refine uZ 13 32 ?_;refine uZ 14 33 ?_;refine uZ 15 34 ?_;refine uZ 16 35 ?_;refine uZ 17 36 ?_;refine uZ 18 37 ?_;refine uZ 19 38 ?_;refine uZ 20 39 ?_;refine uZ 21 40 ?_;refine uZ 22 41 ?_;refine tZ 23 42 ?_;refine zD ?_;have HF:=hid (Hk.out (fun h=>by have:=h.2.1;rw [HA.out] at this;cases this));have HZ:=hid (Hd.out.trans (He.mono Hd.out.size));clear qh Hb Hk;go_wp2_with fail;go_ret;exact⟨ret_b HF.out.symm,HZ.out⟩
     | true=>
      by_cases Gm:k=0
      ·have d2:decide ((0:Int)<(k:Int))=false:=by simp;omega
       have d3:decide (0<k)=false:=by simp;omega
       have Hm:Hid (0<k ->cmpL (gL l (k - 1)) ⟨p,fl,r,q,v⟩<0):=hid (fun h=>by omega);clear Gm;have Hb:Hid (∀w',Below W2.heap.size W2 w' ->(Below W2.heap.size W2 w'/\ w'.cell? ⟨wr.heap.size,0,none⟩=some (.slice pa p.length pc)/\ w'.cell? ⟨wr.heap.size,1,none⟩=some (.bool fl)/\ w'.cell? ⟨wr.heap.size,2,none⟩=some (.int .i64 r)/\ w'.cell? ⟨wr.heap.size,3,none⟩=some (.int .i64 q)/\ w'.cell? ⟨wr.heap.size,4,none⟩=some (.string v))):=hid (fun w' hB=>⟨hB,(hB.cell (p:=⟨wr.heap.size,0,none⟩) z2).trans y0,(hB.cell (p:=⟨wr.heap.size,1,none⟩) z2).trans y1,(hB.cell (p:=⟨wr.heap.size,2,none⟩) z2).trans y2,(hB.cell (p:=⟨wr.heap.size,3,none⟩) z2).trans y3,(hB.cell (p:=⟨wr.heap.size,4,none⟩) z2).trans y4⟩);refine zR (S:=fun w'=>Below W2.heap.size W2 w'/\ w'.cell? ⟨wr.heap.size,0,none⟩=some (.slice pa p.length pc)/\ w'.cell? ⟨wr.heap.size,1,none⟩=some (.bool fl)/\ w'.cell? ⟨wr.heap.size,2,none⟩=some (.int .i64 r)/\ w'.cell? ⟨wr.heap.size,3,none⟩=some (.int .i64 q)/\ w'.cell? ⟨wr.heap.size,4,none⟩=some (.string v)) (Hb.out _ zI.drew) (fun qh=> ?_);refine tZ 0 19 ?_;refine cZ 1 ?_;intro K hK;go_simp;refine(Hw.out _ qh.1).mono ?_;rintro e w3 ⟨rfl,b3⟩;have Hi:=qh.1.trans (b3.mono qh.1.size);refine hK.out _ _ (Hb.out _ Hi) (fun qh=> ?_);clear hK K;try simp only [zP]
       refine tZ 2 21 ?_;refine tZ 3 22 ?_;refine tZ 4 23 ?_;refine tZ 5 24 ?_;refine tZ 6 25 ?_;refine cZ 7 ?_;intro K hK;go_simp;refine(Hz.out _ qh.1).mono ?_;rintro e w4 ⟨rfl,b4⟩;have He:=qh.1.trans (b4.mono qh.1.size);refine hK.out _ _ (Hb.out _ He) (fun qh=> ?_);clear hK K;try simp only [zP]
       refine tZ 8 27 ?_;refine tZ 9 28 ?_;refine tZ 10 29 ?_;refine tZ 11 30 ?_;refine tZ 12 31 ?_;refine tZ 13 32 ?_;refine uZ 14 33 ?_;refine uZ 15 34 ?_;refine uZ 16 35 ?_;refine uZ 17 36 ?_;refine uZ 18 37 ?_;refine uZ 19 38 ?_;refine uZ 20 39 ?_;refine uZ 21 40 ?_;refine tZ 22 41 ?_;refine tZ 23 42 ?_;refine zD ?_;have H4:=hid He;have y2:=(He.cell (p:=⟨wr.heap.size,2,none⟩) z2).trans y2;have y3:=(He.cell (p:=⟨wr.heap.size,3,none⟩) z2).trans y3;obtain⟨kl,Hp⟩:=dotKey Hs.1 Hs.2;have H8:=hid Hp;have Hc:=Hv.out.below (Hj.out.trans (He.mono Hj.out.size));have Hf:=Hc.own;have Hr:plainElem (H:=Value) Tryz.prog 3 (.int .i64 (k:Int))=some (.lit (.int .i64 (k:Int)),[]):=plainElem_int Tryz.underlying3 (wfI (by omega) (by omega));have Hq:keyOf Tryz.prog 58 (.agg #[.int .i64 r,.int .i64 q])=some kl:=Hp;have H5:=hid Hc;clear qh Hb Hk Hc Hp;go_wp2_with (refine wpList_mapUpdate_own _ rfl _ _ _ 176 rfl 58 3 dotKeyed Tryz.underlying176 (plainElem Tryz.prog 3) (w.heap.size) k D rfl Hf (by unfold maxLen;omega) _ _ kl rfl rfl Hq (.lit (.int .i64 (k:Int))) [] Hr ?_;intro w6 Hg Ho);have H6:=hid (H5.out.step (by rw [HE.out];exact H8.out) Hg);have Hx:=Hd.out.trans (H4.out.mono Hd.out.size);have H3:=hid (Hx.grown Ho Hx.size (fun t e=>by injection e with e;omega));have HN:Hid (LvOk R F T n l (k+1)):=hid (HI.out.step (by rw [HE.out];exact yes_iff.1 Ga.out) (by rw [HE.out];exact HA.out) (fun h=>by rw [HE.out];exact Hm.out h));go_roundw;case rel=>exact⟨k+1,H1,by go_num,H3,⟨_,H6⟩,HN⟩
       case measure=>simp [intOf];omega
      ·obtain⟨j,hj⟩:∃j,k=j+1:=⟨k - 1,by omega⟩;obtain⟨Ht,Hu,c0,s',c1,c2,c3,c4⟩:=Gn.out j (by omega);have q':=fun(o:Nat)=>Hd.out.cell (p:=⟨b,o,none⟩) hb;have j0:=(q' _).trans c0;have j1:=(q' _).trans c1;have j2:=(q' _).trans c2;have j3:=(q' _).trans c3;have j4:=(q' _).trans c4;have H9:=hid (s'.below Hd.out);have Gc:=hp j;obtain⟨y',Ge⟩:∃y',gL l j=y':=⟨_,rfl⟩;rw [Ge] at j0 j1 j2 j3 j4 H9 Gc;have Gh:=hid Ge;obtain⟨p',Hn,r',q',v'⟩:=y';dsimp only at j0 j1 j2 j3 j4 H9 Gc;have zb:b<W2.heap.size:=by have:=Hd.out.size;omega
       have d2:decide ((0:Int)<(k:Int))=true:=by simp;omega
       have d3:decide (0<k)=true:=by simp;omega
       have Gd:(k:Int) - 1=(j:Int):=by omega
       have Gr:IntKind.i64.wrap (j:Int)=(j:Int):=by rw [IntKind.wrap_i64];omega
       have Gs:IntKind.i64.wrap ((k:Int) - 1)=(j:Int):=by rw [Gd];exact Gr
       have q1:(0:Int)<=(j:Int):=Int.natCast_nonneg _;have q2:(j:Int)<(l.length:Int):=by omega
       have H7:=hid hj;obtain⟨X,hX⟩:∃X,cmpL ⟨p',Hn,r',q',v'⟩ ⟨p,fl,r,q,v⟩=X:=⟨_,rfl⟩;have Gk:=hid hX;have Gg:Hid (∀W,Below W2.heap.size W2 W ->Calls Tryz.prog 116 #[.agg #[.slice Ht p'.length Hu,.bool Hn,.int .i64 r',.int .i64 q',.string v'],.agg #[.slice pa p.length pc,.bool fl,.int .i64 r,.int .i64 q,.string v]] W fun e w'=>e=.returned (.int .i64 X)/\ Below W.heap.size W w'):=hid (fun W hB=>by rw [<- hX];exact compareLeaves Ht pa Hu pc p' p Hn fl r' q' r q v' v W Gc H2 (H9.out.below hB) (Gj.out.below hB));clear hX hj Gm c0 c1 c2 c3 c4 s' Ge;by_cases Gl:(0:Int)<=X
       ·have d4:decide ((0:Int)<=X)=true:=by simpa using Gl
        have Hb:Hid (∀w',Below W2.heap.size W2 w' ->(Below W2.heap.size W2 w'/\ w'.cell? ⟨wr.heap.size,0,none⟩=some (.slice pa p.length pc)/\ w'.cell? ⟨wr.heap.size,1,none⟩=some (.bool fl)/\ w'.cell? ⟨wr.heap.size,2,none⟩=some (.int .i64 r)/\ w'.cell? ⟨wr.heap.size,3,none⟩=some (.int .i64 q)/\ w'.cell? ⟨wr.heap.size,4,none⟩=some (.string v)/\ w'.cell? ⟨b,Ha+j*5,none⟩=some (.slice Ht p'.length Hu)/\ w'.cell? ⟨b,Ha+j*5+1,none⟩=some (.bool Hn)/\ w'.cell? ⟨b,Ha+j*5+2,none⟩=some (.int .i64 r')/\ w'.cell? ⟨b,Ha+j*5+3,none⟩=some (.int .i64 q')/\ w'.cell? ⟨b,Ha+j*5+4,none⟩=some (.string v'))):=hid (fun w' hB=>⟨hB,(hB.cell (p:=⟨wr.heap.size,0,none⟩) z2).trans y0,(hB.cell (p:=⟨wr.heap.size,1,none⟩) z2).trans y1,(hB.cell (p:=⟨wr.heap.size,2,none⟩) z2).trans y2,(hB.cell (p:=⟨wr.heap.size,3,none⟩) z2).trans y3,(hB.cell (p:=⟨wr.heap.size,4,none⟩) z2).trans y4,(hB.cell (p:=⟨b,Ha+j*5,none⟩) zb).trans j0,(hB.cell (p:=⟨b,Ha+j*5+1,none⟩) zb).trans j1,(hB.cell (p:=⟨b,Ha+j*5+2,none⟩) zb).trans j2,(hB.cell (p:=⟨b,Ha+j*5+3,none⟩) zb).trans j3,(hB.cell (p:=⟨b,Ha+j*5+4,none⟩) zb).trans j4⟩);refine zR (S:=fun w'=>Below W2.heap.size W2 w'/\ w'.cell? ⟨wr.heap.size,0,none⟩=some (.slice pa p.length pc)/\ w'.cell? ⟨wr.heap.size,1,none⟩=some (.bool fl)/\ w'.cell? ⟨wr.heap.size,2,none⟩=some (.int .i64 r)/\ w'.cell? ⟨wr.heap.size,3,none⟩=some (.int .i64 q)/\ w'.cell? ⟨wr.heap.size,4,none⟩=some (.string v)/\ w'.cell? ⟨b,Ha+j*5,none⟩=some (.slice Ht p'.length Hu)/\ w'.cell? ⟨b,Ha+j*5+1,none⟩=some (.bool Hn)/\ w'.cell? ⟨b,Ha+j*5+2,none⟩=some (.int .i64 r')/\ w'.cell? ⟨b,Ha+j*5+3,none⟩=some (.int .i64 q')/\ w'.cell? ⟨b,Ha+j*5+4,none⟩=some (.string v')) (Hb.out _ zI.drew) (fun qh=> ?_);refine tZ 0 19 ?_;refine cZ 1 ?_;intro K hK;go_simp;refine(Hw.out _ qh.1).mono ?_;rintro e w3 ⟨rfl,b3⟩;have Hi:=qh.1.trans (b3.mono qh.1.size);refine hK.out _ _ (Hb.out _ Hi) (fun qh=> ?_);clear hK K;try simp only [zP]
        refine tZ 2 21 ?_;refine tZ 3 22 ?_;refine tZ 4 23 ?_;refine tZ 5 24 ?_;refine tZ 6 25 ?_;refine cZ 7 ?_;intro K hK;go_simp;refine(Hz.out _ qh.1).mono ?_;rintro e w4 ⟨rfl,b4⟩;have He:=qh.1.trans (b4.mono qh.1.size);refine hK.out _ _ (Hb.out _ He) (fun qh=> ?_);clear hK K;try simp only [zP]
        refine tZ 8 27 ?_;refine tZ 9 28 ?_;refine tZ 10 29 ?_;refine tZ 11 30 ?_;refine tZ 12 31 ?_;refine tZ 13 32 ?_;refine tZ 14 33 ?_;refine tZ 15 34 ?_;refine tZ 16 35 ?_;refine tZ 17 36 ?_;refine tZ 18 37 ?_;refine tZ 19 38 ?_;refine cZ 20 ?_;intro K hK;go_simp;refine(Gg.out _ qh.1).mono ?_;rintro e w5 ⟨rfl,b5⟩;have Hl:=qh.1.trans (b5.mono qh.1.size);refine hK.out _ _ (Hb.out _ Hl) (fun qh=> ?_);clear hK K;try simp only [zP]
        refine tZ 21 40 ?_;refine tZ 22 41 ?_;refine tZ 23 42 ?_;refine zD ?_;have HF:=hid (Hk.out (fun h=>by have e:=h.2.2 (by have:=H7.out;omega);rw [show k - 1=j by have:=H7.out;omega,Gh.out,Gk.out] at e;omega));have HZ:=hid (Hd.out.trans (Hl.mono Hd.out.size));clear qh Hb Hk;go_wp2_with fail;go_ret;exact⟨ret_b HF.out.symm,HZ.out⟩
       ·have d4:decide ((0:Int)<=X)=false:=by simpa using Gl
        have Hm:Hid (0<k ->cmpL (gL l (k - 1)) ⟨p,fl,r,q,v⟩<0):=hid (fun _=>by rw [show k - 1=j by have:=H7.out;omega,Gh.out,Gk.out];omega);have Hb:Hid (∀w',Below W2.heap.size W2 w' ->(Below W2.heap.size W2 w'/\ w'.cell? ⟨wr.heap.size,0,none⟩=some (.slice pa p.length pc)/\ w'.cell? ⟨wr.heap.size,1,none⟩=some (.bool fl)/\ w'.cell? ⟨wr.heap.size,2,none⟩=some (.int .i64 r)/\ w'.cell? ⟨wr.heap.size,3,none⟩=some (.int .i64 q)/\ w'.cell? ⟨wr.heap.size,4,none⟩=some (.string v)/\ w'.cell? ⟨b,Ha+j*5,none⟩=some (.slice Ht p'.length Hu)/\ w'.cell? ⟨b,Ha+j*5+1,none⟩=some (.bool Hn)/\ w'.cell? ⟨b,Ha+j*5+2,none⟩=some (.int .i64 r')/\ w'.cell? ⟨b,Ha+j*5+3,none⟩=some (.int .i64 q')/\ w'.cell? ⟨b,Ha+j*5+4,none⟩=some (.string v'))):=hid (fun w' hB=>⟨hB,(hB.cell (p:=⟨wr.heap.size,0,none⟩) z2).trans y0,(hB.cell (p:=⟨wr.heap.size,1,none⟩) z2).trans y1,(hB.cell (p:=⟨wr.heap.size,2,none⟩) z2).trans y2,(hB.cell (p:=⟨wr.heap.size,3,none⟩) z2).trans y3,(hB.cell (p:=⟨wr.heap.size,4,none⟩) z2).trans y4,(hB.cell (p:=⟨b,Ha+j*5,none⟩) zb).trans j0,(hB.cell (p:=⟨b,Ha+j*5+1,none⟩) zb).trans j1,(hB.cell (p:=⟨b,Ha+j*5+2,none⟩) zb).trans j2,(hB.cell (p:=⟨b,Ha+j*5+3,none⟩) zb).trans j3,(hB.cell (p:=⟨b,Ha+j*5+4,none⟩) zb).trans j4⟩);refine zR (S:=fun w'=>Below W2.heap.size W2 w'/\ w'.cell? ⟨wr.heap.size,0,none⟩=some (.slice pa p.length pc)/\ w'.cell? ⟨wr.heap.size,1,none⟩=some (.bool fl)/\ w'.cell? ⟨wr.heap.size,2,none⟩=some (.int .i64 r)/\ w'.cell? ⟨wr.heap.size,3,none⟩=some (.int .i64 q)/\ w'.cell? ⟨wr.heap.size,4,none⟩=some (.string v)/\ w'.cell? ⟨b,Ha+j*5,none⟩=some (.slice Ht p'.length Hu)/\ w'.cell? ⟨b,Ha+j*5+1,none⟩=some (.bool Hn)/\ w'.cell? ⟨b,Ha+j*5+2,none⟩=some (.int .i64 r')/\ w'.cell? ⟨b,Ha+j*5+3,none⟩=some (.int .i64 q')/\ w'.cell? ⟨b,Ha+j*5+4,none⟩=some (.string v')) (Hb.out _ zI.drew) (fun qh=> ?_);refine tZ 0 19 ?_;refine cZ 1 ?_;intro K hK;go_simp;refine(Hw.out _ qh.1).mono ?_;rintro e w3 ⟨rfl,b3⟩;have Hi:=qh.1.trans (b3.mono qh.1.size);refine hK.out _ _ (Hb.out _ Hi) (fun qh=> ?_);clear hK K;try simp only [zP]
        refine tZ 2 21 ?_;refine tZ 3 22 ?_;refine tZ 4 23 ?_;refine tZ 5 24 ?_;refine tZ 6 25 ?_;refine cZ 7 ?_;intro K hK;go_simp;refine(Hz.out _ qh.1).mono ?_;rintro e w4 ⟨rfl,b4⟩;have He:=qh.1.trans (b4.mono qh.1.size);refine hK.out _ _ (Hb.out _ He) (fun qh=> ?_);clear hK K;try simp only [zP]
        refine tZ 8 27 ?_;refine tZ 9 28 ?_;refine tZ 10 29 ?_;refine tZ 11 30 ?_;refine tZ 12 31 ?_;refine tZ 13 32 ?_;refine tZ 14 33 ?_;refine tZ 15 34 ?_;refine tZ 16 35 ?_;refine tZ 17 36 ?_;refine tZ 18 37 ?_;refine tZ 19 38 ?_;refine cZ 20 ?_;intro K hK;go_simp;refine(Gg.out _ qh.1).mono ?_;rintro e w5 ⟨rfl,b5⟩;have Hl:=qh.1.trans (b5.mono qh.1.size);refine hK.out _ _ (Hb.out _ Hl) (fun qh=> ?_);clear hK K;try simp only [zP]
        refine tZ 21 40 ?_;refine tZ 22 41 ?_;refine tZ 23 42 ?_;refine zD ?_;have H4:=hid Hl;have y2:=(Hl.cell (p:=⟨wr.heap.size,2,none⟩) z2).trans y2;have y3:=(Hl.cell (p:=⟨wr.heap.size,3,none⟩) z2).trans y3;obtain⟨kl,Hp⟩:=dotKey Hs.1 Hs.2;have H8:=hid Hp;have Hc:=Hv.out.below (Hj.out.trans (Hl.mono Hj.out.size));have Hf:=Hc.own;have Hr:plainElem (H:=Value) Tryz.prog 3 (.int .i64 (k:Int))=some (.lit (.int .i64 (k:Int)),[]):=plainElem_int Tryz.underlying3 (wfI (by omega) (by omega));have Hq:keyOf Tryz.prog 58 (.agg #[.int .i64 r,.int .i64 q])=some kl:=Hp;have H5:=hid Hc;clear qh Hb Hk Hc Hp;go_wp2_with (refine wpList_mapUpdate_own _ rfl _ _ _ 176 rfl 58 3 dotKeyed Tryz.underlying176 (plainElem Tryz.prog 3) (w.heap.size) k D rfl Hf (by unfold maxLen;omega) _ _ kl rfl rfl Hq (.lit (.int .i64 (k:Int))) [] Hr ?_;intro w6 Hg Ho);have H6:=hid (H5.out.step (by rw [HE.out];exact H8.out) Hg);have Hx:=Hd.out.trans (H4.out.mono Hd.out.size);have H3:=hid (Hx.grown Ho Hx.size (fun t e=>by injection e with e;omega));have HN:Hid (LvOk R F T n l (k+1)):=hid (HI.out.step (by rw [HE.out];exact yes_iff.1 Ga.out) (by rw [HE.out];exact HA.out) (fun h=>by rw [HE.out];exact Hm.out h));go_roundw;case rel=>exact⟨k+1,H1,by go_num,H3,⟨_,H6⟩,HN⟩
        case measure=>simp [intOf];omega
   ·obtain rfl:k=l.length:=by omega
    have Hf:=Hv.out.own;have Gp:Hid (Y=((Maps.size D:Int)==(l.length:Int))):=hid (by
     rw [<- HY.out];by_cases e:Maps.size D=l.length
     ·rw [yes_t ⟨by omega,HI.out,fun i hi j hj=>Hv.out.eq.1 e i hi j hj⟩,e];simp
     ·rw [yes_f (fun h=>e (Hv.out.eq.2 (fun i hi j hj=>h.2.2 i hi j hj)))];symm;simp;omega)
    have HZ:=hid Hh.out;go_wp2_with (refine wpList_len_own _ rfl _ 176 rfl 58 3 Tryz.underlying176 _ _ _ _ rfl Hf ?_);go_ret;exact⟨ret_b Gp.out.symm,HZ.out⟩
theorem openRunsC (a:Option Addr)(c:Nat)(l:List Lf)(x:Option Addr)(n d:Nat)(R F T:Nat ->Int)(w:World)(hn:l.length<=1048576)(hp:LBd l)(hi:∀i,LfI (gL l i))(hm:n<=1048576)(h:LSeg w a l)(h':RSeg w x n R F T):
  Calls Tryz.prog 58 #[.agg #[.slice a l.length c,.slice x n d]] w fun e w'=>(∃M,e=.returned (.tuple #[M,.bool (yes (StOk R F T n l))]))/\ Below w.heap.size w w':=by
 obtain⟨W,hW⟩:∃W,w.alloc (.cells #[.slice a l.length c,.slice x n d] 28)=W:=⟨_,rfl⟩;have b0:Below w.heap.size w W:=by rw [<- hW];exact zO _ _
 have zW:w.heap.size<W.heap.size:=by rw [<- hW];simp
 have k0:W.cell? ⟨w.heap.size,0,none⟩=some (.slice a l.length c):=by rw [<- hW];simp
 have k1:W.cell? ⟨w.heap.size,1,none⟩=some (.slice x n d):=by rw [<- hW];simp
 have HL:=hid (h.below b0);have HR:=hid (h'.below b0);have Hc:=hid b0;clear h h' b0;obtain⟨Y,hY⟩:∃Y,yes (StOk R F T n l)=Y:=⟨_,rfl⟩;have HY:=hid hY;rw [hY];clear hY;cases hcx:ctxB R F T n with
 | false=>
  have HF:Hid (Y=false):=hid (by rw [<- HY.out];exact yes_f (fun h=>by have:=h.1;rw [hcx] at this;cases this));have HO:=hid (openC_no x n d R F T W hm HR.out hcx);have eF:=HF.out;clear hcx HF HY;subst eF;go_enter Tryz.func58,Tryz.ntmps58;go_wp2_with fail;try rw [hW]
  clear hW;refine HO.out.mono ?_;rintro e w1 ⟨rfl,b1⟩;have m0:=(b1.cell (p:=⟨w.heap.size,0,none⟩) zW).trans k0;have HZ:=hid (keepS Hc.out b1);clear b1 HO k0 k1;go_wp2_with fail;go_ret2;exact⟨⟨_,rfl⟩,HZ.out⟩
 | true=>
  have Ha:=ctxB_iff.1 hcx;have HO:=hid (openC x n d R F T W hm HR.out hcx);have HS:Hid (∀r,Srt (Lk R F T n r)):=hid (fun r=>(Lk_srt n Ha.1 r).1);have HN:Hid (∀r,(Lk R F T n r).length<=1000000):=hid (fun r=>by have:=Lk_len R F T n r;have:=Ha.2;omega);have HE:Hid (Y=yes (LsOk R F T n l)):=hid (by
   rw [<- HY.out];by_cases e:LsOk R F T n l
   ·rw [yes_t e,yes_t ⟨hcx,e.1,e.2.1,e.2.2⟩]
   ·rw [yes_f e,yes_f (fun h=>e ⟨h.2.1,h.2.2.1,h.2.2.2⟩)])
  clear Ha hcx;go_enter Tryz.func58,Tryz.ntmps58;go_wp2_with fail;try rw [hW]
  clear hW;refine HO.out.mono ?_;rintro e w1 ⟨bm,D,G,rfl,Hb,He,b1⟩;have m0:=(b1.cell (p:=⟨w.heap.size,0,none⟩) zW).trans k0;have HC:=hid (leavesOk a c l bm n D G R F T w1 hn hp hi (HL.out.below b1) Hb HS.out HN.out);have HZ:=hid (keepS Hc.out b1);clear b1 HO k0 k1 Hb He;go_wp2_with fail;refine HC.out.mono ?_;rintro e w2 ⟨rfl,b2⟩;have Hd:=hid (keepS HZ.out b2);rw [<- HE.out];clear b2 HC HE;cases Y with
  | true=>
   go_wp2_with fail;go_ret2;exact⟨⟨_,rfl⟩,Hd.out⟩
  | false=>
   go_wp2_with fail;go_ret2;exact⟨⟨_,rfl⟩,Hd.out⟩
noncomputable def Mk (l:List Lf):Nat ->List Ky ->Dt ->Option ByteArray
 | 0=>fun _ _=>none
 | k+1=>updM (Mk l k) (wayOf (gL l k).p (kd (gL l k).fl)) ((gL l k).r,(gL l k).q) (gL l k).v
def Way (x:Lf):List Ky:=wayOf x.p (kd x.fl)
theorem Mk_ne {l:List Lf}{p:List Ky}{d:Dt}:∀{k:Nat},Mk l k p d≠none↔∃j,j<k/\ Way (gL l j)=p/\ ((gL l j).r,(gL l j).q)=d
 | 0=>⟨fun h=>absurd rfl h,fun⟨j,hj,_⟩=>by omega⟩
 | k+1=>by
  have ih:=Mk_ne (l:=l) (p:=p) (d:=d) (k:=k);simp only [Mk];by_cases e:p=wayOf (gL l k).p (kd (gL l k).fl)
  ·rw [e,updM_same,<- e];by_cases e2:d=((gL l k).r,(gL l k).q)
   ·rw [e2,updF_same];exact⟨fun _=>⟨k,by omega,e.symm,rfl⟩,fun _ h=>by cases h⟩
   ·rw [updF_other _ _ e2,ih];constructor
    ·rintro⟨j,hj,r⟩;exact⟨j,by omega,r⟩
    ·rintro⟨j,hj,r1,r2⟩;by_cases ej:j=k
     ·subst ej;exact absurd r2.symm e2
     ·exact⟨j,by omega,r1,r2⟩
  ·rw [updM_other _ _ _ e,ih];constructor
   ·rintro⟨j,hj,r⟩;exact⟨j,by omega,r⟩
   ·rintro⟨j,hj,r1,r2⟩;by_cases ej:j=k
    ·subst ej;exact absurd r1.symm e
    ·exact⟨j,by omega,r1,r2⟩
def NkI (l:List Lf)(k:Nat)(N:List Ky ->Option (Nat×Nat)):Prop:=∀z,(N z).isSome=true↔z=[] \/∃j,j<k/\ z <+:Way (gL l j)
theorem openRunsK (a:Option Addr)(c:Nat)(l:List Lf)(x:Option Addr)(n d:Nat)(R F T:Nat ->Int)(w:World)(hn:l.length<=1048576)(hp:LBd l)(hi:∀i,LfI (gL l i))(hm:n<=1048576)(h:LSeg w a l)(h':RSeg w x n R F T)(hok:StOk R F T n l):
  Calls Tryz.prog 58 #[.agg #[.slice a l.length c,.slice x n d]] w fun e w'=>(∃bm D G,e=.returned (.tuple #[.map (some bm),.bool true])/\ GrpAt w' bm n D G (Lk R F T n)/\ w.heap.size<=bm)/\ Below w.heap.size w w':=by
 obtain⟨W,hW⟩:∃W,w.alloc (.cells #[.slice a l.length c,.slice x n d] 28)=W:=⟨_,rfl⟩;have b0:Below w.heap.size w W:=by rw [<- hW];exact zO _ _
 have zW:w.heap.size<W.heap.size:=by rw [<- hW];simp
 have k0:W.cell? ⟨w.heap.size,0,none⟩=some (.slice a l.length c):=by rw [<- hW];simp
 have k1:W.cell? ⟨w.heap.size,1,none⟩=some (.slice x n d):=by rw [<- hW];simp
 have HL:=hid (h.below b0);have HR:=hid (h'.below b0);have Hf:=hid b0;clear h h' b0;have Hc:=hok.1;have Hb:=ctxB_iff.1 Hc;have HO:=hid (openC x n d R F T W hm HR.out Hc);have HS:Hid (∀r,Srt (Lk R F T n r)):=hid (fun r=>(Lk_srt n Hb.1 r).1);have HN:Hid (∀r,(Lk R F T n r).length<=1000000):=hid (fun r=>by have:=Lk_len R F T n r;have:=Hb.2;omega);have HE:Hid (yes (LsOk R F T n l)=true):=hid (yes_t ⟨hok.2.1,hok.2.2.1,hok.2.2.2⟩);have Hd:=hid zW;clear Hb Hc hok;go_enter Tryz.func58,Tryz.ntmps58;go_wp2_with fail;try rw [hW]
 clear hW;refine HO.out.mono ?_;rintro e w1 ⟨bm,D,G,rfl,Ha,He,b1⟩;have m0:=(b1.cell (p:=⟨w.heap.size,0,none⟩) Hd.out).trans k0;have HC:=hid (leavesOk a c l bm n D G R F T w1 hn hp hi (HL.out.below b1) Ha HS.out HN.out);have HZ:=hid (keepS Hf.out b1);have Hi:=hid Ha;have Hg:=hid He;clear b1 HO k0 k1 Ha He zW;go_wp2_with fail;refine HC.out.mono ?_;rintro e w2 ⟨rfl,b2⟩;have Hj:=hid (keepS HZ.out b2);have Hh:=hid (Hi.out.below b2);rw [HE.out];clear b2 HC HE;go_wp2_with fail;go_ret2;exact⟨⟨bm,D,G,rfl,Hh.out,Nat.le_trans (Nat.le_of_lt Hd.out) Hg.out⟩,Hj.out⟩
structure Bx3 (w:World)(b:Nat)(v0 v1 v2:Value):Prop where
 c0:w.cell? ⟨b,0,none⟩=some v0
 c1:w.cell? ⟨b,1,none⟩=some v1
 c2:w.cell? ⟨b,2,none⟩=some v2
 f:∀i,w.frozen? ⟨b,i,none⟩=false
 lt:b<w.heap.size
theorem Bx3.below {w w':World}{B b:Nat}{v0 v1 v2:Value}(h:Bx3 w b v0 v1 v2)(hb:Below B w w')(hB:b<B):Bx3 w' b v0 v1 v2:=
 ⟨(hb.cell (p:=⟨b,0,none⟩) hB).trans h.c0,(hb.cell (p:=⟨b,1,none⟩) hB).trans h.c1,(hb.cell (p:=⟨b,2,none⟩) hB).trans h.c2,fun i=>(hb.frozen (p:=⟨b,i,none⟩) hB).trans (h.f i),Nat.lt_of_lt_of_le h.lt hb.size⟩
theorem Bx3.gt {w w':World}{B b:Nat}{v0 v1 v2:Value}(h:Bx3 w b v0 v1 v2)(hg:Gt B w w'):Bx3 w' b v0 v1 v2:=
 ⟨hg.cell h.c0,hg.cell h.c1,hg.cell h.c2,fun i=>(hg.frozen (q:=⟨b,i,none⟩) h.c0 rfl).trans (h.f i),Nat.lt_of_lt_of_le h.lt hg.size⟩
theorem Bx3.made (w:World)(v0 v1 v2:Value)(t:TypeId):Bx3 (w.alloc (.cells #[v0,v1,v2] t)) w.heap.size v0 v1 v2:=⟨by simp,by simp,by simp,fun i=>by simp,by simp⟩
theorem Bx3.set0 {w:World}{b:Nat}{v0 v1 v2:Value}(h:Bx3 w b v0 v1 v2)(u:Value):Bx3 (w.setCell ⟨b,0,none⟩ u) b u v1 v2:=
 ⟨World.cell?_setCell_same _ _ _ h.c0,by simp [World.cell?_setCell_other,h.c1],by simp [World.cell?_setCell_other,h.c2],fun i=>by rw [World.frozen?_setCell];exact h.f i,by simp [World.setCell];exact h.lt⟩
theorem Bx3.set1 {w:World}{b:Nat}{v0 v1 v2:Value}(h:Bx3 w b v0 v1 v2)(u:Value):Bx3 (w.setCell ⟨b,1,none⟩ u) b v0 u v2:=
 ⟨by simp [World.cell?_setCell_other,h.c0],World.cell?_setCell_same _ _ _ h.c1,by simp [World.cell?_setCell_other,h.c2],fun i=>by rw [World.frozen?_setCell];exact h.f i,by simp [World.setCell];exact h.lt⟩
theorem Bx3.set2 {w:World}{b:Nat}{v0 v1 v2:Value}(h:Bx3 w b v0 v1 v2)(u:Value):Bx3 (w.setCell ⟨b,2,none⟩ u) b v0 v1 u:=
 ⟨by simp [World.cell?_setCell_other,h.c0],by simp [World.cell?_setCell_other,h.c1],World.cell?_setCell_same _ _ _ h.c2,fun i=>by rw [World.frozen?_setCell];exact h.f i,by simp [World.setCell];exact h.lt⟩
theorem Bx3.set {w:World}{b:Nat}{v0 v1 v2:Value}(h:Bx3 w b v0 v1 v2)(u0 u1 u2:Value):Bx3 (((w.setCell ⟨b,0,none⟩ u0).setCell ⟨b,1,none⟩ u1).setCell ⟨b,2,none⟩ u2) b u0 u1 u2:=((h.set0 u0).set1 u1).set2 u2
theorem NkI.step {l:List Lf}{k:Nat}{N N':List Ky ->Option (Nat×Nat)}(h:NkI l k N)(h':∀z,(N' z).isSome=true↔(N z).isSome=true \/z <+:Way (gL l k)):NkI l (k+1) N':=fun z=>by
 rw [h' z,h z];constructor
 ·rintro((e|⟨j,hj,e⟩)|e)
  ·exact .inl e
  ·exact .inr ⟨j,by omega,e⟩
  ·exact .inr ⟨k,by omega,e⟩
 ·rintro(e|⟨j,hj,e⟩)
  ·exact .inl (.inl e)
  ·by_cases ej:j=k
   ·subst ej;exact .inr e
   ·exact .inl (.inr ⟨j,by omega,e⟩)
theorem kd_wf (fl:Bool):(Lit.int .i64 (kd fl)).wf=true:=by cases fl<;>decide
theorem openStateNo (a:Option Addr)(c:Nat)(l:List Lf)(x:Option Addr)(n d:Nat)(R F T:Nat ->Int)(w:World)(hn:l.length<=1048576)(hp:LBd l)(hi:∀i,LfI (gL l i))(hm:n<=1048576)(h:LSeg w a l)(h':RSeg w x n R F T)(hok:¬StOk R F T n l):
  Calls Tryz.prog 32 #[.agg #[.slice a l.length c,.slice x n d]] w fun e w'=>e=.returned (.tuple #[.agg #[.map none,.map none,.map none],.bool false])/\ Below w.heap.size w w':=by
 obtain⟨W,hW⟩:∃W,(w.alloc (.cells #[.slice a l.length c,.slice x n d] 28)).alloc (.cells #[.map none,.map none,.map none] 69)=W:=⟨_,rfl⟩;have b0:Below w.heap.size w W:=by rw [<- hW];exact below2 _ _ _
 have B0:Bx3 W (w.heap.size+1) (.map none) (.map none) (.map none):=by rw [<- hW];simpa using Bx3.made (w.alloc (.cells #[.slice a l.length c,.slice x n d] 28)) (.map none) (.map none) (.map none) 69
 have k0:W.cell? ⟨w.heap.size,0,none⟩=some (.slice a l.length c):=by rw [<- hW];simp
 have k1:W.cell? ⟨w.heap.size,1,none⟩=some (.slice x n d):=by rw [<- hW];simp
 have HO:=hid (openRunsC a c l x n d R F T W hn hp hi hm (h.below b0) (h'.below b0));have Hb:=hid b0;have Ha:=hid B0;rw [yes_f hok] at HO;clear h h' b0 B0;go_enter Tryz.func32,Tryz.ntmps32;go_wp2_with fail;try rw [hW]
 clear hW;refine HO.out.mono ?_;rintro e w1 ⟨⟨M,rfl⟩,b1⟩;have B1:=Ha.out.below b1 Ha.out.lt;have c0:=B1.c0;have c1:=B1.c1;have c2:=B1.c2;have f0:=B1.f 0;have f1:=B1.f 1;have f2:=B1.f 2;have HZ:=hid (keepS Hb.out b1);have HC:=hid (B1.set (.map none) (.map none) (.map none));clear b1 HO k0 k1 B1;go_wp2_with fail;have r0:=HC.out.c0;have r1:=HC.out.c1;have r2:=HC.out.c2;refine zF (v:=.tuple #[.agg #[.map none,.map none,.map none],.bool false]) (by simp [results,Tryz.results32,go_sem,r0,r1,r2]) ⟨rfl,?_⟩;exact((HZ.out.setCell (by simp) _).setCell (by simp) _).setCell (by simp) _
theorem GrpAt.set {w:World}{bm n:Nat}{D:DataW Value}{G:Int ->Value}{L:Int ->List (Int×Int)}(h:GrpAt w bm n D G L)(q:Addr)(u:Value)(hq:q.block<bm):GrpAt (w.setCell q u) bm n D G L:=by
 have hg:w.grownBy (w.setCell q u) (some q.block):=⟨rfl,rfl,rfl,by simp [World.setCell],fun k _ hk=>zH _ _ _ _ (fun e=>hk (by rw [e]))⟩;refine⟨h.own.kept hg (fun e=>by injection e with e;omega),h.at',h.has',fun r=>(h.rows r).kept hg ?_,h.apart⟩;cases e:(G r).ownBlock with
 | none=>exact .inl rfl
 | some g=>exact .inr (fun e2=>by have:=((h.rows r).lt g e).1;injection e2 with e2;omega)
theorem openStateK (a:Option Addr)(c:Nat)(l:List Lf)(x:Option Addr)(n d:Nat)(R F T:Nat ->Int)(w:World)(hn:l.length<=1048576)(hp:LBd l)(hi:∀i,LfI (gL l i))(hm:n<=1048576)(h:LSeg w a l)(h':RSeg w x n R F T)(hok:StOk R F T n l):
  Calls Tryz.prog 32 #[.agg #[.slice a l.length c,.slice x n d]] w fun e w'=>(∃x0 bm D G N B,e=.returned (.tuple #[.agg #[.map (some x0.1),.map (some x0.2),.map (some bm)],.bool true])/\ GrpAt w' bm n D G (Lk R F T n)/\ w.heap.size<=bm/\ w.heap.size<=B/\ bm<B/\ Tre w' B N (Mk l l.length) (9*l.length)/\ N []=some x0/\ NkI l l.length N)/\ Below w.heap.size w w':=by
 obtain⟨W,hW⟩:∃W,(w.alloc (.cells #[.slice a l.length c,.slice x n d] 28)).alloc (.cells #[.map none,.map none,.map none] 69)=W:=⟨_,rfl⟩;have b0:Below w.heap.size w W:=by rw [<- hW];exact below2 _ _ _
 have B0:Bx3 W (w.heap.size+1) (.map none) (.map none) (.map none):=by rw [<- hW];simpa using Bx3.made (w.alloc (.cells #[.slice a l.length c,.slice x n d] 28)) (.map none) (.map none) (.map none) 69
 have k0:W.cell? ⟨w.heap.size,0,none⟩=some (.slice a l.length c):=by rw [<- hW];simp
 have k1:W.cell? ⟨w.heap.size,1,none⟩=some (.slice x n d):=by rw [<- hW];simp
 have HO:=hid (openRunsK a c l x n d R F T W hn hp hi hm (h.below b0) (h'.below b0) hok);have H1:=hid b0;have He:=hid B0;have H7:=hid hok;have HL:=hid (h.below b0);have Gf:=hok.2.1;clear h h' b0 B0 hok;go_enter Tryz.func32,Tryz.ntmps32;go_wp2_with fail;try rw [hW]
 clear hW;refine HO.out.mono ?_;rintro e w1 ⟨⟨bm,D,G,rfl,Hf,Gd⟩,b1⟩;have B1:=He.out.below b1 He.out.lt;have Hd:=hid B1;have HZ:=hid (keepS H1.out b1);have k2:=(b1.cell (p:=⟨w.heap.size,0,none⟩) (show w.heap.size<W.heap.size by have:=He.out.lt;omega)).trans k0;have Hq:=hid (HL.out.below b1);have Hp:=hid Hf;have Hg:=hid (show w.heap.size+1<bm from by have:=He.out.lt;omega);clear b1 HO k0 k1 B1 Hf Gd HL He;go_wp2_with fail;refine(newNode w1).mono ?_;rintro e w2 ⟨s1,s2,rfl,H0,Hy,Hz,m1,m2,b2⟩;obtain⟨w3,Hc⟩:∃w3,w2.alloc (.cells #[.map (some s1),.map (some s2)] 65)=w3:=⟨_,rfl⟩;have b3:Below w1.heap.size w1 w3:=by rw [<- Hc];exact b2.alloc b2.size _
 have NB:Bx2 w3 w2.heap.size (.map (some s1)) (.map (some s2)):=by rw [<- Hc];exact Bx2.made _ _ _ _
 have Hr:=hid NB;have T0:Tre w3 w1.heap.size (fun z=>if z=[] then some (s1,s2) else none) (Mk l 0) 0:=by
  have e1:w3.heap[s1]? =w2.heap[s1]? :=by rw [<- Hc];exact Below.heap_alloc _ _ _ m1.lt
  have e2:w3.heap[s2]? =w2.heap[s2]? :=by rw [<- Hc];exact Below.heap_alloc _ _ _ m2.lt
  refine⟨fun p x hx=> ?_,fun p x hx=> ?_,fun p q x y hx hy=> ?_,fun p x hx=> ?_,fun p hp=>rfl,fun p y hp=>by simp⟩
  ·split at hx
   ·injection hx with hx;subst hx;exact(m1.same e1).ext (fun y=>by simp)
   ·cases hx
  ·split at hx
   ·injection hx with hx;subst hx;exact m2.same e2
   ·cases hx
  ·split at hx
   ·rename_i ep;split at hy
    ·rename_i eq;injection hx with hx;injection hy with hy;subst hx;subst hy;exact⟨H0,fun _=>by rw [ep,eq],fun _=>by rw [ep,eq]⟩
    ·cases hy
   ·cases hx
  ·split at hx
   ·injection hx with hx;subst hx;exact⟨Hy,Hz⟩
   ·cases hx
 have Ht:=hid T0;have Hi:=hid (Hd.out.below b3 Hd.out.lt);have Ga:=hid (keepS HZ.out b3);have k3:=(b3.cell (p:=⟨w.heap.size,0,none⟩) (show w.heap.size<w1.heap.size by have:=Hd.out.lt;omega)).trans k2;have H5:=hid (Hq.out.below b3);have Gc:=hid b3;have HW:=hid (show w.heap.size<=w1.heap.size/\ w.heap.size+1<w1.heap.size/\ bm<w1.heap.size/\ w1.heap.size<=w3.heap.size from⟨HZ.out.size,Hd.out.lt,Hp.out.own.lt,b3.size⟩);clear m1 m2 b2 b3 NB T0 H0 Hy Hz Hd Hq k2;go_wp2_with fail;try rw [Hc]
 clear Hc k3;go_loopw [21] (fun i wr=>∃k:Nat,k<=l.length/\ i=.int .i64 k/\ Hid (Gt w1.heap.size w3 wr)/\ (∃N,Hid (Tre wr w1.heap.size N (Mk l k) (9*k))/\ Hid (N []=some (s1,s2))/\ Hid (NkI l k N))) (fun i _=>l.length - (intOf i).toNat);case atStart=>
  refine⟨0,Nat.zero_le _,rfl,hid (Gt.refl _ _),_,Ht,hid (if_pos rfl),hid (fun z=> ?_)⟩;show ((if z=[] then some (s1,s2) else none:Option (Nat×Nat)).isSome=true↔_);by_cases e:z=[]
  ·rw [if_pos e];exact⟨fun _=> .inl e,fun _=>rfl⟩
  ·rw [if_neg e];exact⟨fun h=>by simp at h,fun h=>by rcases h with h|⟨j,hj,_⟩;exact absurd h e;omega⟩
 case round=>
  clear Ht;obtain⟨k,hk,rfl,HG,N,HT,HN,HI⟩:=hrel;by_cases Hn:k<l.length
  ·rcases (H5.out.gt HG.out) with h|⟨b,Gh,rfl,hb,hc⟩
   ·omega
   obtain⟨pa,pc,x0,s,x1,x2,x3,x4⟩:=hc k Hn;have Hm:=H7.out.2.2.1 k Hn;have Hh:=hi k;have Ho:=hp k;have i1:(0:Int)<=(k:Int):=Int.natCast_nonneg _;have i2:(k:Int)<(l.length:Int):=by omega
   obtain⟨y,hy⟩:∃y,gL l k=y:=⟨_,rfl⟩;rw [hy] at s x0 x1 x2 x3 x4 Ho Hh Hm;have HS:=hid s;have HE:=hid hy;obtain⟨p,fl,r,q,v⟩:=y;dsimp only [LfI] at HS x0 x1 x2 x3 x4 Ho Hh;have Hs:=hid Hm.1.1;have Hb:=hid (Hr.out.gt HG.out);clear hc s hy Hm;obtain⟨W2,Hx⟩:∃W2,wr.alloc (.cells #[.slice pa p.length pc,.bool fl,.int .i64 r,.int .i64 q,.string v] 60)=W2:=⟨_,rfl⟩;have b4:Below wr.heap.size wr W2:=by rw [<- Hx];exact zO _ _
   have B5:Bx5 W2 wr.heap.size (.slice pa p.length pc) (.bool fl) (.int .i64 r) (.int .i64 q) (.string v):=by rw [<- Hx];exact⟨by simp,by simp,by simp,by simp,by simp,fun i=>by simp,by simp⟩
   have N5:=Hb.out.below b4 Hb.out.lt;have y0:=B5.c0;have y1:=B5.c1;have y2:=B5.c2;have y3:=B5.c3;have y4:=B5.c4;have n0:=N5.c0;have n1:=N5.c1;have H8:=hid (HS.out.below b4);have Hu:=hid (HT.out.below b4);have Hk:=hid (HG.out.keep b4);clear b4 B5 N5 HS HT HG Hb;go_wp2_with fail;have Hj:Hid (∀w',Gt w1.heap.size W2 w' ->(Gt w1.heap.size W2 w'/\ w'.cell? ⟨w2.heap.size,0,none⟩=some (.map (some s1))/\ w'.cell? ⟨w2.heap.size,1,none⟩=some (.map (some s2))/\ w'.cell? ⟨wr.heap.size,0,none⟩=some (.slice pa p.length pc)/\ w'.cell? ⟨wr.heap.size,1,none⟩=some (.bool fl)/\ w'.cell? ⟨wr.heap.size,2,none⟩=some (.int .i64 r)/\ w'.cell? ⟨wr.heap.size,3,none⟩=some (.int .i64 q)/\ w'.cell? ⟨wr.heap.size,4,none⟩=some (.string v))):=hid (fun w' hB=>⟨hB,hB.cell n0,hB.cell n1,hB.cell y0,hB.cell y1,hB.cell y2,hB.cell y3,hB.cell y4⟩);refine zR (S:=fun w'=>Gt w1.heap.size W2 w'/\ w'.cell? ⟨w2.heap.size,0,none⟩=some (.map (some s1))/\ w'.cell? ⟨w2.heap.size,1,none⟩=some (.map (some s2))/\ w'.cell? ⟨wr.heap.size,0,none⟩=some (.slice pa p.length pc)/\ w'.cell? ⟨wr.heap.size,1,none⟩=some (.bool fl)/\ w'.cell? ⟨wr.heap.size,2,none⟩=some (.int .i64 r)/\ w'.cell? ⟨wr.heap.size,3,none⟩=some (.int .i64 q)/\ w'.cell? ⟨wr.heap.size,4,none⟩=some (.string v)) (Hj.out _ (Gt.of_below zI.drew)) (fun qh=> ?_);refine tZ 0 25 ?_;refine tZ 1 26 ?_;refine tZ 2 27 ?_;refine tZ 3 28 ?_;refine tZ 5 30 ?_;refine tZ 6 31 ?_;refine tZ 7 32 ?_;refine tZ 8 33 ?_;refine tZ 9 34 ?_;refine cZ 4 ?_;intro K hK;go_simp;refine(leafKind _ fl _ _ _ _).mono ?_;rintro e w5 ⟨rfl,b5⟩;have Ha:Below W2.heap.size W2 w5:=⟨b5.os,b5.tape,b5.output,b5.size,b5.block⟩;refine hK.out _ _ (Hj.out _ (Gt.of_below Ha)) (fun qh=> ?_);clear hK K;try simp only [zP]
   refine cZ 10 ?_;intro K hK;go_simp;refine(putX 0 p pa pc (kd fl) r q v w1.heap.size (9*k) N (Mk l k) (s1,s2) w5 Ho (fun i=> ?_) (kd_wf fl) Hh.1 Hh.2 (by omega) ?_ (H8.out.below Ha) (Hu.out.below Ha) HN.out ?_ (fun z x hz=> ?_)).mono ?_
   ·by_cases Ge:i<p.length
    ·have:=(Hs.out.2.2 i Ge).2;omega
    ·rw [gS_far (by omega)];simp
   ·have h1:=HW.out.2.2.2;have h2:=Hk.out.size;have h3:=Ha.size;omega
   ·have h1:=HW.out;have h2:=Hk.out.size;have h3:=Ha.size;omega
   ·have h1:=Hu.out.lo z x hz;have h2:=HW.out.2.1;exact⟨by omega,by omega⟩
   rintro e w6 ⟨rfl,g6,_,N',T6,Hw,Hv⟩;have H2:=hid ((Hk.out.keep Ha).trans g6);have H9:=hid T6;have H4:=hid Hv;have H6:=hid Hw;refine hK.out _ _ (Hj.out _ ((Gt.of_below Ha).trans g6)) (fun qh=> ?_);clear hK K;try simp only [zP]
   refine zD ?_;clear qh b5 Ha g6 T6 Hw Hv;go_wp2_with fail;go_roundw;case rel=>
    have Gg:=Hs.out.2.1;refine⟨k+1,Hn,by go_num,H2,N',hid ?_,H6,hid (HI.out.step ?_)⟩
    ·have e:Mk l (k+1)=updM (Mk l k) (wayOf p (kd fl)) (r,q) v:=by simp only [Mk];rw [HE.out]
     rw [e];exact H9.out.mono (by omega)
    ·rw [HE.out];exact H4.out
   case measure=>simp [intOf];omega
  ·obtain rfl:k=l.length:=by omega
   have N5:=Hr.out.gt HG.out;have n0:=N5.c0;have n1:=N5.c1;have B5:=Hi.out.gt HG.out;have c0:=B5.c0;have c1:=B5.c1;have c2:=B5.c2;have f0:=B5.f 0;have f1:=B5.f 1;have f2:=B5.f 2;have HC:=hid (B5.set (.map (some s1)) (.map (some s2)) (.map (some bm)));have Hl:Below w1.heap.size w3 wr:=HG.out.below HW.out.2.2.2;have H3:=hid (Hp.out.below (Gc.out.trans Hl));have Gb:=hid (Ga.out.trans (Hl.mono HW.out.1));clear N5 B5 Hl;go_wp2_with fail;have r0:=HC.out.c0;have r1:=HC.out.c1;have r2:=HC.out.c2;refine zF (v:=.tuple #[.agg #[.map (some s1),.map (some s2),.map (some bm)],.bool true]) (by simp [results,Tryz.results32,go_sem,r0,r1,r2]) ⟨⟨(s1,s2),bm,D,G,N,w1.heap.size,rfl,?_,by have:=Hg.out;omega,HW.out.1,HW.out.2.2.1,?_,HN.out,HI.out⟩,?_⟩
   ·exact((H3.out.set _ _ Hg.out).set _ _ Hg.out).set _ _ Hg.out
   ·exact((HT.out.set _ c0).set _ (Hi.out.gt HG.out|>.set0 _).c1).set _ ((Hi.out.gt HG.out|>.set0 _).set1 _).c2
   ·exact((Gb.out.setCell (by simp) _).setCell (by simp) _).setCell (by simp) _
theorem ready2t {P:Program}{ops:Array Oper}{Q:Exit ->Act ->World ->Prop}{md:Region.Mode}{S:World ->Prop}{i j:Nat}{d d':Option Tmp}{fuel:Nat}{listed:Array Bool}{a:Act}{w:World}
  (hd:ops[i]?.map (fun o=>o.dst)=some d) (hd':ops[j]?.map (fun o=>o.dst)=some d') (hr:Region.ready md ops listed=[i,j])
  (h:∀o,ops[i]? =some o ->o.dst=d ->∀K':Act ->World ->Prop,Shut (∀a w,S w ->(S w ->wpAnyH P md ops Q S fuel (listed.setIfInBounds i true) a w) ->K' a w) ->if Region.wanted o (yielded ops a.tmps)=true then Oper.wp P o a w K' Q else K' (a.put o.dst undef) w)
  (h':∀o,ops[j]? =some o ->o.dst=d' ->∀K':Act ->World ->Prop,Shut (∀a w,S w ->(S w ->wpAnyH P md ops Q S fuel (listed.setIfInBounds j true) a w) ->K' a w) ->if Region.wanted o (yielded ops a.tmps)=true then Oper.wp P o a w K' Q else K' (a.put o.dst undef) w):
  wpAnyH P md ops Q S (fuel+1) listed a w:=by
 obtain⟨o,ho,Hc⟩:=Option.map_eq_some_iff.1 hd;obtain⟨o',Hb,Ha⟩:=Option.map_eq_some_iff.1 hd';exact wpAnyH_ready hr (by simp) (AllReadyH.cons ho (h o ho Hc) (AllReadyH.cons Hb (h' o' Hb Ha) AllReadyH.nil))
def mF (o:Option (Nat×Nat)):Option Nat:=o.map Prod.fst
def mS (o:Option (Nat×Nat)):Option Nat:=o.map Prod.snd
theorem nodV_eq (o:Option (Nat×Nat)):nodV o=.agg #[.map (mF o),.map (mS o)]:=by cases o<;>rfl
theorem Tre.look {w:World}{B c:Nat}{N:List Ky ->Option (Nat×Nat)}{M:List Ky ->Dt ->Option ByteArray}(h:Tre w B N M c)(p:List Ky)(y:Ky){kl:Lit}(hk:keyOf Tryz.prog 114 (keyV y)=some kl):
  (Instr.lookup 62 (.map (mF (N p))) (keyV y) false).run Tryz.prog w=.ok (.agg #[.map (mF (N (p++[y]))),.map (mS (N (p++[y])))]) w:=by
 rw [<- nodV_eq];cases e:N p with
 | some x=>exact(h.kids p x e).look keyKeyed Tryz.underlying62 (zeroNode w) hk
 | none=>
  rw [h.up p y e];exact Maps.look_nil false keyKeyed Tryz.underlying62 (zeroNode w) hk
theorem atC (p:List ByteArray)(a:Option Addr)(cp:Nat)(k:Int)(B c:Nat)(N:List Ky ->Option (Nat×Nat))(M:List Ky ->Dt ->Option ByteArray)(w:World)
  (hp:p.length<=1048576) (hs:∀i,(gS p i).size<=1048576) (hk:(Lit.int .i64 k).wf=true) (h:SSeg w a p) (hT:Tre w B N M c):
  Calls Tryz.prog 34 #[.agg #[.map (mF (N [])),.map (mS (N []))],.slice a p.length cp,.int .i64 k] w fun e w'=>e=.returned (.agg #[.map (mF (N (wayOf p k))),.map (mS (N (wayOf p k)))])/\ Below w.heap.size w w':=by
 obtain⟨u0,Hk⟩:∃u,mF (N [])=u:=⟨_,rfl⟩;obtain⟨u1,Hl⟩:∃u,mS (N [])=u:=⟨_,rfl⟩;rw [Hk,Hl];obtain⟨W,hW⟩:∃W,(w.alloc (.cells #[.map u0,.map u1] 65)).alloc (.cells #[.map none,.map none] 65)=W:=⟨_,rfl⟩;have b0:Below w.heap.size w W:=by rw [<- hW];exact below2 _ _ _
 have P0:Bx2 W w.heap.size (.map u0) (.map u1):=by rw [<- hW];exact(Bx2.made w _ _ _).allocs _
 have P1:Bx2 W (w.heap.size+1) (.map none) (.map none):=by rw [<- hW];simpa using Bx2.made (w.alloc (.cells #[.map u0,.map u1] 65)) (.map none) (.map none) 65
 have HS:=hid h;have Ho:=hid P0;have Hp:=hid P1;have HT:=hid hT;have Hn:=hid b0;have HU:=hid (And.intro Hk Hl);have Hs:=hid hs;clear h hT b0 P0 P1 hs Hk Hl;go_enter Tryz.func34,Tryz.ntmps34;go_wp2_with fail;try rw [hW]
 clear hW;go_loopw [10] (fun i wr=>∃j:Nat,j<=p.length/\ i=.int .i64 j/\ Hid (Below w.heap.size w wr)/\ (∃u v,Hid (mF (N ((wayOf p k).take j))=u/\ mS (N ((wayOf p k).take j))=v)/\ Hid (Bx2 wr w.heap.size (.map u) (.map v))/\ Hid (Bx2 wr (w.heap.size+1) (.map none) (.map none)))) (fun i _=>p.length - (intOf i).toNat);case atStart=>exact⟨0,Nat.zero_le _,rfl,Hn,u0,u1,hid (by simpa using HU.out),Ho,Hp⟩
 case round=>
  clear Ho Hp Hn HU;obtain⟨j,hj,rfl,HB,u,v,HU,HP,HR⟩:=hrel;by_cases He:j<p.length
  ·have i1:(0:Int)<=(j:Int):=Int.natCast_nonneg _;have i2:(j:Int)<(p.length:Int):=by omega
   obtain⟨nm,kd,Ha⟩:∃nm kd,onWay p k j=(nm,kd):=⟨_,_,rfl⟩;obtain⟨kl,Hr⟩:∃kl,keyOf Tryz.prog 114 (keyV (nm,kd))=some kl:=by
    unfold onWay at Ha;have e1:=(Prod.mk.inj Ha).1;have e2:=(Prod.mk.inj Ha).2;refine keyKey ?_ ?_
    ·rw [<- e1];have:=Hs.out j;unfold maxLen;omega
    ·rw [<- e2];split
     ·decide
     ·exact hk
   have Ht:(wayOf p k).take (j+1)=(wayOf p k).take j++[(nm,kd)]:=by rw [wayOf_take He];have:=Ha;unfold onWay at this;rw [this]
   have Hc:Hid (∀w1,Below wr.heap.size wr w1 ->Calls Tryz.prog 60 #[.slice a p.length cp,.int .i64 j,.int .i64 k] w1 fun e w'=>e=.returned (.agg #[.string nm,.int .i64 kd])/\ Below w1.heap.size w1 w'):=hid (fun w1 b1=>by
    have:=keyOnWay p a cp k j w1 hp He (HS.out.below (HB.out.trans (b1.mono HB.out.size)));rw [Ha] at this;exact this)
   obtain⟨u',Hj⟩:∃u',mF (N ((wayOf p k).take (j+1)))=u':=⟨_,rfl⟩;obtain⟨v',Hm⟩:∃v',mS (N ((wayOf p k).take (j+1)))=v':=⟨_,rfl⟩;have Hq:=hid (And.intro Hj Hm);have Hd:Hid (∀w1,Below wr.heap.size wr w1 ->(Instr.lookup 62 (.map u) (.agg #[.string nm,.int .i64 kd]) false).run Tryz.prog w1=.ok (.agg #[.map u',.map v']) w1):=hid (fun w1 b1=>by
    have:=(HT.out.below (HB.out.trans (b1.mono HB.out.size))).look ((wayOf p k).take j) (nm,kd) Hr;rw [<- Ht,Hj,Hm,HU.out.1] at this;exact this)
   have n0:=HP.out.c0;have zb:=HP.out.lt;have HZ:Hid (∀w1,Below wr.heap.size wr w1 ->w1.cell? ⟨w.heap.size,0,none⟩=some (.map u)/\ w1.cell? ⟨w.heap.size,1,none⟩=some (.map v)/\ w1.frozen? ⟨w.heap.size,0,none⟩=false/\ w1.frozen? ⟨w.heap.size,1,none⟩=false/\ Below w.heap.size w ((w1.setCell ⟨w.heap.size,0,none⟩ (.map u')).setCell ⟨w.heap.size,1,none⟩ (.map v'))/\ Bx2 ((w1.setCell ⟨w.heap.size,0,none⟩ (.map u')).setCell ⟨w.heap.size,1,none⟩ (.map v')) w.heap.size (.map u') (.map v')/\ Bx2 ((w1.setCell ⟨w.heap.size,0,none⟩ (.map u')).setCell ⟨w.heap.size,1,none⟩ (.map v')) (w.heap.size+1) (.map none) (.map none)):=hid (fun w1 b1=>by
    have P:=HP.out.below b1 HP.out.lt;exact⟨P.c0,P.c1,P.f 0,P.f 1,((HB.out.trans (b1.mono HB.out.size)).setCell (p:=⟨w.heap.size,0,none⟩) zL _).setCell (p:=⟨w.heap.size,1,none⟩) zL _,P.set _ _,((HR.out.below b1 HR.out.lt).setAt _ _ (by simp)).setAt _ _ (by simp)⟩)
   clear Ha Hr Ht Hj Hm HB HP HR HU;go_wp2_with fail;refine zR (S:=fun w'=>True) trivial (fun qh=> ?_);refine tZ 0 13 ?_;refine tZ 2 15 ?_;refine tZ 3 16 ?_;refine tZ 4 17 ?_;refine ready2t (i:=1) (j:=5) (d:=some 14) (d':=some 18) (by kernel_rfl) (by kernel_rfl) (by kernel_rfl) ?_ ?_
   ·
    intro o ho Hv K hK;simp only [gZa,gZb,gZc,gZd] at ho;subst ho;go_simp;refine hK.out _ _ trivial (fun qh=> ?_);clear hK K;try simp only [zP]
    refine cZ 5 ?_;intro K hK;go_simp;refine(Hc.out _ zI.drew).mono ?_;rintro e w1 ⟨rfl,b1⟩;refine hK.out _ _ trivial (fun qh=> ?_);clear hK K;try simp only [zP]
    have Hb:Below wr.heap.size wr w1:=⟨b1.os,b1.tape,b1.output,b1.size,b1.block⟩;have Hi:=Hd.out _ Hb;refine cZ 6 ?_;intro K hK;go_simp;refine hK.out _ _ trivial (fun qh=> ?_);clear hK K;try simp only [zP]
    clear Hi;obtain⟨t0,t1,t2,t3,z1,z2,z3⟩:=HZ.out _ Hb;have Hf:=hid z1;have Hg:=hid z2;have Hh:=hid z3;clear z1 z2 z3;refine cZ 7 ?_;intro K hK;go_simp;refine hK.out _ _ trivial (fun qh=> ?_);clear hK K;try simp only [zP]
    refine zD ?_;clear qh b1 Hb t0 t1 t2 t3 HZ Hd Hc;go_wp2_with fail;go_roundw;case rel=>exact⟨j+1,He,by go_num,Hf,u',v',Hq,Hg,Hh⟩
    case measure=>simp [intOf];omega
   ·
    intro o ho Hv K hK;simp only [gZa,gZb,gZc,gZd] at ho;subst ho;go_simp;refine(Hc.out _ zI.drew).mono ?_;rintro e w1 ⟨rfl,b1⟩;refine hK.out _ _ trivial (fun qh=> ?_);clear hK K;try simp only [zP]
    have t0:=(HZ.out _ ⟨b1.os,b1.tape,b1.output,b1.size,b1.block⟩).1;refine cZ 1 ?_;intro K hK;go_simp;refine hK.out _ _ trivial (fun qh=> ?_);clear hK K;try simp only [zP]
    clear t0;have Hb:Below wr.heap.size wr w1:=⟨b1.os,b1.tape,b1.output,b1.size,b1.block⟩;have Hi:=Hd.out _ Hb;refine cZ 6 ?_;intro K hK;go_simp;refine hK.out _ _ trivial (fun qh=> ?_);clear hK K;try simp only [zP]
    clear Hi;obtain⟨t0,t1,t2,t3,z1,z2,z3⟩:=HZ.out _ Hb;have Hf:=hid z1;have Hg:=hid z2;have Hh:=hid z3;clear z1 z2 z3;refine cZ 7 ?_;intro K hK;go_simp;refine hK.out _ _ trivial (fun qh=> ?_);clear hK K;try simp only [zP]
    refine zD ?_;clear qh b1 Hb t0 t1 t2 t3 HZ Hd Hc;go_wp2_with fail;go_roundw;case rel=>exact⟨j+1,He,by go_num,Hf,u',v',Hq,Hg,Hh⟩
    case measure=>simp [intOf];omega
  ·obtain rfl:j=p.length:=by omega
   have Hu:(wayOf p k).take p.length=wayOf p k:=List.take_of_length_le (by rw [wayOf_len];exact Nat.le_refl _);rw [Hu] at HU;have c0:=HP.out.c0;have c1:=HP.out.c1;have d0:=HR.out.c0;have d1:=HR.out.c1;have f0:=HR.out.f 0;have f1:=HR.out.f 1;have HX:=hid (HR.out.set (.map u) (.map v));clear Hu HP HR;go_wp2_with fail;have r0:=HX.out.c0;have r1:=HX.out.c1;refine zF (v:=.agg #[.map u,.map v]) (by simp [results,Tryz.results34,go_sem,r0,r1]) ⟨by rw [HU.out.1,HU.out.2],?_⟩;exact(HB.out.setCell (by simp) _).setCell (by simp) _
theorem toList_inj {s t:ByteArray}(h:s.toList=t.toList):s=t:=by
 rw [ByteArray.toList_eq,ByteArray.toList_eq] at h;exact bytes_inj h
theorem less_self:∀l:List UInt8,Op.bytesLess l l=false
 | []=>rfl
 | a::l=>by simp [Op.bytesLess,less_self l]
theorem cmpS_z {s t:ByteArray}:cmpS s t=0↔s=t:=by
 unfold cmpS ltS eqS;constructor
 ·intro h;split at h
  ·cases h
  ·split at h
   ·rename_i e;exact toList_inj (by simpa using e)
   ·cases h
 ·rintro rfl;rw [if_neg (by rw [less_self];simp),if_pos (by simp)]
theorem cmpP_z:∀{p q:List ByteArray},cmpP p q=0↔p=q
 | [],[]=>by simp [cmpP]
 | [],_::_=>by simp [cmpP]
 | _::_,[]=>by simp [cmpP]
 | s::p,t::q=>by
  simp only [cmpP];by_cases e:cmpS s t=0
  ·rw [if_pos e,cmpP_z];have:=cmpS_z.1 e;subst this;simp
  ·rw [if_neg e];exact⟨fun h=>absurd h e,fun h=>by injection h with h1 h2;exact absurd (cmpS_z.2 h1) e⟩
theorem Tre.len {w:World}{B c:Nat}{N:List Ky ->Option (Nat×Nat)}{M:List Ky ->Dt ->Option ByteArray}(h:Tre w B N M c)(p:List Ky):
  ∃n:Nat,(∀ty,(Builtin.len_ #[63] ty #[.map (mS (N p))]).run Tryz.prog w=.ok (.int .i64 n) w)/\ (0<n↔∃d,M p d≠none):=by
 cases e:N p with
 | some x=>
  obtain⟨n,h1,_,h2⟩:=(h.marks p x e).len dotKeyed Tryz.underlying63;exact⟨n,h1,h2⟩
 | none=>
  refine⟨0,fun ty=>Maps.len_nil Tryz.underlying63 ty,?_⟩;rw [h.none' p e];simp
def FlagOn (l:List Lf)(p:List ByteArray)(k:Nat):Prop:=∃j,j<k/\ (gL l j).fl=true/\ (gL l j).p=p
theorem FlagOn.step {l:List Lf}{p:List ByteArray}{k:Nat}:FlagOn l p (k+1)↔FlagOn l p k \/((gL l k).fl=true/\ (gL l k).p=p):=by
 constructor
 ·rintro⟨j,hj,r⟩;by_cases e:j=k
  ·subst e;exact .inr r
  ·exact .inl ⟨j,by omega,r⟩
 ·rintro(⟨j,hj,r⟩|r)
  ·exact⟨j,by omega,r⟩
  ·exact⟨k,by omega,r⟩
def RfOk (R F T:Nat ->Int)(n:Nat)(l:List Lf)(p:List ByteArray):Prop:=StOk R F T n l/\ PthOk p/\ FlagOn l p l.length
theorem specReadFlagG (a:Option Addr)(c:Nat)(l:List Lf)(x:Option Addr)(n d:Nat)(R F T:Nat ->Int)(p:List ByteArray)(pa:Option Addr)(cp:Nat)(w:World)(hn:l.length<=1048576)(hp:LBd l)(hm:n<=1048576)(hq:p.length<=1048576)(h:LCap w a l)(h':RSeg w x n R F T)(hs:SSeg w pa p)(hcp:p.length<=cp/\ cp<=9223372036854775807):
  Calls Tryz.prog 13 #[.agg #[.slice a l.length c,.slice x n d],.slice pa p.length cp] w fun e w'=>e=.returned (.bool (yes (RfOk R F T n l p)))/\ Below w.heap.size w w':=by
 obtain⟨W,hW⟩:∃W,w.alloc (.cells #[.slice a l.length c,.slice x n d] 28)=W:=⟨_,rfl⟩;have b0:Below w.heap.size w W:=by rw [<- hW];exact zO _ _
 have B0:Bx2 W w.heap.size (.slice a l.length c) (.slice x n d):=by rw [<- hW];exact Bx2.made _ _ _ _
 have HL:=hid (h.below b0);have HR:=hid (h'.below b0);have HS:=hid (hs.below b0);have He:=hid b0;have Hh:=hid B0;clear h h' hs b0 B0;go_enter Tryz.func13,Tryz.ntmps13;go_wp2_with fail;try rw [hW]
 clear hW;go_loopw [5,6] (fun o i wr=>∃k:Nat,k<=l.length/\ i=.int .i64 k/\ (∃B,o=.bool B/\ Hid (B=yes (FlagOn l p k)))/\ Hid (Below W.heap.size W wr)) (fun _ i _=>l.length - (intOf i).toNat);case atStart=>exact⟨0,Nat.zero_le _,rfl,⟨false,rfl,hid (yes_f (fun⟨j,hj,_⟩=>by omega)).symm⟩,hid zI⟩
 case round=>
  obtain⟨k,hk,rfl,⟨O,rfl,HO⟩,HB⟩:=hrel;have B1:=Hh.out.below HB.out Hh.out.lt;have k0:=B1.c0;have k1:=B1.c1;by_cases Hd:k<l.length
  ·cases O with
   | true=>
    have HF:=hid (FlagOn.step.2 (.inl (yes_iff.1 HO.out.symm)));go_wp2_with fail;go_roundw;case rel=>exact⟨k+1,Hd,by go_num,⟨true,rfl,hid (yes_t HF.out).symm⟩,HB⟩
    case measure=>simp [intOf];omega
   | false=>
    have Hi:Hid (¬FlagOn l p k):=hid (fun h=>by have:=HO.out;rw [yes_t h] at this;cases this);rcases HL.out with h|⟨b,Hk,rfl,hb,hc⟩
    ·omega
    obtain⟨qa,qc,⟨c0,Ha⟩,sg,c1,c2,c3,c4⟩:=hc k Hd;have x0:=(HB.out.cell (p:=⟨b,Hk+k*5,none⟩) hb).trans c0;have x1:=(HB.out.cell (p:=⟨b,Hk+k*5+1,none⟩) hb).trans c1;have i1:(0:Int)<=(k:Int):=Int.natCast_nonneg _;have i2:(k:Int)<(l.length:Int):=by omega
    have Hf:=hid (sg.below HB.out);have Hj:=hp k;obtain⟨y,hy⟩:∃y,gL l k=y:=⟨_,rfl⟩;rw [hy] at x0 x1 Hf Hj Ha;have HE:=hid hy;obtain⟨lp,fl,r,q,v⟩:=y;dsimp only at x0 x1 Hf Hj Ha;have Hc:=hid Ha;clear hc c0 c1 c2 c3 c4 sg hy Ha;cases fl with
    | false=>
     have HF:Hid (¬FlagOn l p (k+1)):=hid (fun h=>(FlagOn.step.1 h).elim Hi.out (fun e=>by have:=e.1;rw [HE.out] at this;cases this));go_wp2_with fail;go_roundw;case rel=>exact⟨k+1,Hd,by go_num,⟨false,rfl,hid (yes_f HF.out).symm⟩,HB⟩
     case measure=>simp [intOf];omega
    | true=>
     have HF:Hid (FlagOn l p (k+1)↔cmpP lp p=0):=hid (by
      rw [FlagOn.step,cmpP_z,HE.out];exact⟨fun h=>h.elim (fun h=>absurd h Hi.out) (fun h=>h.2),fun h=> .inr ⟨rfl,h⟩⟩)
     have HC:=hid (cmpSpec lp p qa pa qc cp wr Hc.out.1 hcp.1 Hc.out.2 hcp.2 Hf.out (HS.out.below HB.out));obtain⟨C,hC⟩:∃C,cmpP lp p=C:=⟨_,rfl⟩;rw [hC] at HF HC;clear hC;go_wp2_with fail;refine HC.out.mono ?_;rintro e w2 ⟨rfl,dn,rfl⟩;have Hb:=hid (below_drewS HB.out dn);clear HC;by_cases hz:C=0
     ·have d0:(C==0)=true:=by simpa using hz
      have HG:=hid (HF.out.2 hz);clear hz HF;go_wp2_with fail;go_roundw;case rel=>exact⟨k+1,Hd,by go_num,⟨true,rfl,hid (yes_t HG.out).symm⟩,Hb⟩
      case measure=>simp [intOf];omega
     ·have d0:(C==0)=false:=by simpa using hz
      have HG:Hid (¬FlagOn l p (k+1)):=hid (fun h=>hz (HF.out.1 h));clear hz HF;go_wp2_with fail;go_roundw;case rel=>exact⟨k+1,Hd,by go_num,⟨false,rfl,hid (yes_f HG.out).symm⟩,Hb⟩
      case measure=>simp [intOf];omega
  ·obtain rfl:k=l.length:=by omega
   cases O with
   | false=>
    have HF:Hid (yes (RfOk R F T n l p)=false):=hid (yes_f (fun h=>by have:=HO.out;rw [yes_t h.2.2] at this;cases this));have HZ:=hid (keepS He.out HB.out);go_wp2_with fail;go_ret;exact⟨ret_b HF.out.symm,HZ.out⟩
   | true=>
    have HF:=hid (yes_iff.1 HO.out.symm);have Hg:=hid (specStateOk a c l x n d R F T wr hn hp hm (HL.out.below HB.out) (HR.out.below HB.out));obtain⟨Y,hY⟩:∃Y,yes (StOk R F T n l)=Y:=⟨_,rfl⟩;have HY:=hid hY;rw [hY] at Hg;clear hY;go_wp2_with fail;refine Hg.out.mono ?_;rintro e w2 ⟨rfl,b2⟩;have Hb:=hid (HB.out.trans (b2.mono HB.out.size));clear b2 Hg k0 k1;cases Y with
    | false=>
     have HG:Hid (yes (RfOk R F T n l p)=false):=hid (yes_f (fun h=>by have:=HY.out;rw [yes_t h.1] at this;cases this));have HZ:=hid (keepS He.out Hb.out);go_wp2_with fail;go_ret;exact⟨ret_b HG.out.symm,HZ.out⟩
    | true=>
     have HP:=hid (pathSpec p pa cp w2 hq (HS.out.below Hb.out));have HG:Hid (yes (RfOk R F T n l p)=yes (PthOk p)):=hid (by
      by_cases e:PthOk p
      ·rw [yes_t e,yes_t ⟨yes_iff.1 HY.out,e,HF.out⟩]
      ·rw [yes_f e,yes_f (fun h=>e h.2.1)])
     have HZ:=hid (keepS He.out Hb.out);obtain⟨Z,hZ⟩:∃Z,yes (PthOk p)=Z:=⟨_,rfl⟩;rw [hZ] at HP HG;clear hZ;go_wp2_with fail;refine HP.out.mono ?_;rintro e w3 ⟨rfl,rfl⟩;clear HP;cases Z<;>
     ·go_wp2_with fail;go_ret;exact⟨ret_b HG.out.symm,HZ.out⟩
theorem fieldMarks (u v:Value)(w:World):(Instr.field 65 (.agg #[u,v]) 1).run Tryz.prog w=.ok v w:=by kernel_rfl
theorem flag_way {l:List Lf}{p:List ByteArray}(hp:PthOk p):(∃d,Mk l l.length (wayOf p 2) d≠none)↔FlagOn l p l.length:=by
 constructor
 ·rintro⟨d,hd⟩;obtain⟨j,hj,e,_⟩:=Mk_ne.1 hd;obtain⟨e1,e2⟩:=wayOf_inj e.symm (by have:=hp.1;omega);refine⟨j,hj,?_,e1.symm⟩;cases hf:(gL l j).fl with
  | true=>rfl
  | false=>rw [hf] at e2;cases e2
 ·rintro⟨j,hj,e1,e2⟩;refine⟨((gL l j).r,(gL l j).q),Mk_ne.2 ⟨j,hj,?_,rfl⟩⟩;unfold Way;rw [e1,e2];rfl
theorem implReadFlag (a:Option Addr)(c:Nat)(l:List Lf)(x:Option Addr)(n d:Nat)(R F T:Nat ->Int)(p:List ByteArray)(pa:Option Addr)(cp:Nat)(w:World)(hn:l.length<=1048576)(hp:LBd l)(hi:∀i,LfI (gL l i))(hm:n<=1048576)(hq:p.length<=1048576)(h:LSeg w a l)(h':RSeg w x n R F T)(hs:SSeg w pa p):
  Calls Tryz.prog 12 #[.agg #[.slice a l.length c,.slice x n d],.slice pa p.length cp] w fun e w'=>e=.returned (.bool (yes (RfOk R F T n l p)))/\ Below w.heap.size w w':=by
 obtain⟨W,hW⟩:∃W,w.alloc (.cells #[.slice a l.length c,.slice x n d] 28)=W:=⟨_,rfl⟩;have b0:Below w.heap.size w W:=by rw [<- hW];exact zO _ _
 have B0:Bx2 W w.heap.size (.slice a l.length c) (.slice x n d):=by rw [<- hW];exact Bx2.made _ _ _ _
 have k0:=B0.c0;have k1:=B0.c1;have HL:=hid (h.below b0);have HR:=hid (h'.below b0);have HS:=hid (hs.below b0);have Hb:=hid b0;clear h h' hs b0 B0;by_cases Ha:StOk R F T n l
 ·have HO:=hid (openStateK a c l x n d R F T W hn hp hi hm HL.out HR.out Ha);have Hj:=hid Ha;clear Ha;go_enter Tryz.func12,Tryz.ntmps12;go_wp2_with fail;try rw [hW]
  clear hW;refine HO.out.mono ?_;rintro e w1 ⟨⟨x0,bm,D,G,N,B,rfl,Hc,_,_,_,hT,hN,hI⟩,b1⟩;obtain⟨w2,Hi⟩:∃w2,w1.alloc (.cells #[.map (some x0.1),.map (some x0.2),.map (some bm)] 69)=w2:=⟨_,rfl⟩;have b2:Below w1.heap.size w1 w2:=by rw [<- Hi];exact zO _ _
  have L2:Bx3 w2 w1.heap.size (.map (some x0.1)) (.map (some x0.2)) (.map (some bm)):=by rw [<- Hi];exact Bx3.made _ _ _ _ _
  have c0:=L2.c0;have c1:=L2.c1;have HT:=hid (hT.below b2);have HN:=hid hN;have HZ:=hid (keepS Hb.out (keepS b1 b2));have HP:=hid (pathImpl p pa cp w2 hq (HS.out.below (keepS b1 b2)));have Hk:=hid (HS.out.below (keepS b1 b2));clear b1 b2 L2 hT hN hI Hc HO k0 k1;obtain⟨Z,hZ⟩:∃Z,yes (PthOk p)=Z:=⟨_,rfl⟩;rw [hZ] at HP;have Hg:=hid hZ;clear hZ;go_wp2_with fail;refine HP.out.mono ?_;rintro e w3 ⟨rfl,rfl⟩;clear HP;cases Z with
  | false=>
   have HG:Hid (yes (RfOk R F T n l p)=false):=hid (yes_f (fun h=>by have:=Hg.out;rw [yes_t h.2.1] at this;cases this));go_wp2_with fail;go_ret;exact⟨ret_b HG.out.symm,HZ.out⟩
  | true=>
   have Hd:=yes_iff.1 Hg.out;have HA:=hid (atC p pa cp 2 B (9*l.length) N (Mk l l.length) w3 hq (fun i=>by
    by_cases Hm:i<p.length
    ·have:=(Hd.2.2 i Hm).2;omega
    ·rw [gS_far (by omega)];simp) (by decide) Hk.out HT.out)
   rw [HN.out] at HA;have Hf:=hid Hd;clear Hd;obtain⟨u,hu⟩:∃u,mF (N (wayOf p 2))=u:=⟨_,rfl⟩;obtain⟨v,hv⟩:∃v,mS (N (wayOf p 2))=v:=⟨_,rfl⟩;have He:Hid (∀w4,Below w3.heap.size w3 w4 ->∃m:Nat,(∀ty,(Builtin.len_ #[63] ty #[.map v]).run Tryz.prog w4=.ok (.int .i64 m) w4)/\ decide (0<m)=yes (RfOk R F T n l p)):=hid (fun w4 b4=>by
    obtain⟨m,h1,h2⟩:=(HT.out.below b4).len (wayOf p 2);rw [hv] at h1;refine⟨m,h1,?_⟩;have:0<m↔RfOk R F T n l p:=by
     rw [h2,flag_way Hf.out];exact⟨fun h=>⟨Hj.out,Hf.out,h⟩,fun h=>h.2.2⟩
    by_cases e:0<m
    ·rw [yes_t (this.1 e)];simpa using e
    ·rw [yes_f (fun h=>e (this.2 h))];simpa using e)
   rw [hu,hv] at HA;dsimp only [mF,mS,Option.map] at HA;clear hu hv;go_wp2_with fail;refine HA.out.mono ?_;rintro e w4 ⟨rfl,b4⟩;obtain⟨m,Ho,Hh⟩:=He.out w4 b4;have Hl:=hid (keepS HZ.out b4);have HM:=hid Hh;have Hn:=fieldMarks (.map u) (.map v) w4;clear b4 HA He Hh;go_wp2_with fail;go_ret;exact⟨ret_b HM.out,Hl.out⟩
 ·have HO:=hid (openStateNo a c l x n d R F T W hn hp hi hm HL.out HR.out Ha);have HG:Hid (yes (RfOk R F T n l p)=false):=hid (yes_f (fun h=>Ha h.1));clear Ha;go_enter Tryz.func12,Tryz.ntmps12;go_wp2_with fail;try rw [hW]
  clear hW;refine HO.out.mono ?_;rintro e w1 ⟨rfl,b1⟩;have HZ:=hid ((keepS Hb.out b1).alloc (keepS Hb.out b1).size (.cells #[.map none,.map none,.map none] 69));clear b1 HO k0 k1;go_wp2_with fail;go_ret;exact⟨ret_b HG.out.symm,HZ.out⟩
open Go.Sort Go.Lib Go.Shelf
structure CmpT {α:Type}(f:α ->α ->Int):Prop where
 z:∀x y,f x y=0↔x=y
 neg:∀x y,f x y<0↔0<f y x
 tr:∀x y z,f x y<0 ->f y z<0 ->f x z<0
theorem CmpT.irr {α:Type}{f:α ->α ->Int}(h:CmpT f)(x:α):f x x=0:=(h.z x x).2 rfl
theorem CmpT.swo {α:Type}{f:α ->α ->Int}(h:CmpT f):SWO (ltOf f) where
 irrefl x:=by simp [ltOf,h.irr x]
 trans x y z h1 h2:=by simp only [ltOf,decide_eq_true_eq] at*;exact h.tr x y z h1 h2
 ntrans x y z h1 h2:=by
  simp only [ltOf,decide_eq_false_iff_not] at*;intro h3;have e1:0<=f x y:=by omega
  have e2:0<=f y z:=by omega
  rcases Int.lt_or_eq_of_le e1 with e1|e1
  ·have:=h.tr y x z ((h.neg y x).2 e1) h3;omega
  ·have:=(h.z x y).1 e1.symm;subst this;omega
theorem CmpT.int:CmpT cmpI:=⟨fun x y=>cmpI_z,fun x y=>by unfold cmpI;split<;>split<;>(try split)<;>(try split)<;>omega,fun x y z h1 h2=>by rw [cmpI_neg] at*;omega⟩
theorem CmpT.pair {α β:Type}{f:α ->α ->Int}{g:β ->β ->Int}(hf:CmpT f)(hg:CmpT g):CmpT (fun x y:α×β=>orI (f x.1 y.1) (g x.2 y.2)):=by
 refine⟨fun x y=> ?_,fun x y=> ?_,fun x y z=> ?_⟩
 ·simp only [orI];by_cases e:f x.1 y.1=0
  ·rw [if_pos e,hg.z];exact⟨fun h=>Prod.ext ((hf.z _ _).1 e) h,fun h=>by rw [h]⟩
  ·rw [if_neg e];exact⟨fun h=>absurd h e,fun h=>by rw [h] at e;exact absurd (hf.irr _) e⟩
 ·simp only [orI];by_cases e:f x.1 y.1=0
  ·have e':f y.1 x.1=0:=(hf.z _ _).2 ((hf.z _ _).1 e).symm;rw [if_pos e,if_pos e',hg.neg]
  ·have e':f y.1 x.1≠0:=fun h=>e ((hf.z _ _).2 ((hf.z _ _).1 h).symm);rw [if_neg e,if_neg e',hf.neg]
 ·simp only [orI];intro h1 h2;by_cases e:f x.1 y.1=0
  ·rw [if_pos e] at h1;have:=(hf.z _ _).1 e;by_cases e2:f y.1 z.1=0
   ·rw [if_pos e2] at h2;have e3:f x.1 z.1=0:=by rw [this];exact e2
    rw [if_pos e3];exact hg.tr _ _ _ h1 h2
   ·rw [if_neg e2] at h2;have e3:f x.1 z.1≠0:=by rw [this];exact e2
    rw [if_neg e3,this];exact h2
  ·rw [if_neg e] at h1;by_cases e2:f y.1 z.1=0
   ·have:=(hf.z _ _).1 e2;have e3:f x.1 z.1≠0:=by rw [<- this];exact e
    rw [if_neg e3,<- this];exact h1
   ·rw [if_neg e2] at h2;have h3:=hf.tr _ _ _ h1 h2;rw [if_neg (by omega)];exact h3
theorem CmpT.comap {α β:Type}{f:α ->α ->Int}(hf:CmpT f)(m:β ->α)(hm:∀x y,m x=m y ->x=y):CmpT (fun x y=>f (m x) (m y)):=
 ⟨fun x y=>(hf.z _ _).trans ⟨hm x y,fun h=>by rw [h]⟩,fun x y=>hf.neg _ _,fun x y z=>hf.tr _ _ _⟩
theorem less_tri:∀x y:List UInt8,Op.bytesLess x y=false ->Op.bytesLess y x=false ->x=y
 | [],[],_,_=>rfl
 | [],_::_,h,_=>by simp [Op.bytesLess] at h
 | _::_,[],_,h=>by simp [Op.bytesLess] at h
 | a::x,b::y,h,h'=>by
  simp only [Op.bytesLess,Bool.or_eq_false_iff,decide_eq_false_iff_not,Bool.and_eq_false_iff] at h h';have e:a=b:=by
   have h1:=h.1;have h2:=h'.1;rcases Nat.lt_trichotomy a.toNat b.toNat with h3|h3|h3
   ·exact absurd (UInt8.lt_iff_toNat_lt.2 h3) h1
   ·exact UInt8.toNat_inj.1 h3
   ·exact absurd (UInt8.lt_iff_toNat_lt.2 h3) h2
  subst e;rw [less_tri x y (by simpa using h.2) (by simpa using h'.2)]
theorem less_asy:∀x y:List UInt8,Op.bytesLess x y=true ->Op.bytesLess y x=false
 | [],[],_=>rfl
 | [],_::_,_=>rfl
 | _::_,[],h=>by simp [Op.bytesLess] at h
 | a::x,b::y,h=>by
  simp only [Op.bytesLess,Bool.or_eq_true,decide_eq_true_eq,Bool.and_eq_true,beq_iff_eq] at h;simp only [Op.bytesLess,Bool.or_eq_false_iff,decide_eq_false_iff_not,Bool.and_eq_false_iff];rcases h with h|⟨rfl,h⟩
  ·have h':=UInt8.lt_iff_toNat_lt.1 h;refine⟨fun h2=>by have:=UInt8.lt_iff_toNat_lt.1 h2;omega,.inl ?_⟩;simp only [beq_eq_false_iff_ne];intro e;subst e;omega
  ·exact⟨fun h2=>by have:=UInt8.lt_iff_toNat_lt.1 h2;omega,.inr (less_asy x y h)⟩
theorem less_trans:∀x y z:List UInt8,Op.bytesLess x y=true ->Op.bytesLess y z=true ->Op.bytesLess x z=true
 | _,_,[],_,h=>by cases ‹List UInt8›<;>simp [Op.bytesLess] at h
 | [],_,_::_,_,_=>rfl
 | _::_,[],_,h,_=>by simp [Op.bytesLess] at h
 | a::x,b::y,c::z,h,h'=>by
  simp only [Op.bytesLess,Bool.or_eq_true,decide_eq_true_eq,Bool.and_eq_true,beq_iff_eq] at h h' ⊢;rcases h with h|⟨rfl,h⟩
  ·rcases h' with h'|⟨rfl,h'⟩
   ·exact .inl (UInt8.lt_iff_toNat_lt.2 (by have:=UInt8.lt_iff_toNat_lt.1 h;have:=UInt8.lt_iff_toNat_lt.1 h';omega))
   ·exact .inl h
  ·rcases h' with h'|⟨rfl,h'⟩
   ·exact .inl h'
   ·exact .inr ⟨rfl,less_trans x y z h h'⟩
theorem cmpS_neg {s t:ByteArray}:cmpS s t<0↔Op.bytesLess s.toList t.toList=true:=by
 unfold cmpS ltS eqS;split
 ·rename_i h;exact⟨fun _=>h,fun _=>by decide⟩
 ·rename_i h;split<;>exact⟨fun h2=>by omega,fun h2=>absurd h2 h⟩
theorem CmpT.str:CmpT cmpS:=by
 refine⟨fun x y=>cmpS_z,fun x y=> ?_,fun x y z h1 h2=> ?_⟩
 ·rw [cmpS_neg];constructor
  ·intro h;have:=less_asy _ _ h;unfold cmpS ltS eqS;rw [if_neg (by rw [this];simp),if_neg]
   ·decide
   ·intro e;rw [toList_inj (by simpa using e:y.toList=x.toList),less_self] at h;cases h
  ·intro h;cases e:Op.bytesLess x.toList y.toList with
   | true=>rfl
   | false=>
    exfalso;cases e':Op.bytesLess y.toList x.toList with
    | true=>have:=cmpS_neg.2 e';omega
    | false=>rw [cmpS_z.2 (toList_inj (less_tri _ _ e' e))] at h;omega
 ·rw [cmpS_neg] at*;exact less_trans _ _ _ h1 h2
def cmpK (x y:Ky):Int:=orI (cmpS x.1 y.1) (cmpI x.2 y.2)
def cmpDt (x y:Dt):Int:=orI (cmpI x.1 y.1) (cmpI x.2 y.2)
theorem CmpT.key:CmpT cmpK:=CmpT.str.pair CmpT.int
theorem CmpT.dot:CmpT cmpDt:=CmpT.int.pair CmpT.int
theorem CmpT.uniq {α:Type}{f:α ->α ->Int}(h:CmpT f):∀{l m:List α},l.Pairwise (fun x y=>f x y<0) ->m.Pairwise (fun x y=>f x y<0) ->(∀x,x∈l↔x∈m) ->l=m
 | [],[],_,_,_=>rfl
 | [],y::m,_,_,hm=>by have:=(hm y).2 (by simp);simp at this
 | x::l,[],_,_,hm=>by have:=(hm x).1 (by simp);simp at this
 | x::l,y::m,hl,hm',hm=>by
  have Hc:=List.pairwise_cons.1 hl;have Ha:=List.pairwise_cons.1 hm';have e:x=y:=by
   rcases List.mem_cons.1 ((hm x).1 (by simp)) with e|e
   ·exact e
   ·rcases List.mem_cons.1 ((hm y).2 (by simp)) with e2|e2
    ·exact e2.symm
    ·have h1:=Ha.1 x e;have h2:=Hc.1 y e2;have:=h.tr _ _ _ h1 h2;rw [h.irr] at this;omega
  subst e;congr 1;refine h.uniq Hc.2 Ha.2 fun z=> ?_;have hz:=hm z;simp only [List.mem_cons] at hz;constructor
  ·intro Hb;rcases hz.1 (.inr Hb) with e|e
   ·subst e;have:=Hc.1 _ Hb;rw [h.irr] at this;omega
   ·exact e
  ·intro Hb;rcases hz.2 (.inr Hb) with e|e
   ·subst e;have:=Ha.1 _ Hb;rw [h.irr] at this;omega
   ·exact e
theorem CmpT.rises {α:Type} [Inhabited α]{f:α ->α ->Int}(h:CmpT f){d:Array α}(hs:SortedIn (ltOf f) 0 d.size d)(hn:d.toList.Nodup):d.toList.Pairwise (fun x y=>f x y<0):=by
 rw [List.pairwise_iff_getElem];intro i j hi hj Ha;have h1:=hs i j (by omega) Ha (by simpa using hj);have Hb:i<d.size:=by simpa using hi
 have Hc:j<d.size:=by simpa using hj
 have e1:d[i]! =d[i]:=getElem!_pos d i Hb;have e2:d[j]! =d[j]:=getElem!_pos d j Hc;rw [e1,e2] at h1;simp only [ltOf,decide_eq_false_iff_not] at h1;have Hd:d[i]≠d[j]:=by
  have:=(List.nodup_iff_pairwise_ne.1 hn);rw [List.pairwise_iff_getElem] at this;simpa using this i j hi hj Ha
 have h2:f d[i] d[j]≠0:=fun e=>Hd ((h.z _ _).1 e);have h3:=h.neg (d[j]) (d[i]);have h4:¬0<f d[i] d[j]:=fun e=>h1 (h3.2 e);have:f d[i] d[j]<0:=by omega
 simpa using this
def Bw (w w':World):Prop:=Below w.heap.size w w'/\ w.drawn<=w'.drawn
theorem Bw.grown {w w':World}(h:Bw w w'):∃q os,w'=grow (w.drewN q) os:=by
 obtain⟨hb,hd⟩:=h;refine⟨w'.drawn - w.drawn,w'.heap.extract w.heap.size w'.heap.size,?_⟩;obtain⟨hp,tp,dr,os,Hf⟩:=w;obtain⟨Ha,Hg,Hc,He,Hb⟩:=w';obtain⟨b1,b2,b3,b4,b5⟩:=hb;simp only at b1 b2 b3 b4 b5 hd;subst b1;subst b2;subst b3;simp only [grow,World.drewN,World.mk.injEq,and_true,true_and];refine⟨?_,by omega⟩;apply Array.ext_getElem?;intro i;rw [Array.getElem?_append];split
 ·rename_i hi;exact b5 i hi
 ·rename_i hi;rw [Array.getElem?_extract];by_cases Hd:i<Ha.size
  ·rw [if_pos (by omega)];congr 1;omega
  ·rw [if_neg (by omega)];exact Array.getElem?_eq_none (by omega)
end Go.Proofs.YtfidfeilljlbiaaGreat
