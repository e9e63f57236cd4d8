import Derived.Test.YtfidfeilljlbiaaGreatFrg18
import Derived.Deep.CutRange
import Derived.Test.YtfidfeilljlbiaaGreatFrg14
set_option linter.unusedVariables false
set_option linter.unusedSimpArgs false
set_option maxRecDepth 100000
set_option maxHeartbeats 40000000
namespace Go.Proofs.YtfidfeilljlbiaaGreat
open Go.ChangeShapes Go.WideShapes Go.ChangeAt Go.RowKit Go.Deep
structure Vb where
 b:Nat
 a:Option Addr
 x:Option Addr
 c:Nat
 d:Nat
 S:Sx
def Vb.At (v:Vb)(w:World):Prop:=Bx2 w v.b (.slice v.a v.S.l.length v.c) (.slice v.x v.S.n v.d)/\ SCt w v.a v.x v.S
def Ats (w:World)(L:List Vb):Prop:=∀v∈L,v.At w
theorem Ats.below {w w1:World}{L:List Vb}(h:Ats w L)(hb:Below w.heap.size w w1):Ats w1 L:=fun v hv=>⟨(h v hv).1.below hb (h v hv).1.lt,(h v hv).2.below hb⟩
theorem Ats.box {w w1:World}{L:List Vb}(h:Ats w L)(hb:Below w.heap.size w w1){a x:Option Addr}{S:Sx}(s:SCt w1 a x S)(c d:Nat):Ats (w1.alloc (.cells #[.slice a S.l.length c,.slice x S.n d] 28)) (⟨w1.heap.size,a,x,c,d,S⟩::L):=fun v hv=>by
 have b2:Below w1.heap.size w1 (w1.alloc (.cells #[.slice a S.l.length c,.slice x S.n d] 28)):=zO _ _;rcases List.mem_cons.1 hv with rfl|hv
 ·exact⟨Bx2.made _ _ _ _,s.below b2⟩
 ·exact(h.below hb).below b2 v hv
theorem Ats.box2 {w w1:World}{L:List Vb}(h:Ats w L)(hb:Below w.heap.size w w1){a x a' x':Option Addr}{S S':Sx}(s:SCt w1 a x S)(s':SCt w1 a' x' S')(c d c' d':Nat):Ats ((w1.alloc (.cells #[.slice a S.l.length c,.slice x S.n d] 28)).alloc (.cells #[.slice a' S'.l.length c',.slice x' S'.n d'] 28)) (⟨w1.heap.size+1,a',x',c',d',S'⟩::⟨w1.heap.size,a,x,c,d,S⟩::L):=by
 have b2:Below w1.heap.size w1 (w1.alloc (.cells #[.slice a S.l.length c,.slice x S.n d] 28)):=zO _ _;have:=(h.box hb s c d).box zI (s'.below b2) c' d';simpa using this
theorem jnv_gd {S S':Sx}(hb:jnB S S'=true):(jnS S S').Sm/\∀i,LfI (gL (jnS S S').l i):=by
 obtain⟨h,h',hf⟩:=jnB_iff.1 hb;refine⟨by have:=jnZ_sm S S';rw [jnZ_t hb] at this;exact this,fun i=> ?_⟩;by_cases hi:i<(jnS S S').l.length
 ·obtain⟨a,b,_⟩:=jn_bd h.w h'.w _ (gL_mem.2 ⟨i,hi,rfl⟩);exact⟨wfI (by omega) (by omega),wfI (by omega) (by omega)⟩
 ·exact gL_fa hi
theorem OffV.self {w:World}{B size g off n n' c:Nat}{xs:List Value}(h:OffV w B size (.slice (some ⟨g,off,none⟩) n' c) n xs):OffV w g size (.slice (some ⟨g,off,none⟩) n' c) n xs:=by
 obtain⟨g',Ha,c',e,hB,r⟩:=h;have e0:=e;injection e with e1 _ _;injection e1 with e1;injection e1 with e1 _ _;exact⟨g',Ha,c',e0,Nat.le_of_eq e1,r⟩
structure SpA (w wx:World)(B rb:Nat)(f:Nat ->Int)(n x:Nat)(S:Sx)(g c gx cx:Nat)(P Q:Nat ->Nat):Prop where
 bs:Bx2 wx w.heap.size (.slice (some ⟨g,0,none⟩) S.l.length c) (.slice (some ⟨gx,0,none⟩) S.n cx)
 br:Bx2 wx (w.heap.size+1) (.slice none 0 0) (.slice none 0 0)
 lc:LC wx (w.heap.size+2) (.slice (some ⟨g,0,none⟩) S.l.length c) S.l P Q
 ow:Ow wx (w.heap.size+2) S.l P Q
 sep:Sep P S.l.length
 ru:OffR wx (w.heap.size+2) (.slice (some ⟨gx,0,none⟩) S.n cx) (fS S)
 gn:g≠gx
 pn:∀i,i<S.l.length ->P i≠gx
 up:0<S.n ->g<gx/\∀i,i<S.l.length ->P i<gx
 rd:RdJ wx B rb f n x
 gr:w.grownBy wx (some rb)
 z:B<=w.heap.size
section
variable {w w1 w2 : World} {B rb n x : Nat} {f : Nat -> Int} {S : Sx} {g c gx cx : Nat} {P Q : Nat -> Nat}
theorem Cpd.spA {va vx:Value}(h:Cpd w1 w2 S g c gx cx P Q)(hA:Bx2 w1 w.heap.size va vx)(hR:Bx2 w1 (w.heap.size+1) (.slice none 0 0) (.slice none 0 0))(hr:RdJ w1 B rb f n x)(hg:w.grownBy w1 (some rb))(hB:B<=w.heap.size):
  Bx2 w2 w.heap.size va vx/\ SpA w ((w2.setCell ⟨w.heap.size,0,none⟩ (.slice (some ⟨g,0,none⟩) S.l.length c)).setCell ⟨w.heap.size,1,none⟩ (.slice (some ⟨gx,0,none⟩) S.n cx)) B rb f n x S g c gx cx P Q:=by
 have hz:=hR.lt;have A2:=hA.below h.low hA.lt;have bk:∀b,b≠w.heap.size ->((w2.setCell ⟨w.heap.size,0,none⟩ (.slice (some ⟨g,0,none⟩) S.l.length c)).setCell ⟨w.heap.size,1,none⟩ (.slice (some ⟨gx,0,none⟩) S.n cx)).heap[b]? =w2.heap[b]? :=fun b hb=>by
  rw [zH _ _ _ _ (by simpa using hb),zH _ _ _ _ (by simpa using hb)]
 have sz:((w2.setCell ⟨w.heap.size,0,none⟩ (.slice (some ⟨g,0,none⟩) S.l.length c)).setCell ⟨w.heap.size,1,none⟩ (.slice (some ⟨gx,0,none⟩) S.n cx)).heap.size=w2.heap.size:=by simp [World.setCell]
 have Ha:Below w.heap.size w1 ((w2.setCell ⟨w.heap.size,0,none⟩ (.slice (some ⟨g,0,none⟩) S.l.length c)).setCell ⟨w.heap.size,1,none⟩ (.slice (some ⟨gx,0,none⟩) S.n cx)):=((h.low.mono (show w.heap.size<=w1.heap.size by omega)).setCell (p:=⟨w.heap.size,0,none⟩) zL _).setCell (p:=⟨w.heap.size,1,none⟩) zL _;refine⟨A2,A2.set _ _,((hR.below h.low hR.lt).setAt _ _ (by simp)).setAt _ _ (by simp),(h.lc.move (Nat.le_of_eq sz.symm) (fun q h1 h2=>bk q (by omega))).low (by omega),fun i hi=>own_weak5 (own_at5 (h.ow i hi) (fun b hb=> ?_)) (by omega),h.sep,?_,h.gn,h.pn,h.up,hr.below (Ha.mono hB),grownBelow hg Ha zL,hB⟩
 ·exact bk b (by have:=((h.ow i hi).lt b hb).1;omega)
 ·have o:OffR w2 w1.heap.size (.slice (some ⟨gx,0,none⟩) S.n cx) (fS S):=off_of_row h.fr (by simp);exact OffV.weak (OffV.moveB o (Nat.le_of_eq sz.symm) (fun q _ h1 h2=>bk q (by omega))) (by omega)
theorem SpA.ctx {wx w4:World}{C gy oy cy x':Nat}{u:List Rn}(h:SpA w wx B rb f n x S g c gx cx P Q)(hC:w.heap.size+2<=C/\ g<C/\∀i,i<S.l.length ->P i<C)(hf:FrB wx w4 C rb)(ho:OffR w4 C (.slice (some ⟨gy,oy,none⟩) u.length cy) u)(hr:RdJ w4 B rb f n x')(hrb:rb<w.heap.size):
  (Bx2 w4 w.heap.size (.slice (some ⟨g,0,none⟩) S.l.length c) (.slice (some ⟨gx,0,none⟩) S.n cx)/\ Bx2 w4 (w.heap.size+1) (.slice none 0 0) (.slice none 0 0))/\∀W5,w4.setCell ⟨w.heap.size,1,none⟩ (.slice (some ⟨gy,oy,none⟩) u.length cy)=W5 ->(Bx2 W5 w.heap.size (.slice (some ⟨g,0,none⟩) S.l.length c) (.slice (some ⟨gy,oy,none⟩) u.length cy)/\ Bx2 W5 (w.heap.size+1) (.slice none 0 0) (.slice none 0 0))/\∀W7,(W5.setCell ⟨w.heap.size+1,0,none⟩ (.slice (some ⟨g,0,none⟩) S.l.length c)).setCell ⟨w.heap.size+1,1,none⟩ (.slice (some ⟨gy,oy,none⟩) u.length cy)=W7 ->
   Bx2 W7 (w.heap.size+1) (.slice (some ⟨g,0,none⟩) S.l.length c) (.slice (some ⟨gy,oy,none⟩) u.length cy)/\ SNc W7 w.heap.size (some ⟨g,0,none⟩) (some ⟨gy,oy,none⟩) (mkS S.l u)/\ RdJ W7 B rb f n x'/\ w.grownBy W7 (some rb):=by
 obtain⟨c1,c2,c3⟩:=hC;have hz:=h.br.lt;have Ha:∀{b:Nat} {u0 u1:Value},Bx2 wx b u0 u1 ->b<C ->b≠rb ->Bx2 w4 b u0 u1:=fun{b u0 u1} hb h1 h2=>by
  have e:=hf.block b h1 h2;exact⟨(World.cell?_of_block (a:=⟨b,0,none⟩) e).trans hb.c0,(World.cell?_of_block (a:=⟨b,1,none⟩) e).trans hb.c1,fun i=>(World.frozen?_of_block (a:=⟨b,i,none⟩) e).trans (hb.f i),Nat.lt_of_lt_of_le hb.lt hf.size⟩
 have A4:=Ha h.bs (by omega) (by omega);have R4:=Ha h.br (by omega) (by omega);have Hb:LC w4 (w.heap.size+2) (.slice (some ⟨g,0,none⟩) S.l.length c) S.l P Q:=⟨own_at5 h.lc.row (fun b hb=>by
  have e:g=b:=by simpa [Value.ownBlock] using hb
  have:=(h.lc.lt g rfl).1;exact hf.block b (by omega) (by omega)),fun i hi=>by
  obtain⟨e1,e2,e3,e4⟩:=h.lc.pt i hi;exact⟨e1,Nat.lt_of_lt_of_le e2 hf.size,e3,e4.1.same (hf.block _ (c3 i hi) (by omega)),e4.2⟩⟩
 have g4:w.grownBy w4 (some rb):=by
  refine⟨hf.os.trans h.gr.os,hf.tape.trans h.gr.tape,hf.output.trans h.gr.output,Nat.le_trans h.gr.size hf.size,fun k hk hne=> ?_⟩;exact(hf.block k (by omega) (fun e=>hne (by rw [e]))).trans (h.gr.block k hk hne)
 refine⟨⟨A4,R4⟩,?_⟩;rintro W5 rfl;have A5:=A4.set1 (.slice (some ⟨gy,oy,none⟩) u.length cy);have R5:=R4.setAt ⟨w.heap.size,1,none⟩ (.slice (some ⟨gy,oy,none⟩) u.length cy) (by simp);refine⟨⟨A5,R5⟩,?_⟩;rintro W7 rfl;have b7:Below w.heap.size w4 (((w4.setCell ⟨w.heap.size,1,none⟩ (.slice (some ⟨gy,oy,none⟩) u.length cy)).setCell ⟨w.heap.size+1,0,none⟩ (.slice (some ⟨g,0,none⟩) S.l.length c)).setCell ⟨w.heap.size+1,1,none⟩ (.slice (some ⟨gy,oy,none⟩) u.length cy)):=((zI.setCell (p:=⟨w.heap.size,1,none⟩) zL _).setCell (p:=⟨w.heap.size+1,0,none⟩) (Nat.le_succ _) _).setCell (p:=⟨w.heap.size+1,1,none⟩) (Nat.le_succ _) _;refine⟨R5.set _ _,?_,hr.below (b7.mono h.z),grownBelow g4 b7 zL⟩;refine(mk_off Hb (OffV.weak ho c1)).move (Nat.le_add_right _ _) (by simp [World.setCell]) (fun q h1 h2=> ?_);rw [zH _ _ _ _ (by simp;omega),zH _ _ _ _ (by simp;omega),zH _ _ _ _ (by simp;omega)]
theorem SpA.leaf {wx:World}(h:SpA w wx B rb f n x S g c gx cx P Q){i:Nat}(hi:i<S.l.length)(y:Lf)(hy:gL S.l i=y)(vs:Array Value){W4:World}(h4:wx.alloc (.cells vs 60)=W4):
  SpM w W4 B rb f n x wx.heap.size i S.l y (fS S) g c (P i) (Q i) gx cx P Q/\ LC W4 (w.heap.size+2) (.slice (some ⟨g,0,none⟩) S.l.length c) S.l P Q/\ W4.ownsRow (w.heap.size+2) 9 1 (.slice (some ⟨P i,0,none⟩) y.p.length (Q i)) y.p.length (sRow y.p):=by
 have b4:Below wx.heap.size wx W4:=by rw [<- h4];exact zO _ _
 have Hd:=h.lc.lt g rfl;have hz:=h.br.lt;obtain⟨Hc,e1,He,Hf⟩:=OffV.lt h.ru;have e1:gx=Hc:=by simpa [Value.ownBlock] using e1
 have Hb:=h.lc.below b4;have Ha:∀j,j<S.l.length ->PtA w W4 g wx.heap.size (gL S.l j) (P j) (Q j):=fun j hj=>by
  obtain⟨a1,a2,a3,a4,a5,a6⟩:=h.lc.pt j hj;exact⟨a1,Nat.lt_of_lt_of_le a2 b4.size,fun e=>a3 (by simp [Value.ownBlock,e]),by omega,a4.same (b4.block _ a2),a5,a6⟩
 subst hy;refine⟨⟨?_,h.br.below b4 h.br.lt,Hb.row,fun j h1 _=>Ha j h1,Ha i hi,?_,⟨h.gn.symm,by omega,by omega⟩,by omega,h.rd.below (b4.mono (by have:=h.z;omega)),grownBelow h.gr b4 (by have:=h.gr.size;omega),h.z⟩,Hb,own_at5 (h.ow i hi) (fun b hb=>b4.block b ((h.ow i hi).lt b hb).2)⟩
 ·rw [fS_len];exact h.bs.below b4 h.bs.lt
 ·rw [fS_len];exact OffV.below h.ru b4 zL
theorem SpM.more {wx wy w3:World}{b7 i:Nat}{l:List Lf}{y:Lf}{u:List Rn}{p pc q' cap':Nat}{P' Q':Nat ->Nat}(h:SpM w wx B rb f n x b7 i l y u g c p pc gx cx P Q)(hb:Below wx.heap.size wx wy)(lc:LC w3 (w.heap.size+2) (.slice (some ⟨q',0,none⟩) (l.length+1) cap') (l++[y]) P' Q')(gr:Gr wy w3 (.slice (some ⟨g,0,none⟩) l.length c) (.slice (some ⟨q',0,none⟩) (l.length+1) cap'))(hP:∀j,j<l.length ->P' j≠b7)(hP2:P' l.length≠b7)(hbw:b7<wx.heap.size):
  (Bx2 w3 w.heap.size (.slice (some ⟨g,0,none⟩) l.length c) (.slice (some ⟨gx,0,none⟩) u.length cx))/\ SpM w (w3.setCell ⟨w.heap.size,0,none⟩ (.slice (some ⟨q',0,none⟩) (l.length+1) cap')) B rb f n x b7 i (l++[y]) y u q' cap' p pc gx cx P' Q':=by
 have h1:=h.below hb;have gg:wy.grownBy w3 (some g):=gr.g;have Hd:=h.glt;have hz:=h.br.lt;have Hh:=hb.size;have Hg:=gg.size;have hq:q'=g \/wy.heap.size<=q':=by
  rcases gr.l with e|⟨q,e,hq⟩
  ·exact .inl (by simpa [Value.ownBlock] using e)
  ·have e:q'=q:=by simpa [Value.ownBlock] using e
   exact .inr (by omega)
 have Ha:(l++[y]).length=l.length+1:=by simp
 have A3:=h1.bs.grw gg (by omega);have bk:∀b,b≠w.heap.size ->(w3.setCell ⟨w.heap.size,0,none⟩ (.slice (some ⟨q',0,none⟩) (l.length+1) cap')).heap[b]? =w3.heap[b]? :=fun b hb=>zH _ _ _ _ (by simpa using hb);have b3:Below w.heap.size wy w3:=zI.grown gg (by omega) (fun k e=>by injection e with e;omega);have Hb:Below w.heap.size wy (w3.setCell ⟨w.heap.size,0,none⟩ (.slice (some ⟨q',0,none⟩) (l.length+1) cap')):=b3.setCell (p:=⟨w.heap.size,0,none⟩) zL _;obtain⟨Hc,e1,He,Hf⟩:=OffV.lt h.ru;have e1:gx=Hc:=by simpa [Value.ownBlock] using e1
 refine⟨A3,?_,((h1.br.grw gg (by omega)).setAt _ _ (by simp)),?_,fun j hj hne=> ?_,?_,?_,⟨?_,h.gn.2.1,?_⟩,h.hb,h1.rd.below (Hb.mono h.z),grownBelow h1.gr Hb zL,h.z⟩
 ·rw [Ha];exact A3.set0 _
 ·rw [Ha];have:=lc.row;rw [Ha] at this;exact own_at5 this (fun b hb=>bk b (by have:=(lc.lt b hb).1;omega))
 ·obtain⟨a1,a2,a3,a4,a5,a6⟩:=lc.pt j hj;refine⟨a1,by simpa [World.setCell] using a2,fun e=>a3 (by simp [Value.ownBlock,e]),?_,a4.same (bk _ (by omega)),a5,a6⟩;by_cases e:j<l.length
  ·exact hP j e
  ·rw [show j=l.length by rw [Ha] at hj;omega];exact hP2
 ·have:=h1.pt;refine⟨this.lo,by simp [World.setCell];have:=this.lt;omega,?_,this.nb,(this.wr.same (gg.block _ this.lt (fun e=>this.ng (by injection e)))).same (bk _ (by have:=this.lo;omega)),this.c1,this.c2⟩;rcases hq with e|e
  ·rw [e];exact this.ng
  ·have:=h.pt.lt;omega
 ·refine OffV.moveB (OffV.gr h1.ru gg (fun e=>h.gn.1 (by simpa [Value.ownBlock] using e))) (by simp [World.setCell]) (fun q _ a b=>bk q (by omega))
 ·rcases hq with e|e
  ·rw [e];exact h.gn.1
  ·omega
 ·rcases hq with e|e
  ·rw [e];exact h.gn.2.2
  ·omega
end
theorem heap_set0 {w:World}{g:Nat}{cur:Array Value}{t:TypeId}(h:w.heap[g]? =some (.cells cur t (0,0))){u:Value}:(w.setCell ⟨g,0,none⟩ u).heap[g]? =some (.cells (cur.setIfInBounds 0 u) t (0,0)):=by
 have hg:g<w.heap.size:=(Array.getElem?_eq_some_iff.1 h).1;have e:w.heap[g]=.cells cur t (0,0):=(Array.getElem?_eq_some_iff.1 h).2;simp [World.setCell,Array.getElem?_modify,h]
theorem spoilStJ (B rb lo:Nat)(f:Nat ->Int)(n x:Nat)(a xx:Option Addr)(c d:Nat)(S:Sx)(w:World)(h:RdJ w B rb f n x)(hB:B<=w.heap.size)(hS:Dr S)(hs:SNc w lo a xx S)(hlo:rb<lo):
  Calls Tryz.prog 44 #[.pointer (some ⟨rb,0,none⟩),.agg #[.slice a S.l.length c,.slice xx S.n d]] w fun e w'=>∃a' c' x' d',e=.returned (.agg #[.slice a' (spS f n x S).l.length c',.slice x' (spS f n x S).n d'])/\ SNc w' w.heap.size a' x' (spS f n x S)/\ RdJ w' B rb f n (spX f n x S)/\ w.grownBy w' (some rb):=by
 obtain⟨W,hW⟩:∃W,(w.alloc (.cells #[.slice a S.l.length c,.slice xx S.n d] 28)).alloc (.cells #[.slice none 0 0,.slice none 0 0] 28)=W:=⟨_,rfl⟩;have b0:Below w.heap.size w W:=by rw [<- hW];exact below2 _ _ _
 have A0:Bx2 W w.heap.size (.slice a S.l.length c) (.slice xx S.n d):=by rw [<- hW];exact(Bx2.made w _ _ _).allocs _
 have R0:Bx2 W (w.heap.size+1) (.slice none 0 0) (.slice none 0 0):=by rw [<- hW];simpa using Bx2.made (w.alloc (.cells #[.slice a S.l.length c,.slice xx S.n d] 28)) (.slice none 0 0) (.slice none 0 0) 28
 have Kz:=h.lt;have HR:=hid (h.below (b0.mono hB));have HN:=hid (rdNextJ B rb f n x W HR.out);have hk:=rk_lt HR.out;obtain⟨k,H7⟩:∃k,rk f n x=k:=⟨_,rfl⟩;rw [H7] at hk HN;have Ku:=hid H7;have Hs:=hid b0;have Gq:=hid A0;have Gg:=hid R0;have Gs:=hid (hs.below b0);have Kf:=hid hS.gd;have Hu:=hid hS;have Hl:Hid (spS f n x S=(if k%8=0 \/S.l.length=0 then mkS S.l (spF (rk f n (rx n x)) (fS S)) else mkS (spL k S.l) (fS S))/\ spX f n x S=(if k%8=0 \/S.l.length=0 then rx n (rx n x) else rx n x)):=hid (by unfold spS spX;rw [H7];exact⟨rfl,rfl⟩);obtain⟨Z,hZ⟩:∃Z,spS f n x S=Z:=⟨_,rfl⟩;obtain⟨ZX,G4⟩:∃ZX,spX f n x S=ZX:=⟨_,rfl⟩;rw [hZ,G4] at Hl ⊢;clear b0 A0 R0 h hs hS H7 hZ G4;go_enter Tryz.func44,Tryz.ntmps44;go_wp2_with fail;try rw [hW]
 clear hW;refine HN.out.mono ?_;rintro e w1 ⟨rfl,r1,g1⟩;have K0:w.heap.size+2<=W.heap.size:=Gg.out.lt;have A1:=Gq.out.grw g1 (by omega);have R1:=Gg.out.grw g1 (by omega);have Gc:Hid (w.grownBy w1 (some rb)):=hid ⟨g1.os.trans Hs.out.os,g1.tape.trans Hs.out.tape,g1.output.trans Hs.out.output,Nat.le_trans Hs.out.size g1.size,fun q hq hne=>(g1.block q (by omega) hne).trans (Hs.out.block q hq)⟩;have Gp:=Gs.out.gr g1 hlo;have HC:=hid (l3CopyO a xx c d S w1 Kf.out.sm (fun i hi=>(vd_num Hu.out.vd hi).1) ⟨Gp.at.1,Gp.at.2⟩);have Kc:=hid A1;have Kh:=hid R1;have Gh:=hid r1;have a0:=A1.c0;have a1:=A1.c1;clear A1 R1 g1 r1 Gp HN HR Gq Gg Gs;go_wp2_with fail;refine HC.out.mono ?_;rintro e w2 ⟨g,cg,gx,cx,P,Q,rfl,G6⟩;obtain⟨A2,H2⟩:=G6.spA Kc.out Kh.out Gh.out Gc.out hB;have s0:=A2.c0;have s1:=A2.c1;have sf:=A2.f;obtain⟨W3,Hr⟩:∃W3,(w2.setCell ⟨w.heap.size,0,none⟩ (.slice (some ⟨g,0,none⟩) S.l.length cg)).setCell ⟨w.heap.size,1,none⟩ (.slice (some ⟨gx,0,none⟩) S.n cx)=W3:=⟨_,rfl⟩;rw [Hr] at H2;have HA:=hid H2;have t0:=H2.bs.c0;have t1:=H2.bs.c1;have Ky:S.l.length<=1000:=Hu.out.vd.2.1;clear a0 a1 A2 G6 H2 HC;have Ka:Hid (∃C,B<=C/\ C<=W3.heap.size/\ (w.heap.size+2<=C/\ g<C/\∀i,i<S.l.length ->P i<C)/\ ((fS S).length=0 \/gx=C)):=hid (by
  have hz:=HA.out.br.lt;have G7:=HA.out.lc.lt g rfl;obtain⟨Gj,e1,Ko,Kp⟩:=OffV.lt HA.out.ru;have e1:gx=Gj:=by simpa [Value.ownBlock] using e1
  by_cases h0:0<S.n
  ·obtain⟨u1,u2⟩:=HA.out.up h0;exact⟨gx,by omega,by omega,⟨by omega,u1,u2⟩,.inr rfl⟩
  ·exact⟨W3.heap.size,by omega,Nat.le_refl _,⟨by omega,G7.2,fun i hi=>(HA.out.lc.pt i hi).2.1⟩,.inl (by rw [fS_len];omega)⟩)
 obtain⟨C,Gz,G1,G2,G3⟩:=Ka.out;have Kd:Hid (B<=gx):=hid (by
  obtain⟨Gj,e1,Ko,Kp⟩:=OffV.lt HA.out.ru;have e1:gx=Gj:=by simpa [Value.ownBlock] using e1
  omega)
 have Hq:=hid (spoilJ B rb C f n (rx n x) (.slice (some ⟨gx,0,none⟩) S.n cx) (fS S) W3 HA.out.rd Gz G1 gx (OffV.self HA.out.ru) G3 Kd.out (by rw [fS_len];have:=(ctxB_iff.1 Hu.out.vd.1).2;omega) (vd_srt Hu.out.vd).br);have Ht:=hid G2;clear Gz G1 G2 G3 Ka;obtain⟨u,hu⟩:∃u,spF (rk f n (rx n x)) (fS S)=u:=⟨_,rfl⟩;rw [hu] at Hq Hl;clear hu;by_cases e0:k%8=0
 ·have d0:((k:Int)%8==0)=true:=by rw [beq_iff_eq];omega
  have HE:Hid (k%8=0 \/S.l.length=0):=hid (.inl e0);clear e0;go_wp2_with fail;try rw [Hr]
  clear Hr;refine Hq.out.mono ?_;rintro e w4 ⟨v4,rfl,o4,r4,f4⟩;obtain⟨gy,oy,cy,rfl,_⟩:=o4.fs;obtain⟨⟨A4,R4⟩,h5⟩:=HA.out.ctx Ht.out f4 o4 r4 (by omega);obtain⟨W5,Ho⟩:∃W5,w4.setCell ⟨w.heap.size,1,none⟩ (.slice (some ⟨gy,oy,none⟩) u.length cy)=W5:=⟨_,rfl⟩;obtain⟨⟨A5,R5⟩,h7⟩:=h5 W5 Ho;have q0:=A4.c0;have q1:=A4.c1;have qf:=A4.f;have v0:=A5.c0;have v1:=A5.c1;have o0:=R5.c0;have o1:=R5.c1;have of:=R5.f;have HF:=hid (h7 _ rfl);clear o4 r4 f4 A4 R4 A5 R5 h5 h7 s0 s1 sf t0 t1 Hq HA Ht;go_wp2_with fail;obtain⟨X7,Hp,r7,g7⟩:=HF.out;have y0:=X7.c0;have y1:=X7.c1;have E:Z=mkS S.l u/\ ZX=rx n (rx n x):=⟨by rw [Hl.out.1,if_pos HE.out],by rw [Hl.out.2,if_pos HE.out]⟩;obtain⟨rfl,rfl⟩:=E;refine zF (v:=.agg #[.slice (some ⟨g,0,none⟩) S.l.length cg,.slice (some ⟨gy,oy,none⟩) u.length cy]) (by simp [results,Tryz.results44,go_sem,y0,y1]) ?_;exact⟨_,cg,_,cy,rfl,Hp,r7,g7⟩
 ·have d0:((k:Int)%8==0)=false:=by rw [beq_eq_false_iff_ne];omega
  by_cases Gl:S.l.length=0
  ·have d1:((S.l.length:Int)==0)=true:=by rw [Gl];rfl
   have HE:Hid (k%8=0 \/S.l.length=0):=hid (.inr Gl);clear e0 Gl;go_wp2_with fail;try rw [Hr]
   clear Hr;refine Hq.out.mono ?_;rintro e w4 ⟨v4,rfl,o4,r4,f4⟩;obtain⟨gy,oy,cy,rfl,_⟩:=o4.fs;obtain⟨⟨A4,R4⟩,h5⟩:=HA.out.ctx Ht.out f4 o4 r4 (by omega);obtain⟨W5,Ho⟩:∃W5,w4.setCell ⟨w.heap.size,1,none⟩ (.slice (some ⟨gy,oy,none⟩) u.length cy)=W5:=⟨_,rfl⟩;obtain⟨⟨A5,R5⟩,h7⟩:=h5 W5 Ho;have q0:=A4.c0;have q1:=A4.c1;have qf:=A4.f;have v0:=A5.c0;have v1:=A5.c1;have o0:=R5.c0;have o1:=R5.c1;have of:=R5.f;have HF:=hid (h7 _ rfl);clear o4 r4 f4 A4 R4 A5 R5 h5 h7 s0 s1 sf t0 t1 Hq HA Ht;go_wp2_with fail;obtain⟨X7,Hp,r7,g7⟩:=HF.out;have y0:=X7.c0;have y1:=X7.c1;have E:Z=mkS S.l u/\ ZX=rx n (rx n x):=⟨by rw [Hl.out.1,if_pos HE.out],by rw [Hl.out.2,if_pos HE.out]⟩;obtain⟨rfl,rfl⟩:=E;refine zF (v:=.agg #[.slice (some ⟨g,0,none⟩) S.l.length cg,.slice (some ⟨gy,oy,none⟩) u.length cy]) (by simp [results,Tryz.results44,go_sem,y0,y1]) ?_;exact⟨_,cg,_,cy,rfl,Hp,r7,g7⟩
  ·have d1:((S.l.length:Int)==0)=false:=by rw [beq_eq_false_iff_ne];omega
   clear Hq Ht;obtain⟨mm,H0⟩:∃mm:Int,(k:Int)/8%(S.l.length:Int)=mm:=⟨_,rfl⟩;have Km:0<=mm:=by rw [<- H0];exact Int.emod_nonneg _ (by omega)
   have Kn:mm<(S.l.length:Int):=by rw [<- H0];exact Int.emod_lt_of_pos _ (by omega)
   obtain⟨ii,rfl⟩:∃ii:Nat,mm=(ii:Int):=⟨mm.toNat,by omega⟩;have Hi:ii<S.l.length:=by omega
   have HI:Hid (k/8%S.l.length=ii):=hid (by exact_mod_cast H0);obtain⟨c0,c1,c2,c3,c4⟩:=HA.out.lc.cell rfl Hi;obtain⟨y,hy⟩:∃y,gL S.l ii=y:=⟨_,rfl⟩;have Hy:=vd_num Hu.out.vd Hi;rw [hy] at c0 c1 c2 c3 c4 Hy;obtain⟨p,hp⟩:∃p,P ii=p:=⟨_,rfl⟩;obtain⟨pc,Gn⟩:∃pc,Q ii=pc:=⟨_,rfl⟩;rw [hp,Gn] at c0;obtain⟨W4,Hz⟩:∃W4,W3.alloc (.cells #[.slice (some ⟨p,0,none⟩) y.p.length pc,.bool y.fl,.int .i64 y.r,.int .i64 y.q,.string y.v] 60)=W4:=⟨_,rfl⟩;have hM:=HA.out.leaf Hi y hy _ Hz;have X4:Bx5 W4 W3.heap.size (.slice (some ⟨p,0,none⟩) y.p.length pc) (.bool y.fl) (.int .i64 y.r) (.int .i64 y.q) (.string y.v):=by rw [<- Hz];exact Bx5.new _ _ _ _ _ _ _
   rw [hp,Gn] at hM;have Hw:Hid (∀j,j<S.l.length ->j≠ii ->P j≠p):=hid (fun j h1 h2 e=>HA.out.sep j ii h1 Hi h2 (by rw [e,hp]));have Kg:Hid (P ii=p):=hid hp;have Gr:Hid (p≠gx):=hid (by rw [<- hp];exact HA.out.pn ii Hi);have Ke:Hid (Z=mkS (spL k S.l) (fS S)/\ ZX=rx n x):=hid (by
    have hn:¬(k%8=0 \/S.l.length=0):=by omega
    exact⟨by rw [Hl.out.1,if_neg hn],by rw [Hl.out.2,if_neg hn]⟩)
   have Hk:Hid (∀(l':List Lf) (y':Lf),l'=(if k%8=5 then S.l++[y] else S.l) ->y'=spY k y ->l'.set ii y'=spL k S.l):=hid (fun l' y' e1 e2=>by unfold spL;rw [HI.out,hy,<- e1,<- e2]);have Kv:=hid hy;have HM:=hid hM.1;have Gd:=hid hM.2.1;have Gf:=hid hM.2.2;have Ha:=hid X4;have i1:(0:Int)<=(ii:Int):=Int.natCast_nonneg _;have i2:(ii:Int)<(S.l.length:Int):=by omega
   have Ks:¬(S.l.length:Int)=0:=by omega
   have Kt:Int.tmod ((k:Int)/8) (S.l.length:Int)=(ii:Int):=by rw [Int.tmod_eq_emod_of_nonneg (by omega)];exact H0
   have K1:IntKind.i64.wrap (ii:Int)=(ii:Int):=by rw [IntKind.wrap_i64];omega
   obtain⟨yp,yf,yr,yq,yv⟩:=y;dsimp only at c0 c1 c2 c3 c4 Ha Hy Hz X4;clear hM X4 hy hp Gn Hl HA Km Kn;go_upto_if 40 with fail;try rw [Hz]
   clear Hz c0 c1 c2 c3 c4 s0 s1 sf t0 t1 Hr;obtain⟨b7,G5⟩:∃b7,W3.heap.size=b7:=⟨_,rfl⟩;rw [G5] at HM Ha ⊢;clear G5;go_cut [] from 8 to 87 (fun wx=>∃(l':List Lf) (y':Lf) (g' c' p' H9:Nat) (P' Q':Nat ->Nat),Hid (SpM w wx B rb f n (rx n x) b7 ii l' y' (fS S) g' c' p' H9 gx cx P' Q'/\ Bx5 wx b7 (.slice (some ⟨p',0,none⟩) y'.p.length H9) (.bool y'.fl) (.int .i64 y'.r) (.int .i64 y'.q) (.string y'.v)/\ ii<l'.length/\ l'.length<=1001/\ l'.set ii y'=spL k S.l));case first=>
    obtain⟨k8,Kx⟩:∃k8:Nat,(k:Int)%8=(k8:Int):=⟨k%8,by omega⟩;have Gk:k8<8:=by omega
    have HK:Hid (k%8=k8):=hid (by omega);have x0:=Ha.out.c0;have x1:=Ha.out.c1;have x2:=Ha.out.c2;have x3:=Ha.out.c3;have x4:=Ha.out.c4;have xf:=Ha.out.f;match k8,Gk with
    | 0,_=>exact absurd HK.out e0
    | 1,_=>
     obtain⟨W5,Ho⟩:∃W5,W4.alloc (.cells #[.string ⟨#[]⟩] 9)=W5:=⟨_,rfl⟩;have b5:Below W4.heap.size W4 W5:=by rw [<- Ho];exact zO _ _
     have z5:W5.cell? ⟨W4.heap.size,0,none⟩=some (.string ⟨#[]⟩):=by rw [<- Ho];simp
     have Kb:=own_at5 Gf.out (fun b hb=>b5.block b (Gf.out.lt b hb).2);have Kq:=HM.out.br.lt;obtain⟨q,Hh,w6,Hc,H3,g6,q1,q2⟩:=pthAppL Kb (by have:=b5.size;omega) (by have:=Hy.2.1;omega) ⟨#[]⟩ W4.heap.size z5;have H5:W4.grownBy w6 (some p):=⟨g6.os.trans b5.os,g6.tape.trans b5.tape,g6.output.trans b5.output,Nat.le_trans b5.size g6.size,fun b hb hne=>(g6.block b (Nat.lt_of_lt_of_le hb b5.size) hne).trans (b5.block b hb)⟩;have Hf:=HM.out.pt;have X6:Bx5 w6 b7 (.slice (some ⟨p,0,none⟩) yp.length pc) (.bool yf) (.int .i64 yr) (.int .i64 yq) (.string yv):=by
      have e:w6.heap[b7]? =W4.heap[b7]? :=H5.block b7 Ha.out.lt (fun e=>Hf.nb (by injection e with e;exact e.symm));have q:=fun o=>World.cell?_of_block (w:=W4) (w':=w6) (a:=⟨b7,o,none⟩) e;exact⟨(q 0).trans Ha.out.c0,(q 1).trans Ha.out.c1,(q 2).trans Ha.out.c2,(q 3).trans Ha.out.c3,(q 4).trans Ha.out.c4,fun i=>(World.frozen?_of_block (a:=⟨b7,i,none⟩) e).trans (Ha.out.f i),Nat.lt_of_lt_of_le Ha.out.lt H5.size⟩
     have hq:q=p \/q=W5.heap.size:=by
      rcases q2 with e|e
      ·exact .inl (by simpa [Value.ownBlock] using e.symm)
      ·exact .inr e
     have G9:=(H3.lt q rfl).2;have Hd:Hid (SpM w (w6.setCell ⟨b7,0,none⟩ (.slice (some ⟨q,0,none⟩) (yp.length+1) Hh)) B rb f n (rx n x) b7 ii S.l ⟨yp++[⟨#[]⟩],yf,yr,yq,yv⟩ (fS S) g cg q Hh gx cx P Q/\ Bx5 (w6.setCell ⟨b7,0,none⟩ (.slice (some ⟨q,0,none⟩) (yp.length+1) Hh)) b7 (.slice (some ⟨q,0,none⟩) (yp++[(⟨#[]⟩:ByteArray)]).length Hh) (.bool yf) (.int .i64 yr) (.int .i64 yq) (.string yv)):=hid (by
      have G7:=HM.out.glt;have H6:=Ha.out.lt;have Kw:=b5.size;have M6:SpM w w6 B rb f n (rx n x) b7 ii S.l ⟨yp++[⟨#[]⟩],yf,yr,yq,yv⟩ (fS S) g cg q Hh gx cx P Q:=by
       refine HM.out.chg (r:=p) H5 ⟨Hf.lo,Hf.ng,Gr.out,Hw.out⟩ ⟨?_,G9,?_,?_,?_,?_,?_⟩
       ·rcases hq with e|e
        ·rw [e];exact Hf.lo
        ·omega
       ·rcases hq with e|e
        ·rw [e];exact Hf.ng
        ·omega
       ·rcases hq with e|e
        ·rw [e];exact Hf.nb
        ·omega
       ·have:=(own_way H3 (by simp)).2;simpa using this
       ·rcases H3.2 with ⟨e,_⟩|⟨g',Hb,Hn,hv,_,_,e1,e2,_⟩
        ·cases e
        ·injection hv with _ _ e3;simp;omega
       ·rcases H3.2 with ⟨e,_⟩|⟨g',Hb,Hn,hv,_,_,e1,e2,_⟩
        ·cases e
        ·injection hv with _ _ e3;unfold maxLen at e2;omega
      exact⟨M6.setB _ _ rfl,by simpa using X6.set0 (.slice (some ⟨q,0,none⟩) (yp.length+1) Hh)⟩)
     have u0:=X6.c0;have uf:=X6.f;clear b5 z5 Kb H3 g6 H5 Hf X6 hq G9 q1 q2;go_wp2_with (at_builtin;refine wpList_app2 rfl _ _ _ _ rfl Hc (by rfl) (by rfl) rfl ?_;clear Hc);go_meet;exact⟨S.l,⟨yp++[⟨#[]⟩],yf,yr,yq,yv⟩,g,cg,q,Hh,P,Q,hid ⟨Hd.out.1,Hd.out.2,Hi,by omega,Hk.out _ _ (by rw [if_neg (by rw [HK.out];decide)]) (by unfold spY;rw [if_pos HK.out])⟩⟩
    | 2,_=>
     have Hd:Hid (SpM w (W4.setCell ⟨b7,1,none⟩ (.bool !yf)) B rb f n (rx n x) b7 ii S.l ⟨yp, !yf,yr,yq,yv⟩ (fS S) g cg p pc gx cx P Q/\ Bx5 (W4.setCell ⟨b7,1,none⟩ (.bool !yf)) b7 (.slice (some ⟨p,0,none⟩) (⟨yp, !yf,yr,yq,yv⟩:Lf).p.length pc) (.bool (⟨yp, !yf,yr,yq,yv⟩:Lf).fl) (.int .i64 (⟨yp, !yf,yr,yq,yv⟩:Lf).r) (.int .i64 (⟨yp, !yf,yr,yq,yv⟩:Lf).q) (.string (⟨yp, !yf,yr,yq,yv⟩:Lf).v)):=hid ⟨HM.out.setB _ _ rfl,Ha.out.set1 _⟩;go_wp2_with fail;go_meet;exact⟨S.l,⟨yp, !yf,yr,yq,yv⟩,g,cg,p,pc,P,Q,hid ⟨Hd.out.1,Hd.out.2,Hi,by omega,Hk.out _ _ (by rw [if_neg (by rw [HK.out];decide)]) (by unfold spY;rw [if_neg (by rw [HK.out];decide)];rw [if_pos HK.out])⟩⟩
    | 3,_=>
     have wq:IntKind.i64.wrap (yq+1)=yq+1:=wrapIn _ (by omega) (by omega);have Hd:Hid (SpM w (W4.setCell ⟨b7,3,none⟩ (.int .i64 (yq+1))) B rb f n (rx n x) b7 ii S.l ⟨yp,yf,yr,yq+1,yv⟩ (fS S) g cg p pc gx cx P Q/\ Bx5 (W4.setCell ⟨b7,3,none⟩ (.int .i64 (yq+1))) b7 (.slice (some ⟨p,0,none⟩) (⟨yp,yf,yr,yq+1,yv⟩:Lf).p.length pc) (.bool (⟨yp,yf,yr,yq+1,yv⟩:Lf).fl) (.int .i64 (⟨yp,yf,yr,yq+1,yv⟩:Lf).r) (.int .i64 (⟨yp,yf,yr,yq+1,yv⟩:Lf).q) (.string (⟨yp,yf,yr,yq+1,yv⟩:Lf).v)):=hid ⟨HM.out.setB _ _ rfl,Ha.out.set3 _⟩;go_wp2_with fail;go_meet;exact⟨S.l,⟨yp,yf,yr,yq+1,yv⟩,g,cg,p,pc,P,Q,hid ⟨Hd.out.1,Hd.out.2,Hi,by omega,Hk.out _ _ (by rw [if_neg (by rw [HK.out];decide)]) (by unfold spY;rw [if_neg (by rw [HK.out];decide)];rw [if_neg (by rw [HK.out];decide)];rw [if_pos HK.out])⟩⟩
    | 4,_=>
     obtain⟨n4,G8⟩:∃n4:Nat,200+k/128=n4:=⟨_,rfl⟩;have wn:IntKind.i64.wrap (200+(k:Int)/128)=(n4:Int):=by rw [show 200+(k:Int)/128=(n4:Int) by omega];exact wrapIn _ (by omega) (by omega)
     have Gi:=hid (rdRepeatJ ⟨#[118]⟩ n4 W4 (by decide) (by omega));have Ge:=hid G8;clear G8;obtain⟨tx,Go⟩:∃tx,txJ (rpt ⟨#[118]⟩ n4)=tx:=⟨_,rfl⟩;rw [Go] at Gi;have Ki:=hid Go;clear Go;go_wp2_with fail;refine Gi.out.mono ?_;rintro e w5 ⟨rfl,b5⟩;have X5:=Ha.out.below b5 Ha.out.lt;have Hd:Hid (SpM w (w5.setCell ⟨b7,4,none⟩ (.string tx)) B rb f n (rx n x) b7 ii S.l ⟨yp,yf,yr,yq,tx⟩ (fS S) g cg p pc gx cx P Q/\ Bx5 (w5.setCell ⟨b7,4,none⟩ (.string tx)) b7 (.slice (some ⟨p,0,none⟩) yp.length pc) (.bool yf) (.int .i64 yr) (.int .i64 yq) (.string tx)):=hid ⟨(HM.out.below b5).setB _ _ rfl,X5.set4 _⟩;have u4:=X5.c4;have uf:=X5.f;clear X5 b5 x0 x1 x2 x3 x4 xf Gi;go_wp2_with fail;go_meet;exact⟨S.l,⟨yp,yf,yr,yq,tx⟩,g,cg,p,pc,P,Q,hid ⟨Hd.out.1,Hd.out.2,Hi,by omega,Hk.out _ _ (by rw [if_neg (by rw [HK.out];decide)]) (by unfold spY;rw [if_neg (by rw [HK.out];decide)];rw [if_neg (by rw [HK.out];decide)];rw [if_neg (by rw [HK.out];decide)];rw [if_pos HK.out,Ge.out,Ki.out])⟩⟩
    | 5,_=>
     have Hf:=HM.out.pt;have Kq:=HM.out.br.lt;have Hv:Hid (∀w1,Below W4.heap.size W4 w1 ->Calls Tryz.prog 49 #[.agg #[.slice (some ⟨p,0,none⟩) yp.length pc,.bool yf,.int .i64 yr,.int .i64 yq,.string yv]] w1 fun e w'=>∃q Hh,e=.returned (.agg #[.slice (some ⟨q,0,none⟩) yp.length Hh,.bool yf,.int .i64 yr,.int .i64 yq,.string yv])/\ Below w1.heap.size w1 w'/\ w1.heap.size<=q/\ q<w'.heap.size/\ Wr w' q 9 yp.length (fun t=> .string (gS yp t))/\ yp.length<=Hh/\ Hh<=9223372036854775807/\ w'.ownsRow w1.heap.size 9 1 (.slice (some ⟨q,0,none⟩) yp.length Hh) yp.length (sRow yp)):=hid (fun w1 hb=>by
      exact l3LeafK p 0 yp.length pc ⟨yp,yf,yr,yq,yv⟩ w1 rfl (by have:=Hy.2.1;omega) (Nat.lt_of_lt_of_le Hf.lt hb.size) (fun t ht=>by rw [Nat.zero_add];exact(hb.cell (p:=⟨p,t,none⟩) Hf.lt).trans (Hf.wr.cell ht)))
     have Hg:Hid (∀w',Below W4.heap.size W4 w' ->(w'.cell? ⟨b7,0,none⟩=some (.slice (some ⟨p,0,none⟩) yp.length pc)/\ w'.cell? ⟨b7,1,none⟩=some (.bool yf)/\ w'.cell? ⟨b7,2,none⟩=some (.int .i64 yr)/\ w'.cell? ⟨b7,3,none⟩=some (.int .i64 yq)/\ w'.cell? ⟨b7,4,none⟩=some (.string yv))):=hid (fun w' hb=>⟨(hb.cell (p:=⟨b7,0,none⟩) Ha.out.lt).trans Ha.out.c0,(hb.cell (p:=⟨b7,1,none⟩) Ha.out.lt).trans Ha.out.c1,(hb.cell (p:=⟨b7,2,none⟩) Ha.out.lt).trans Ha.out.c2,(hb.cell (p:=⟨b7,3,none⟩) Ha.out.lt).trans Ha.out.c3,(hb.cell (p:=⟨b7,4,none⟩) Ha.out.lt).trans Ha.out.c4⟩);have Hx:Hid (∀w5 q qc,Below W4.heap.size W4 w5 ->W4.heap.size<=q ->q<w5.heap.size ->Wr w5 q 9 yp.length (fun t=> .string (gS yp t)) ->(yp.length<=qc/\ qc<=9223372036854775807) ->∃q' Hb w7,(Builtin.append_ #[23,23] 23 #[.slice (some ⟨g,0,none⟩) S.l.length cg,.slice (some ⟨w5.heap.size,0,none⟩) 1 1]).run Tryz.prog (w5.alloc (.cells #[.slice (some ⟨q,0,none⟩) yp.length qc,.bool yf,.int .i64 yr,.int .i64 yq,.string yv] 60))=.ok (.slice (some ⟨q',0,none⟩) (S.l.length+1) Hb) w7/\
       Bx2 w7 w.heap.size (.slice (some ⟨g,0,none⟩) S.l.length cg) (.slice (some ⟨gx,0,none⟩) (fS S).length cx)/\ (∃P' Q',SpM w (w7.setCell ⟨w.heap.size,0,none⟩ (.slice (some ⟨q',0,none⟩) (S.l.length+1) Hb)) B rb f n (rx n x) b7 ii (S.l++[⟨yp,yf,yr,yq,yv⟩]) ⟨yp,yf,yr,yq,yv⟩ (fS S) q' Hb p pc gx cx P' Q'/\ Bx5 (w7.setCell ⟨w.heap.size,0,none⟩ (.slice (some ⟨q',0,none⟩) (S.l.length+1) Hb)) b7 (.slice (some ⟨p,0,none⟩) yp.length pc) (.bool yf) (.int .i64 yr) (.int .i64 yq) (.string yv))/\ (w7.cell? ⟨b7,0,none⟩=some (.slice (some ⟨p,0,none⟩) yp.length pc)/\ w7.cell? ⟨b7,1,none⟩=some (.bool yf)/\ w7.cell? ⟨b7,2,none⟩=some (.int .i64 yr)/\ w7.cell? ⟨b7,3,none⟩=some (.int .i64 yq)/\ w7.cell? ⟨b7,4,none⟩=some (.string yv))/\ ((w7.setCell ⟨w.heap.size,0,none⟩ (.slice (some ⟨q',0,none⟩) (S.l.length+1) Hb)).cell? ⟨b7,0,none⟩=some (.slice (some ⟨p,0,none⟩) yp.length pc)/\ (w7.setCell ⟨w.heap.size,0,none⟩ (.slice (some ⟨q',0,none⟩) (S.l.length+1) Hb)).cell? ⟨b7,1,none⟩=some (.bool yf)/\ (w7.setCell ⟨w.heap.size,0,none⟩ (.slice (some ⟨q',0,none⟩) (S.l.length+1) Hb)).cell? ⟨b7,2,none⟩=some (.int .i64 yr)/\ (w7.setCell ⟨w.heap.size,0,none⟩ (.slice (some ⟨q',0,none⟩) (S.l.length+1) Hb)).cell? ⟨b7,3,none⟩=some (.int .i64 yq)/\ (w7.setCell ⟨w.heap.size,0,none⟩ (.slice (some ⟨q',0,none⟩) (S.l.length+1) Hb)).cell? ⟨b7,4,none⟩=some (.string yv))):=hid (fun w5 q qc hb h1 h2 h3 h4=>by
      obtain⟨q',Hb,w7,hr,Kr,Gy⟩:=Gd.out.app hb (by omega) (by omega) ⟨yp,yf,yr,yq,yv⟩ q qc (by omega) h2 (fun e=>by have:=(Gd.out.lt q e.symm).2;omega) h3 h4;have H6:=Ha.out.lt;have Kj:=HM.out.gn.2.2;obtain⟨A7,M7⟩:=HM.out.more hb Kr Gy (fun j hj=>by
       (try dsimp only)
       rw [if_neg (by omega)];by_cases e:j=ii
       ·rw [e,Kg.out];exact Hf.nb
       ·exact(HM.out.pts j hj e).nb) (by(try dsimp only);rw [if_pos rfl];omega) H6
      have gg:w5.grownBy w7 (some g):=Gy.g;have e7:w7.heap[b7]? =W4.heap[b7]? :=(gg.block b7 (Nat.lt_of_lt_of_le H6 hb.size) (fun e=>Kj (by injection e with e;exact e.symm))).trans (hb.block b7 H6);have e8:(w7.setCell ⟨w.heap.size,0,none⟩ (.slice (some ⟨q',0,none⟩) (S.l.length+1) Hb)).heap[b7]? =W4.heap[b7]? :=(zH _ _ _ _ (by have:=HM.out.hb;simp;omega)).trans e7;have cc:∀{w8:World},w8.heap[b7]? =W4.heap[b7]? ->W4.heap.size<=w8.heap.size ->Bx5 w8 b7 (.slice (some ⟨p,0,none⟩) yp.length pc) (.bool yf) (.int .i64 yr) (.int .i64 yq) (.string yv):=fun{w8} e hs=>by
       have q:=fun o=>World.cell?_of_block (w:=W4) (w':=w8) (a:=⟨b7,o,none⟩) e;exact⟨(q 0).trans Ha.out.c0,(q 1).trans Ha.out.c1,(q 2).trans Ha.out.c2,(q 3).trans Ha.out.c3,(q 4).trans Ha.out.c4,fun i=>(World.frozen?_of_block (a:=⟨b7,i,none⟩) e).trans (Ha.out.f i),Nat.lt_of_lt_of_le Ha.out.lt hs⟩
      have s7:W4.heap.size<=w7.heap.size:=Nat.le_trans hb.size gg.size;have X7:=cc e7 s7;have X8:=cc e8 (by simpa [World.setCell] using s7);exact⟨q',Hb,w7,hr,A7,⟨_,_,M7,X8⟩,⟨X7.c0,X7.c1,X7.c2,X7.c3,X7.c4⟩,⟨X8.c0,X8.c1,X8.c2,X8.c3,X8.c4⟩⟩)
     have Ga:=hid HM.out.bs;have Gb:Hid (∀w',Below W4.heap.size W4 w' ->w'.cell? ⟨w.heap.size,0,none⟩=some (.slice (some ⟨g,0,none⟩) S.l.length cg)):=hid (fun w' hb=>(hb.cell (p:=⟨w.heap.size,0,none⟩) Ga.out.lt).trans Ga.out.c0);clear Hf;have t0:=Ga.out.c0;go_wp2_with fail;clear t0;refine zR (S:=fun w'=>w'.cell? ⟨b7,0,none⟩=some (.slice (some ⟨p,0,none⟩) yp.length pc)/\ w'.cell? ⟨b7,1,none⟩=some (.bool yf)/\ w'.cell? ⟨b7,2,none⟩=some (.int .i64 yr)/\ w'.cell? ⟨b7,3,none⟩=some (.int .i64 yq)/\ w'.cell? ⟨b7,4,none⟩=some (.string yv)) (Hg.out _ zI.drew) (fun qh=> ?_);clear x0 x1 x2 x3 x4 xf;refine tZ 0 73 ?_;refine tZ 2 75 ?_;refine ready2t (i:=1) (j:=3) (d:=some 74) (d':=some 76) (by kernel_rfl) (by kernel_rfl) (by kernel_rfl) ?_ ?_
     ·
      have t0:=Gb.out _ zI.drew;intro o ho Gm K hK;simp only [gZa,gZb,gZc,gZd] at ho;subst ho;go_simp;refine hK.out _ _ (Hg.out _ zI.drew) (fun qh=> ?_);clear hK K;try simp only [zP]
      clear t0;refine cZ 3 ?_;intro K hK;go_simp;refine(Hv.out _ zI.drew).mono ?_;rintro e w5 ⟨q,qc,rfl,b5,p1,p2,Hj,q1,q2,H8⟩;have He:Below W4.heap.size W4 w5:=⟨b5.os,b5.tape,b5.output,b5.size,b5.block⟩;have Hm:Below W4.heap.size W4 (w5.alloc (.cells #[.slice (some ⟨q,0,none⟩) yp.length qc,.bool yf,.int .i64 yr,.int .i64 yq,.string yv] 60)):=He.alloc He.size _;obtain⟨q',Hb,w7,Hc,A7,M7,c7,l7⟩:=Hx.out w5 q qc He p1 p2 Hj ⟨q1,q2⟩;have H4:=hid M7;refine hK.out _ _ (Hg.out _ He) (fun qh=> ?_);clear hK K;try simp only [zP]
      refine cZ 4 ?_;intro K hK;go_simp;refine hK.out _ _ (Hg.out _ Hm) (fun qh=> ?_);clear hK K;try simp only [zP]
      refine cZ 5 ?_;intro K hK;refine wp_app2 _ _ _ _ rfl Hc (by rfl) (by rfl) rfl ?_;refine hK.out _ _ c7 (fun qh=> ?_);clear hK K;try simp only [zP]
      refine tZ 6 79 ?_;have t0:=A7.c0;have tf:=A7.f;refine cZ 7 ?_;intro K hK;go_simp;refine hK.out _ _ l7 (fun qh=> ?_);clear hK K;try simp only [zP]
      refine zD ?_;clear qh b5 He Hm Hc A7 M7 c7 l7 t0 tf Hj p1 p2 Hx Hv Hg q1 q2 H8;go_wp2_with fail;go_meet;obtain⟨P',Q',M8,X8⟩:=H4.out;exact⟨S.l++[⟨yp,yf,yr,yq,yv⟩],⟨yp,yf,yr,yq,yv⟩,q',Hb,p,pc,P',Q',hid ⟨M8,X8,by simp;omega,by simp;omega,Hk.out _ _ (by rw [if_pos HK.out]) (by unfold spY;rw [if_neg (by rw [HK.out];decide)];rw [if_neg (by rw [HK.out];decide)];rw [if_neg (by rw [HK.out];decide)];rw [if_neg (by rw [HK.out];decide)];rw [if_pos HK.out])⟩⟩
     ·
      intro o ho Gm K hK;simp only [gZa,gZb,gZc,gZd] at ho;subst ho;go_simp;refine(Hv.out _ zI.drew).mono ?_;rintro e w5 ⟨q,qc,rfl,b5,p1,p2,Hj,q1,q2,H8⟩;have He:Below W4.heap.size W4 w5:=⟨b5.os,b5.tape,b5.output,b5.size,b5.block⟩;have Hm:Below W4.heap.size W4 (w5.alloc (.cells #[.slice (some ⟨q,0,none⟩) yp.length qc,.bool yf,.int .i64 yr,.int .i64 yq,.string yv] 60)):=He.alloc He.size _;obtain⟨q',Hb,w7,Hc,A7,M7,c7,l7⟩:=Hx.out w5 q qc He p1 p2 Hj ⟨q1,q2⟩;have H4:=hid M7;refine hK.out _ _ (Hg.out _ He) (fun qh=> ?_);clear hK K;try simp only [zP]
      refine ready2t (i:=1) (j:=4) (d:=some 74) (d':=some 77) (by kernel_rfl) (by kernel_rfl) (by kernel_rfl) ?_ ?_
      ·
       have t0:=Gb.out _ He;intro o ho Gm K hK;simp only [gZa,gZb,gZc,gZd] at ho;subst ho;go_simp;refine hK.out _ _ (Hg.out _ He) (fun qh=> ?_);clear hK K;try simp only [zP]
       clear t0;refine cZ 4 ?_;intro K hK;go_simp;refine hK.out _ _ (Hg.out _ Hm) (fun qh=> ?_);clear hK K;try simp only [zP]
       refine cZ 5 ?_;intro K hK;refine wp_app2 _ _ _ _ rfl Hc (by rfl) (by rfl) rfl ?_;refine hK.out _ _ c7 (fun qh=> ?_);clear hK K;try simp only [zP]
       refine tZ 6 79 ?_;have t0:=A7.c0;have tf:=A7.f;refine cZ 7 ?_;intro K hK;go_simp;refine hK.out _ _ l7 (fun qh=> ?_);clear hK K;try simp only [zP]
       refine zD ?_;clear qh b5 He Hm Hc A7 M7 c7 l7 t0 tf Hj p1 p2 Hx Hv Hg q1 q2 H8;go_wp2_with fail;go_meet;obtain⟨P',Q',M8,X8⟩:=H4.out;exact⟨S.l++[⟨yp,yf,yr,yq,yv⟩],⟨yp,yf,yr,yq,yv⟩,q',Hb,p,pc,P',Q',hid ⟨M8,X8,by simp;omega,by simp;omega,Hk.out _ _ (by rw [if_pos HK.out]) (by unfold spY;rw [if_neg (by rw [HK.out];decide)];rw [if_neg (by rw [HK.out];decide)];rw [if_neg (by rw [HK.out];decide)];rw [if_neg (by rw [HK.out];decide)];rw [if_pos HK.out])⟩⟩
      ·
       intro o ho Gm K hK;simp only [gZa,gZb,gZc,gZd] at ho;subst ho;go_simp;refine hK.out _ _ (Hg.out _ Hm) (fun qh=> ?_);clear hK K;try simp only [zP]
       have t0:=Gb.out _ Hm;refine cZ 1 ?_;intro K hK;go_simp;refine hK.out _ _ (Hg.out _ Hm) (fun qh=> ?_);clear hK K;try simp only [zP]
       clear t0;refine cZ 5 ?_;intro K hK;refine wp_app2 _ _ _ _ rfl Hc (by rfl) (by rfl) rfl ?_;refine hK.out _ _ c7 (fun qh=> ?_);clear hK K;try simp only [zP]
       refine tZ 6 79 ?_;have t0:=A7.c0;have tf:=A7.f;refine cZ 7 ?_;intro K hK;go_simp;refine hK.out _ _ l7 (fun qh=> ?_);clear hK K;try simp only [zP]
       refine zD ?_;clear qh b5 He Hm Hc A7 M7 c7 l7 t0 tf Hj p1 p2 Hx Hv Hg q1 q2 H8;go_wp2_with fail;go_meet;obtain⟨P',Q',M8,X8⟩:=H4.out;exact⟨S.l++[⟨yp,yf,yr,yq,yv⟩],⟨yp,yf,yr,yq,yv⟩,q',Hb,p,pc,P',Q',hid ⟨M8,X8,by simp;omega,by simp;omega,Hk.out _ _ (by rw [if_pos HK.out]) (by unfold spY;rw [if_neg (by rw [HK.out];decide)];rw [if_neg (by rw [HK.out];decide)];rw [if_neg (by rw [HK.out];decide)];rw [if_neg (by rw [HK.out];decide)];rw [if_pos HK.out])⟩⟩
    | 6,_=>
     have Hd:Hid (SpM w (W4.setCell ⟨b7,2,none⟩ (.int .i64 7)) B rb f n (rx n x) b7 ii S.l ⟨yp,yf,7,yq,yv⟩ (fS S) g cg p pc gx cx P Q/\ Bx5 (W4.setCell ⟨b7,2,none⟩ (.int .i64 7)) b7 (.slice (some ⟨p,0,none⟩) (⟨yp,yf,7,yq,yv⟩:Lf).p.length pc) (.bool (⟨yp,yf,7,yq,yv⟩:Lf).fl) (.int .i64 (⟨yp,yf,7,yq,yv⟩:Lf).r) (.int .i64 (⟨yp,yf,7,yq,yv⟩:Lf).q) (.string (⟨yp,yf,7,yq,yv⟩:Lf).v)):=hid ⟨HM.out.setB _ _ rfl,Ha.out.set2 _⟩;go_wp2_with fail;go_meet;exact⟨S.l,⟨yp,yf,7,yq,yv⟩,g,cg,p,pc,P,Q,hid ⟨Hd.out.1,Hd.out.2,Hi,by omega,Hk.out _ _ (by rw [if_neg (by rw [HK.out];decide)]) (by unfold spY;rw [if_neg (by rw [HK.out];decide)];rw [if_neg (by rw [HK.out];decide)];rw [if_neg (by rw [HK.out];decide)];rw [if_neg (by rw [HK.out];decide)];rw [if_neg (by rw [HK.out];decide)];rw [if_pos HK.out])⟩⟩
    | 7,_=>
     have Hj:=HM.out.pt.wr;have H1:0<yp.length:=by have:=Hy.1;omega
     have i5:(0:Int)<(yp.length:Int):=by omega
     have j0:=Hj.cell (i:=0) H1;have jf:=Hj.frozen 0;have Hd:Hid (SpM w (W4.setCell ⟨p,0,none⟩ (.string ⟨#[99]⟩)) B rb f n (rx n x) b7 ii S.l ⟨yp.set 0 ⟨#[99]⟩,yf,yr,yq,yv⟩ (fS S) g cg p pc gx cx P Q/\ Bx5 (W4.setCell ⟨p,0,none⟩ (.string ⟨#[99]⟩)) b7 (.slice (some ⟨p,0,none⟩) yp.length pc) (.bool yf) (.int .i64 yr) (.int .i64 yq) (.string yv)):=hid (by
      have hp:=HM.out.pt;refine⟨HM.out.chg (r:=p) ⟨rfl,rfl,rfl,by simp [World.setCell],fun q hq hne=>zH _ _ _ _ (fun e=>hne (by rw [e]))⟩ ⟨hp.lo,hp.ng,Gr.out,Hw.out⟩ ⟨hp.lo,by simpa [World.setCell] using hp.lt,hp.ng,hp.nb,?_,by simpa using hp.c1,hp.c2⟩,Ha.out.setAt _ _ hp.nb⟩;obtain⟨Hn,q1,q2,q3⟩:=hp.wr;have q2:yp.length<=Hn.size:=q2;have q3:∀i,i<yp.length ->Hn[i]? =some (.string (gS yp i)):=q3;have qz:0<Hn.size:=by omega
      refine⟨Hn.setIfInBounds 0 (.string ⟨#[99]⟩),?_,by simpa using q2,fun t ht=> ?_⟩
      ·exact heap_set0 q1
      ·simp only [List.length_set] at ht;by_cases e:t=0
       ·subst e;simp [gS,List.getD,H1,Array.getElem?_setIfInBounds,qz]
       ·rw [show (Hn.setIfInBounds 0 (.string ⟨#[99]⟩))[t]? =Hn[t]? by simp [Array.getElem?_setIfInBounds,Ne.symm e],q3 t ht];simp [gS,List.getD,List.getElem?_set_ne (Ne.symm e)])
     clear Hj;go_wp2_with fail;go_meet;have Kk:(yp.set 0 (⟨#[99]⟩:ByteArray)).length=yp.length:=List.length_set;exact⟨S.l,⟨yp.set 0 ⟨#[99]⟩,yf,yr,yq,yv⟩,g,cg,p,pc,P,Q,hid ⟨Hd.out.1,by(try dsimp only);rw [Kk];exact Hd.out.2,Hi,by omega,Hk.out _ _ (by rw [if_neg (by rw [HK.out];decide)]) (by unfold spY;rw [if_neg (by rw [HK.out];decide)];rw [if_neg (by rw [HK.out];decide)];rw [if_neg (by rw [HK.out];decide)];rw [if_neg (by rw [HK.out];decide)];rw [if_neg (by rw [HK.out];decide)];rw [if_neg (by rw [HK.out];decide)])⟩⟩
   case rest=>
    obtain⟨l',y',g',c',p',H9,P',Q',HH⟩:=hcut;obtain⟨m1,m2,m3,m4,m5⟩:=HH.out;obtain⟨W5,Ho⟩:∃W5,((((wc.setCell ⟨g',ii*5,none⟩ (.slice (some ⟨p',0,none⟩) y'.p.length H9)).setCell ⟨g',ii*5+1,none⟩ (.bool y'.fl)).setCell ⟨g',ii*5+2,none⟩ (.int .i64 y'.r)).setCell ⟨g',ii*5+3,none⟩ (.int .i64 y'.q)).setCell ⟨g',ii*5+4,none⟩ (.string y'.v)=W5:=⟨_,rfl⟩;obtain⟨A5,R5,h7⟩:=m1.fin m3 Ho;have HF:=hid (h7 _ rfl);have q0:=m1.bs.c0;have q1:=m1.bs.c1;have x0:=m2.c0;have x1:=m2.c1;have x2:=m2.c2;have x3:=m2.c3;have x4:=m2.c4;have hw:=own_wrF m1.row;obtain⟨Gt,Gu,Gv,Gw,Gx⟩:=lCp0 l' P' Q' ii;have z0:=(hw.cell (i:=ii*5) (by omega)).trans (congrArg some Gt);have z1:=(hw.cell (i:=ii*5+1) (by omega)).trans (congrArg some Gu);have z2:=(hw.cell (i:=ii*5+2) (by omega)).trans (congrArg some Gv);have z3:=(hw.cell (i:=ii*5+3) (by omega)).trans (congrArg some Gw);have z4:=(hw.cell (i:=ii*5+4) (by omega)).trans (congrArg some Gx);have zf:=fun t=>hw.frozen t;have v0:=A5.c0;have v1:=A5.c1;have o0:=R5.c0;have o1:=R5.c1;have of:=R5.f;have i4:(ii:Int)<(l'.length:Int):=by omega
    have HE:=hid m5;clear A5 R5 h7 m1 m2 m5 hw Gt Gu Gv Gw Gx HH HM Gd Gf Ha H0 Kt i2 Ks d0 d1;go_wp2_with fail;obtain⟨X7,Hp,r7,g7⟩:=HF.out;have y0:=X7.c0;have y1:=X7.c1;rw [HE.out] at Hp;have Kl:(spL k S.l).length=l'.length:=by rw [<- HE.out];simp
    obtain⟨rfl,rfl⟩:=Ke.out;refine zF (v:=.agg #[.slice (some ⟨g',0,none⟩) l'.length c',.slice (some ⟨gx,0,none⟩) (fS S).length cx]) (by simp [results,Tryz.results44,go_sem,y0,y1]) ?_;have G0:Ending.returned (.agg #[.slice (some ⟨g',0,none⟩) l'.length c',.slice (some ⟨gx,0,none⟩) (fS S).length cx])=.returned (.agg #[.slice (some ⟨g',0,none⟩) (mkS (spL k S.l) (fS S)).l.length c',.slice (some ⟨gx,0,none⟩) (mkS (spL k S.l) (fS S)).n cx]):=by
     rw [show (mkS (spL k S.l) (fS S)).l.length=l'.length from Kl];rfl
    first
     | exact⟨_,c',_,cx,G0,Hp,r7,g7⟩
     | exact⟨_,c',_,⟨cx,G0⟩,Hp,r7,g7⟩
theorem SNc.drew {w:World}{lo:Nat}{a x:Option Addr}{S:Sx}(h:SNc w lo a x S):SNc w.drew lo a x S:=h.move zL zL (fun _ _ _=>rfl)
structure AcS (w w4:World)(B rb:Nat)(f:Nat ->Int)(n x lo r b:Nat)(va vx vb vy:Value):Prop where
 s0:Bx2 w4 r va vx
 r1:Bx2 w4 (r+1) (.slice none 0 0) (.slice none 0 0)
 r2:Bx2 w4 (r+1+1) (.slice none 0 0) (.slice none 0 0)
 t1:Bx2 w4 b va vx
 t2:Bx2 w4 (b+1) (.slice none 0 0) (.slice none 0 0)
 rd:RdJ w4 B rb f n x
 gr:w.grownBy w4 (some rb)
 z1:w.heap.size=r
 z2:r+1+1<b
 z3:b+1<lo
 z4:lo<=w4.heap.size
 z5:B<=w.heap.size
theorem AcS.below {w w4 w5:World}{B rb n x lo r b:Nat}{f:Nat ->Int}{va vx vb vy:Value}(h:AcS w w4 B rb f n x lo r b va vx vb vy)(hb:Below lo w4 w5):AcS w w5 B rb f n x lo r b va vx vb vy:=by
 have z1:=h.z1;have z2:=h.z2;have z3:=h.z3;have z5:=h.z5;exact⟨h.s0.below hb (by omega),h.r1.below hb (by omega),h.r2.below hb (by omega),h.t1.below hb (by omega),h.t2.below hb (by omega),h.rd.below (hb.mono (by omega)),grownBelow h.gr hb (by omega),h.z1,h.z2,h.z3,Nat.le_trans h.z4 hb.size,h.z5⟩
theorem AcS.gro {w w4 w5:World}{B rb n x x' lo r b:Nat}{f:Nat ->Int}{va vx vb vy:Value}(h:AcS w w4 B rb f n x lo r b va vx vb vy)(hg:w4.grownBy w5 (some rb))(hr:RdJ w5 B rb f n x'):AcS w w5 B rb f n x' lo r b va vx vb vy:=by
 have z1:=h.z1;have z2:=h.z2;have z5:=h.z5;have hb:=h.rd.lt.2;have hn:∀b,r<=b ->∀k,some rb=some k ->k≠b:=fun b hb k e=>by injection e with e;omega
 exact⟨h.s0.gr hg (hn _ zL),h.r1.gr hg (hn _ (by omega)),h.r2.gr hg (hn _ (by omega)),h.t1.gr hg (hn _ (by omega)),h.t2.gr hg (hn _ (by omega)),hr,grown_transJ h.gr hg,h.z1,h.z2,h.z3,Nat.le_trans h.z4 hg.size,h.z5⟩
theorem PtN.gr {w w1:World}{lo rb:Nat}{pa:Option Addr}{pc:Nat}{p:List ByteArray}(h:PtN w lo pa pc p)(hg:w.grownBy w1 (some rb))(hr:rb<lo):PtN w1 lo pa pc p:=h.move zL hg.size (fun q h1 h2=>hg.block q h2 (fun e=>by injection e with e;omega))
theorem AcS.fill {w w4:World}{B rb n x lo r b:Nat}{f:Nat ->Int}{va vx vb vy:Value}(h:AcS w w4 B rb f n x lo r b va vx vb vy)(v0 v1 v2 v3:Value):
  (Bx2 ((w4.setCell ⟨b,0,none⟩ v0).setCell ⟨b,1,none⟩ v1) (b+1) (.slice none 0 0) (.slice none 0 0))/\∃w5,((((w4.setCell ⟨b,0,none⟩ v0).setCell ⟨b,1,none⟩ v1).setCell ⟨b+1,0,none⟩ v2).setCell ⟨b+1,1,none⟩ v3)=w5/\ Bx2 w5 r va vx/\ Bx2 w5 (r+1) (.slice none 0 0) (.slice none 0 0)/\ Bx2 w5 (r+1+1) (.slice none 0 0) (.slice none 0 0)/\ Bx2 w5 b v0 v1/\ Bx2 w5 (b+1) v2 v3/\ RdJ w5 B rb f n x/\ w.grownBy w5 (some rb):=by
 have z1:=h.z1;have z2:=h.z2;have z5:=h.z5;have TB:=twoB h.t1 h.t2 (show b≠b+1 by omega) v0 v1 v2 v3;have hb:Below b w4 ((((w4.setCell ⟨b,0,none⟩ v0).setCell ⟨b,1,none⟩ v1).setCell ⟨b+1,0,none⟩ v2).setCell ⟨b+1,1,none⟩ v3):=below4 zI zL (by omega) _ _ _ _;exact⟨TB.1,_,rfl,h.s0.below hb (by omega),h.r1.below hb (by omega),h.r2.below hb (by omega),TB.2.1,TB.2.2,h.rd.below (hb.mono (by omega)),grownBelow h.gr hb (by omega)⟩
theorem act_end {w w5:World}{B rb n x r:Nat}{f:Nat ->Int}(rd:RdJ w5 B rb f n x)(gr:w.grownBy w5 (some rb))(z1:w.heap.size=r)(z5:B<=w.heap.size)(v0 v1 v2 v3:Value):RdJ ((((w5.setCell ⟨r+1,0,none⟩ v0).setCell ⟨r+1,1,none⟩ v1).setCell ⟨r+1+1,0,none⟩ v2).setCell ⟨r+1+1,1,none⟩ v3) B rb f n x/\ w.grownBy ((((w5.setCell ⟨r+1,0,none⟩ v0).setCell ⟨r+1,1,none⟩ v1).setCell ⟨r+1+1,0,none⟩ v2).setCell ⟨r+1+1,1,none⟩ v3) (some rb):=by
 have hb:Below w.heap.size w5 ((((w5.setCell ⟨r+1,0,none⟩ v0).setCell ⟨r+1,1,none⟩ v1).setCell ⟨r+1+1,0,none⟩ v2).setCell ⟨r+1+1,1,none⟩ v3):=below4 zI (by omega) (by omega) _ _ _ _;exact⟨rd.below (hb.mono z5),grownBelow gr hb zL⟩
theorem actR (f:Nat ->Int)(n x:Nat)(S:Sx)(rep k:Nat)(hk:rk f n x=k)(h8:k%8=7)(hS:Dr S)(hrep:rep<8):∃S1 S2 x',AcP f n x S rep S1 S2 x':=by
 obtain⟨p,Gm,hp⟩:=pathJ f n (rx n x);obtain⟨X,hX⟩:∃X,rmX S p=X:=⟨_,rfl⟩;obtain⟨Y,hY⟩:∃Y,rmY S p=Y:=⟨_,rfl⟩;obtain⟨C,hC⟩:∃C,rmC S p=C:=⟨_,rfl⟩;have Hv:Hid (C=0 ->Dr X/\ Dr Y):=hid (by rw [<- hX,<- hY,<- hC];exact dr_rm hS.vd);have Hu:Hid (∀(w:World) (a xa pa:Option Addr) (c d pc:Nat),(LCap w a S.l/\ RSeg w xa S.n S.R S.F S.T) ->(p.length<=pc/\ pc<=9223372036854775807) ->SSeg w pa p ->Calls Tryz.prog 7 #[.agg #[.slice a S.l.length c,.slice xa S.n d],.slice pa p.length pc] w (ChP w X Y C)):=hid (fun w a xa pa c d pc h hpc hseg=>by
  rw [<- hX,<- hY,<- hC];exact specRemove a c xa d pa pc S p w (vd_sm hS.vd) h.1 h.2 (by omega) hpc hseg)
 obtain⟨S1,Hs⟩:∃S1,(if C=0 then X else S)=S1:=⟨_,rfl⟩;obtain⟨S2,Ht⟩:∃S2,(if C=0 then Y else Sx.mt)=S2:=⟨_,rfl⟩;have Hl:Hid (C=0 ->S1=X/\ S2=Y):=hid (fun e=>⟨by rw [<- Hs,if_pos e],by rw [<- Ht,if_pos e]⟩);have Hf:Hid (C≠0 ->S1=S/\ S2=Sx.mt):=hid (fun e=>⟨by rw [<- Hs,if_neg e],by rw [<- Ht,if_neg e]⟩);refine⟨S1,S2,rx n (rx n x),?_,fun B lo rb a xa c d w hBl hlo h hs=> ?_⟩
 ·by_cases e:C=0
  ·rw [(Hl.out e).1,(Hl.out e).2];exact Hv.out e
  ·rw [(Hf.out e).1,(Hf.out e).2];exact⟨hS,Dr.mt⟩
 have hB:B<=w.heap.size:=Nat.le_trans hBl hlo;have Hj:Hid (lo<=w.heap.size/\ rb<lo):=hid ⟨hlo,Nat.lt_of_lt_of_le h.lt.2 hBl⟩;clear hBl hlo;have Hy:=hid hp;clear hX hY hC Hs Ht Hv hp;obtain⟨W,hW⟩:∃W,((w.alloc (.cells #[.slice a S.l.length c,.slice xa S.n d] 28)).alloc (.cells #[.slice none 0 0,.slice none 0 0] 28)).alloc (.cells #[.slice none 0 0,.slice none 0 0] 28)=W:=⟨_,rfl⟩;have b0:Below w.heap.size w W:=by rw [<- hW];exact(below2 _ _ _).alloc (by simp;omega) _
 have A0:Bx2 W w.heap.size (.slice a S.l.length c) (.slice xa S.n d):=by rw [<- hW];exact((Bx2.made w _ _ _).allocs _).allocs _
 have R0:Bx2 W (w.heap.size+1) (.slice none 0 0) (.slice none 0 0):=by
  rw [<- hW];have:=Bx2.made (w.alloc (.cells #[.slice a S.l.length c,.slice xa S.n d] 28)) (.slice none 0 0) (.slice none 0 0) 28;exact(by simpa using this:Bx2 _ (w.heap.size+1) _ _).allocs _
 have Q0:Bx2 W (w.heap.size+1+1) (.slice none 0 0) (.slice none 0 0):=by
  rw [<- hW];simpa using Bx2.made ((w.alloc (.cells #[.slice a S.l.length c,.slice xa S.n d] 28)).alloc (.cells #[.slice none 0 0,.slice none 0 0] 28)) (.slice none 0 0) (.slice none 0 0) 28
 have zW:W.heap.size=w.heap.size+3:=by rw [<- hW];simp
 have H5:=h.lt;have HN:=hid (rdNextJ B rb f n x W (h.below (b0.mono hB)));rw [hk] at HN;have H6:=hid A0;have Ga:=hid R0;have H9:=hid Q0;have Hb:=hid b0;have Gf:=hid zW;have Hr:=hid hs;have Gb:=hid H5;have Hd:=hid hB;have d0:¬(k:Int)%8<4:=by omega
 have d1:((k:Int)%8==4)=false:=by simp;omega
 have d2:((k:Int)%8==5)=false:=by simp;omega
 have d3:((k:Int)%8==6)=false:=by simp;omega
 clear hk h hs H5 b0 A0 R0 Q0 zW hrep h8;go_enter Tryz.func70,Tryz.ntmps70;go_wp2_with fail;try rw [hW]
 clear hW;refine HN.out.mono ?_;rintro e w1 ⟨rfl,r1,g1⟩;have Hz:=hid (Hy.out B rb w1 (by have:=Hd.out;have:=Hb.out.size;have:=g1.size;omega) r1);have H8:=hid g1;clear r1 g1 HN Hy;go_wp2_with fail;refine Hz.out.mono ?_;rintro e w2 ⟨pa,pc,rfl,p2,r2,g2⟩;have Ha:Hid (W.grownBy w2 (some rb)):=hid (grown_transJ H8.out g2);have Ho:Hid (∀b,w.heap.size<=b ->∀k,some rb=some k ->k≠b):=hid (fun b hb k e=>by injection e with e;have:=Gb.out;have:=Hd.out;omega);have Hi:=hid (H6.out.gr Ha.out (Ho.out _ zL));have H1:=hid (Ga.out.gr Ha.out (Ho.out _ (Nat.le_succ _)));have H0:=hid (H9.out.gr Ha.out (Ho.out _ (by omega)));have Gi:=hid p2;have H7:=hid r2;have H2:Hid (w.grownBy w2 (some rb)):=hid ⟨Ha.out.os.trans Hb.out.os,Ha.out.tape.trans Hb.out.tape,Ha.out.output.trans Hb.out.output,Nat.le_trans Hb.out.size Ha.out.size,fun k hk hne=>(Ha.out.block k (Nat.lt_of_lt_of_le hk Hb.out.size) hne).trans (Hb.out.block k hk)⟩;have He:Hid (w.heap.size+3<=w2.heap.size/\ w1.heap.size<=w2.heap.size):=hid (by have:=Ha.out.size;have:=Gf.out;have:=g2.size;omega);have k0:=Hi.out.c0;have k1:=Hi.out.c1;have b3:Below w2.heap.size w2 ((w2.alloc (.cells #[.slice a S.l.length c,.slice xa S.n d] 28)).alloc (.cells #[.slice none 0 0,.slice none 0 0] 28)):=below2 _ _ _;have Hg:Hid (AcS w ((w2.alloc (.cells #[.slice a S.l.length c,.slice xa S.n d] 28)).alloc (.cells #[.slice none 0 0,.slice none 0 0] 28)) B rb f n (rx n (rx n x)) (w2.heap.size+2) w.heap.size w2.heap.size (.slice a S.l.length c) (.slice xa S.n d) (.slice none 0 0) (.slice none 0 0)):=hid (by
  have z2:=He.out;refine⟨Hi.out.below b3 Hi.out.lt,H1.out.below b3 H1.out.lt,H0.out.below b3 H0.out.lt,(Bx2.made w2 _ _ _).allocs _,?_,H7.out.below (b3.mono (by have:=Hd.out;omega)),grownBelow H2.out b3 (by omega),rfl,by omega,by omega,by simp,Hd.out⟩;simpa using Bx2.made (w2.alloc (.cells #[.slice a S.l.length c,.slice xa S.n d] 28)) (.slice none 0 0) (.slice none 0 0) 28)
 have Hk:=hid (p2.below b3);have Hq:Hid (SNc ((w2.alloc (.cells #[.slice a S.l.length c,.slice xa S.n d] 28)).alloc (.cells #[.slice none 0 0,.slice none 0 0] 28)) lo a xa S):=hid (Hr.out.gr (grownBelow H2.out b3 (by have:=He.out;omega)) Hj.out.2);have Gg:=Hg.out.s0.c0;have Gh:=Hg.out.s0.c1;clear p2 r2 g2 Hz b3;go_wp2_with fail;obtain⟨W3,Hm⟩:∃W3,((w2.alloc (.cells #[.slice a S.l.length c,.slice xa S.n d] 28)).alloc (.cells #[.slice none 0 0,.slice none 0 0] 28))=W3:=⟨_,rfl⟩;have Ge:Hid (W3.heap.size=w2.heap.size+2):=hid (by rw [<- Hm];simp);rw [Hm] at Hg Hk Hq;clear Gg Gh;try rw [Hm]
 clear Hm;refine(Hu.out W3 a xa pa c d pc Hq.out.at Hk.out.cap Hk.out.at).mono ?_;rintro e w4 ⟨a5,c5,x5,d5,a6,c6,x6,d6,rfl,ox,oy,b4⟩;rw [Ge.out] at ox oy b4;have Gc:=hid ox;have Gd:=hid oy;have Hh:=hid (Hg.out.below b4);clear ox oy b4 Hg Hk Hq Hu k0 k1;have t0:=Hh.out.t1.c0;have t1:=Hh.out.t1.c1;have tf:=Hh.out.t1.f;have TF:=(Hh.out.fill (.slice a5 X.l.length c5) (.slice x5 X.n d5) (.slice a6 Y.l.length c6) (.slice x6 Y.n d6)).1;have u0:=TF.c0;have u1:=TF.c1;have uf:=TF.f;clear TF;obtain⟨_,w5,Hn,f0,f1,f2,f3,f4,f5,f6⟩:=Hh.out.fill (.slice a5 X.l.length c5) (.slice x5 X.n d5) (.slice a6 Y.l.length c6) (.slice x6 Y.n d6);have H3:Hid (SNc w5 (w2.heap.size+2) a5 x5 X):=hid (by rw [<- Hn];exact snc4 (r1:=w2.heap.size) (r2:=w2.heap.size+1) Gc.out zL (by omega) (by omega) _ _ _ _);have H4:Hid (SNc w5 (w2.heap.size+2) a6 x6 Y):=hid (by rw [<- Hn];exact snc4 (r1:=w2.heap.size) (r2:=w2.heap.size+1) Gd.out zL (by omega) (by omega) _ _ _ _);have Hw:=hid f5;have Hx:=hid f6;by_cases hC:C=0
 ·subst hC;have HE:=hid (Hl.out rfl);clear Hl Hf;have Hc:=hid (twoB f1 f2 (show w.heap.size+1≠w.heap.size+1+1 by omega) (.slice a5 X.l.length c5) (.slice x5 X.n d5) (.slice a6 Y.l.length c6) (.slice x6 Y.n d6));have o0:=f1.c0;have o1:=f1.c1;have of:=f1.f;have i0:=f3.c0;have i1:=f3.c1;have i2:=f4.c0;have i3:=f4.c1;have Hp:=hid Hc.out.1;have Gj:¬w.heap.size=w2.heap.size:=by have:=He.out;omega
  have Gk:¬w.heap.size+1=w2.heap.size:=by have:=He.out;omega
  have Gl:¬w.heap.size+1+1=w2.heap.size:=by have:=He.out;omega
  clear f0 f1 f2 f3 f4 f5 f6;go_wp2_with fail;try rw [Hn]
  clear Hn;have q0:=Hp.out.c0;have q1:=Hp.out.c1;have qf:=Hp.out.f;go_region;try go_wp2_with fail
  all_goals
   obtain⟨X1,X2⟩:=Hc.out.2
   refine zF (v:=.tuple #[.agg #[.slice a5 X.l.length c5,.slice x5 X.n d5],.agg #[.slice a6 Y.l.length c6,.slice x6 Y.n d6]]) (by simp [results,Tryz.results70,go_sem,X1.c0,X1.c1,X2.c0,X2.c1]) ?_
   rw [HE.out.1,HE.out.2]
   have z2:=He.out
   have z5:=Hd.out
   have z6:=Hj.out.1
   obtain⟨E1,E2⟩:=act_end Hw.out Hx.out rfl z5 (.slice a5 X.l.length c5) (.slice x5 X.n d5) (.slice a6 Y.l.length c6) (.slice x6 Y.n d6)
   first
    | exact⟨a5,c5,x5,d5,a6,c6,x6,d6,rfl,(snc4 (r1:=w.heap.size+1) (r2:=w.heap.size+1+1) H3.out (by omega) (by omega) (by omega) _ _ _ _).drew,(snc4 (r1:=w.heap.size+1) (r2:=w.heap.size+1+1) H4.out (by omega) (by omega) (by omega) _ _ _ _).drew,E1.below zI.drew,⟨E2.os,E2.tape,E2.output,E2.size,E2.block⟩⟩
    | exact⟨a5,c5,x5,d5,a6,c6,x6,⟨d6,rfl⟩,(snc4 (r1:=w.heap.size+1) (r2:=w.heap.size+1+1) H3.out (by omega) (by omega) (by omega) _ _ _ _).drew,(snc4 (r1:=w.heap.size+1) (r2:=w.heap.size+1+1) H4.out (by omega) (by omega) (by omega) _ _ _ _).drew,E1.below zI.drew,⟨E2.os,E2.tape,E2.output,E2.size,E2.block⟩⟩
 ·have Hc:=hid (twoB f1 f2 (show w.heap.size+1≠w.heap.size+1+1 by omega) (.slice a S.l.length c) (.slice xa S.n d) (.slice none 0 0) (.slice none 0 0));have o0:=f1.c0;have o1:=f1.c1;have of:=f1.f;have i0:=f0.c0;have i1:=f0.c1;have q0:=Hc.out.1.c0;have q1:=Hc.out.1.c1;have qf:=Hc.out.1.f;clear f0 f1 f2 f3 f4 f5 f6;go_wp2_with fail;obtain⟨X1,X2⟩:=Hc.out.2;refine zF (v:=.tuple #[.agg #[.slice a S.l.length c,.slice xa S.n d],.agg #[.slice none 0 0,.slice none 0 0]]) (by simp [results,Tryz.results70,go_sem,X1.c0,X1.c1,X2.c0,X2.c1]) ?_;rw [(Hf.out hC).1,(Hf.out hC).2];have z5:=Hd.out;obtain⟨E1,E2⟩:=act_end Hw.out Hx.out rfl z5 (.slice a S.l.length c) (.slice xa S.n d) (.slice none 0 0) (.slice none 0 0);first
   | exact⟨a,c,xa,d,none,0,none,0,rfl,Hr.out.gr E2 Hj.out.2,SNc.mt _ _ _ _,E1,E2⟩
   | exact⟨a,c,xa,d,none,0,none,⟨0,rfl⟩,Hr.out.gr E2 Hj.out.2,SNc.mt _ _ _ _,E1,E2⟩
theorem actF (f:Nat ->Int)(n x:Nat)(S:Sx)(rep k:Nat)(hk:rk f n x=k)(h8:k%8=6)(hS:Dr S)(hrep:rep<8):∃S1 S2 x',AcP f n x S rep S1 S2 x':=by
 obtain⟨p,Gm,hp⟩:=pathJ f n (rx n x);obtain⟨X,hX⟩:∃X,seX S rep p true false ⟨#[]⟩=X:=⟨_,rfl⟩;obtain⟨Y,hY⟩:∃Y,seY S rep p true false ⟨#[]⟩=Y:=⟨_,rfl⟩;obtain⟨C,hC⟩:∃C,seC S rep p true false ⟨#[]⟩=C:=⟨_,rfl⟩;have Hv:Hid (C=0 ->Dr X/\ Dr Y):=hid (by rw [<- hX,<- hY,<- hC];exact dr_se hS.vd (fun _=>by simp [emB]));have Hu:Hid (∀(w:World) (a xa pa:Option Addr) (c d pc:Nat),(LCap w a S.l/\ RSeg w xa S.n S.R S.F S.T) ->(p.length<=pc/\ pc<=9223372036854775807) ->SSeg w pa p ->Calls Tryz.prog 6 #[.agg #[.slice a S.l.length c,.slice xa S.n d],.int .i64 (rep:Int),.slice pa p.length pc,.bool false] w (ChP w X Y C)):=hid (fun w a xa pa c d pc h hpc hseg=>by
  rw [<- hX,<- hY,<- hC];exact specSetFlag a c xa d pa pc S rep p false w (vd_sm hS.vd) hS.t h.1 h.2 (by omega) hpc hseg)
 obtain⟨S1,Hs⟩:∃S1,(if C=0 then X else S)=S1:=⟨_,rfl⟩;obtain⟨S2,Ht⟩:∃S2,(if C=0 then Y else Sx.mt)=S2:=⟨_,rfl⟩;have Hl:Hid (C=0 ->S1=X/\ S2=Y):=hid (fun e=>⟨by rw [<- Hs,if_pos e],by rw [<- Ht,if_pos e]⟩);have Hf:Hid (C≠0 ->S1=S/\ S2=Sx.mt):=hid (fun e=>⟨by rw [<- Hs,if_neg e],by rw [<- Ht,if_neg e]⟩);refine⟨S1,S2,rx n (rx n x),?_,fun B lo rb a xa c d w hBl hlo h hs=> ?_⟩
 ·by_cases e:C=0
  ·rw [(Hl.out e).1,(Hl.out e).2];exact Hv.out e
  ·rw [(Hf.out e).1,(Hf.out e).2];exact⟨hS,Dr.mt⟩
 have hB:B<=w.heap.size:=Nat.le_trans hBl hlo;have Hj:Hid (lo<=w.heap.size/\ rb<lo):=hid ⟨hlo,Nat.lt_of_lt_of_le h.lt.2 hBl⟩;clear hBl hlo;have Hy:=hid hp;clear hX hY hC Hs Ht Hv hp;obtain⟨W,hW⟩:∃W,((w.alloc (.cells #[.slice a S.l.length c,.slice xa S.n d] 28)).alloc (.cells #[.slice none 0 0,.slice none 0 0] 28)).alloc (.cells #[.slice none 0 0,.slice none 0 0] 28)=W:=⟨_,rfl⟩;have b0:Below w.heap.size w W:=by rw [<- hW];exact(below2 _ _ _).alloc (by simp;omega) _
 have A0:Bx2 W w.heap.size (.slice a S.l.length c) (.slice xa S.n d):=by rw [<- hW];exact((Bx2.made w _ _ _).allocs _).allocs _
 have R0:Bx2 W (w.heap.size+1) (.slice none 0 0) (.slice none 0 0):=by
  rw [<- hW];have:=Bx2.made (w.alloc (.cells #[.slice a S.l.length c,.slice xa S.n d] 28)) (.slice none 0 0) (.slice none 0 0) 28;exact(by simpa using this:Bx2 _ (w.heap.size+1) _ _).allocs _
 have Q0:Bx2 W (w.heap.size+1+1) (.slice none 0 0) (.slice none 0 0):=by
  rw [<- hW];simpa using Bx2.made ((w.alloc (.cells #[.slice a S.l.length c,.slice xa S.n d] 28)).alloc (.cells #[.slice none 0 0,.slice none 0 0] 28)) (.slice none 0 0) (.slice none 0 0) 28
 have zW:W.heap.size=w.heap.size+3:=by rw [<- hW];simp
 have H5:=h.lt;have HN:=hid (rdNextJ B rb f n x W (h.below (b0.mono hB)));rw [hk] at HN;have H6:=hid A0;have Ga:=hid R0;have H9:=hid Q0;have Hb:=hid b0;have Gf:=hid zW;have Hr:=hid hs;have Gb:=hid H5;have Hd:=hid hB;have d0:¬(k:Int)%8<4:=by omega
 have d1:((k:Int)%8==4)=false:=by simp;omega
 have d2:((k:Int)%8==5)=false:=by simp;omega
 have d3:((k:Int)%8==6)=true:=by simp;omega
 clear hk h hs H5 b0 A0 R0 Q0 zW hrep h8;go_enter Tryz.func70,Tryz.ntmps70;go_wp2_with fail;try rw [hW]
 clear hW;refine HN.out.mono ?_;rintro e w1 ⟨rfl,r1,g1⟩;have Hz:=hid (Hy.out B rb w1 (by have:=Hd.out;have:=Hb.out.size;have:=g1.size;omega) r1);have H8:=hid g1;clear r1 g1 HN Hy;go_wp2_with fail;refine Hz.out.mono ?_;rintro e w2 ⟨pa,pc,rfl,p2,r2,g2⟩;have Ha:Hid (W.grownBy w2 (some rb)):=hid (grown_transJ H8.out g2);have Ho:Hid (∀b,w.heap.size<=b ->∀k,some rb=some k ->k≠b):=hid (fun b hb k e=>by injection e with e;have:=Gb.out;have:=Hd.out;omega);have Hi:=hid (H6.out.gr Ha.out (Ho.out _ zL));have H1:=hid (Ga.out.gr Ha.out (Ho.out _ (Nat.le_succ _)));have H0:=hid (H9.out.gr Ha.out (Ho.out _ (by omega)));have Gi:=hid p2;have H7:=hid r2;have H2:Hid (w.grownBy w2 (some rb)):=hid ⟨Ha.out.os.trans Hb.out.os,Ha.out.tape.trans Hb.out.tape,Ha.out.output.trans Hb.out.output,Nat.le_trans Hb.out.size Ha.out.size,fun k hk hne=>(Ha.out.block k (Nat.lt_of_lt_of_le hk Hb.out.size) hne).trans (Hb.out.block k hk)⟩;have He:Hid (w.heap.size+3<=w2.heap.size/\ w1.heap.size<=w2.heap.size):=hid (by have:=Ha.out.size;have:=Gf.out;have:=g2.size;omega);have k0:=Hi.out.c0;have k1:=Hi.out.c1;have b3:Below w2.heap.size w2 ((w2.alloc (.cells #[.slice a S.l.length c,.slice xa S.n d] 28)).alloc (.cells #[.slice none 0 0,.slice none 0 0] 28)):=below2 _ _ _;have Hg:Hid (AcS w ((w2.alloc (.cells #[.slice a S.l.length c,.slice xa S.n d] 28)).alloc (.cells #[.slice none 0 0,.slice none 0 0] 28)) B rb f n (rx n (rx n x)) (w2.heap.size+2) w.heap.size w2.heap.size (.slice a S.l.length c) (.slice xa S.n d) (.slice none 0 0) (.slice none 0 0)):=hid (by
  have z2:=He.out;refine⟨Hi.out.below b3 Hi.out.lt,H1.out.below b3 H1.out.lt,H0.out.below b3 H0.out.lt,(Bx2.made w2 _ _ _).allocs _,?_,H7.out.below (b3.mono (by have:=Hd.out;omega)),grownBelow H2.out b3 (by omega),rfl,by omega,by omega,by simp,Hd.out⟩;simpa using Bx2.made (w2.alloc (.cells #[.slice a S.l.length c,.slice xa S.n d] 28)) (.slice none 0 0) (.slice none 0 0) 28)
 have Hk:=hid (p2.below b3);have Hq:Hid (SNc ((w2.alloc (.cells #[.slice a S.l.length c,.slice xa S.n d] 28)).alloc (.cells #[.slice none 0 0,.slice none 0 0] 28)) lo a xa S):=hid (Hr.out.gr (grownBelow H2.out b3 (by have:=He.out;omega)) Hj.out.2);have Gg:=Hg.out.s0.c0;have Gh:=Hg.out.s0.c1;clear p2 r2 g2 Hz b3;go_wp2_with fail;obtain⟨W3,Hm⟩:∃W3,((w2.alloc (.cells #[.slice a S.l.length c,.slice xa S.n d] 28)).alloc (.cells #[.slice none 0 0,.slice none 0 0] 28))=W3:=⟨_,rfl⟩;have Ge:Hid (W3.heap.size=w2.heap.size+2):=hid (by rw [<- Hm];simp);rw [Hm] at Hg Hk Hq;clear Gg Gh;try rw [Hm]
 clear Hm;refine(Hu.out W3 a xa pa c d pc Hq.out.at Hk.out.cap Hk.out.at).mono ?_;rintro e w4 ⟨a5,c5,x5,d5,a6,c6,x6,d6,rfl,ox,oy,b4⟩;rw [Ge.out] at ox oy b4;have Gc:=hid ox;have Gd:=hid oy;have Hh:=hid (Hg.out.below b4);clear ox oy b4 Hg Hk Hq Hu k0 k1;have t0:=Hh.out.t1.c0;have t1:=Hh.out.t1.c1;have tf:=Hh.out.t1.f;have TF:=(Hh.out.fill (.slice a5 X.l.length c5) (.slice x5 X.n d5) (.slice a6 Y.l.length c6) (.slice x6 Y.n d6)).1;have u0:=TF.c0;have u1:=TF.c1;have uf:=TF.f;clear TF;obtain⟨_,w5,Hn,f0,f1,f2,f3,f4,f5,f6⟩:=Hh.out.fill (.slice a5 X.l.length c5) (.slice x5 X.n d5) (.slice a6 Y.l.length c6) (.slice x6 Y.n d6);have H3:Hid (SNc w5 (w2.heap.size+2) a5 x5 X):=hid (by rw [<- Hn];exact snc4 (r1:=w2.heap.size) (r2:=w2.heap.size+1) Gc.out zL (by omega) (by omega) _ _ _ _);have H4:Hid (SNc w5 (w2.heap.size+2) a6 x6 Y):=hid (by rw [<- Hn];exact snc4 (r1:=w2.heap.size) (r2:=w2.heap.size+1) Gd.out zL (by omega) (by omega) _ _ _ _);have Hw:=hid f5;have Hx:=hid f6;by_cases hC:C=0
 ·subst hC;have HE:=hid (Hl.out rfl);clear Hl Hf;have Hc:=hid (twoB f1 f2 (show w.heap.size+1≠w.heap.size+1+1 by omega) (.slice a5 X.l.length c5) (.slice x5 X.n d5) (.slice a6 Y.l.length c6) (.slice x6 Y.n d6));have o0:=f1.c0;have o1:=f1.c1;have of:=f1.f;have i0:=f3.c0;have i1:=f3.c1;have i2:=f4.c0;have i3:=f4.c1;have Hp:=hid Hc.out.1;have Gj:¬w.heap.size=w2.heap.size:=by have:=He.out;omega
  have Gk:¬w.heap.size+1=w2.heap.size:=by have:=He.out;omega
  have Gl:¬w.heap.size+1+1=w2.heap.size:=by have:=He.out;omega
  clear f0 f1 f2 f3 f4 f5 f6;go_wp2_with fail;try rw [Hn]
  clear Hn;have q0:=Hp.out.c0;have q1:=Hp.out.c1;have qf:=Hp.out.f;go_region;try go_wp2_with fail
  all_goals
   obtain⟨X1,X2⟩:=Hc.out.2
   refine zF (v:=.tuple #[.agg #[.slice a5 X.l.length c5,.slice x5 X.n d5],.agg #[.slice a6 Y.l.length c6,.slice x6 Y.n d6]]) (by simp [results,Tryz.results70,go_sem,X1.c0,X1.c1,X2.c0,X2.c1]) ?_
   rw [HE.out.1,HE.out.2]
   have z2:=He.out
   have z5:=Hd.out
   have z6:=Hj.out.1
   obtain⟨E1,E2⟩:=act_end Hw.out Hx.out rfl z5 (.slice a5 X.l.length c5) (.slice x5 X.n d5) (.slice a6 Y.l.length c6) (.slice x6 Y.n d6)
   first
    | exact⟨a5,c5,x5,d5,a6,c6,x6,d6,rfl,(snc4 (r1:=w.heap.size+1) (r2:=w.heap.size+1+1) H3.out (by omega) (by omega) (by omega) _ _ _ _).drew,(snc4 (r1:=w.heap.size+1) (r2:=w.heap.size+1+1) H4.out (by omega) (by omega) (by omega) _ _ _ _).drew,E1.below zI.drew,⟨E2.os,E2.tape,E2.output,E2.size,E2.block⟩⟩
    | exact⟨a5,c5,x5,d5,a6,c6,x6,⟨d6,rfl⟩,(snc4 (r1:=w.heap.size+1) (r2:=w.heap.size+1+1) H3.out (by omega) (by omega) (by omega) _ _ _ _).drew,(snc4 (r1:=w.heap.size+1) (r2:=w.heap.size+1+1) H4.out (by omega) (by omega) (by omega) _ _ _ _).drew,E1.below zI.drew,⟨E2.os,E2.tape,E2.output,E2.size,E2.block⟩⟩
 ·have Hc:=hid (twoB f1 f2 (show w.heap.size+1≠w.heap.size+1+1 by omega) (.slice a S.l.length c) (.slice xa S.n d) (.slice none 0 0) (.slice none 0 0));have o0:=f1.c0;have o1:=f1.c1;have of:=f1.f;have i0:=f0.c0;have i1:=f0.c1;have q0:=Hc.out.1.c0;have q1:=Hc.out.1.c1;have qf:=Hc.out.1.f;clear f0 f1 f2 f3 f4 f5 f6;go_wp2_with fail;obtain⟨X1,X2⟩:=Hc.out.2;refine zF (v:=.tuple #[.agg #[.slice a S.l.length c,.slice xa S.n d],.agg #[.slice none 0 0,.slice none 0 0]]) (by simp [results,Tryz.results70,go_sem,X1.c0,X1.c1,X2.c0,X2.c1]) ?_;rw [(Hf.out hC).1,(Hf.out hC).2];have z5:=Hd.out;obtain⟨E1,E2⟩:=act_end Hw.out Hx.out rfl z5 (.slice a S.l.length c) (.slice xa S.n d) (.slice none 0 0) (.slice none 0 0);first
   | exact⟨a,c,xa,d,none,0,none,0,rfl,Hr.out.gr E2 Hj.out.2,SNc.mt _ _ _ _,E1,E2⟩
   | exact⟨a,c,xa,d,none,0,none,⟨0,rfl⟩,Hr.out.gr E2 Hj.out.2,SNc.mt _ _ _ _,E1,E2⟩
theorem actT (f:Nat ->Int)(n x:Nat)(S:Sx)(rep k:Nat)(hk:rk f n x=k)(h8:k%8=4 \/k%8=5)(hS:Dr S)(hrep:rep<8):∃S1 S2 x',AcP f n x S rep S1 S2 x':=by
 obtain⟨p,Gm,hp⟩:=pathJ f n (rx n x);obtain⟨X,hX⟩:∃X,seX S rep p true true ⟨#[]⟩=X:=⟨_,rfl⟩;obtain⟨Y,hY⟩:∃Y,seY S rep p true true ⟨#[]⟩=Y:=⟨_,rfl⟩;obtain⟨C,hC⟩:∃C,seC S rep p true true ⟨#[]⟩=C:=⟨_,rfl⟩;have H2:Hid (C=0 ->Dr X/\ Dr Y):=hid (by rw [<- hX,<- hY,<- hC];exact dr_se hS.vd (fun _=>by simp [emB]));have Hv:Hid (∀(w:World) (a xa pa:Option Addr) (c d pc:Nat),(LCap w a S.l/\ RSeg w xa S.n S.R S.F S.T) ->(p.length<=pc/\ pc<=9223372036854775807) ->SSeg w pa p ->Calls Tryz.prog 6 #[.agg #[.slice a S.l.length c,.slice xa S.n d],.int .i64 (rep:Int),.slice pa p.length pc,.bool true] w (ChP w X Y C)):=hid (fun w a xa pa c d pc h hpc hseg=>by
  rw [<- hX,<- hY,<- hC];exact specSetFlag a c xa d pa pc S rep p true w (vd_sm hS.vd) hS.t h.1 h.2 (by omega) hpc hseg)
 obtain⟨S1,H0⟩:∃S1,(if C=0 then X else S)=S1:=⟨_,rfl⟩;obtain⟨S2,H1⟩:∃S2,(if C=0 then Y else Sx.mt)=S2:=⟨_,rfl⟩;have Hn:Hid (C=0 ->S1=X/\ S2=Y):=hid (fun e=>⟨by rw [<- H0,if_pos e],by rw [<- H1,if_pos e]⟩);have Hi:Hid (C≠0 ->S1=S/\ S2=Sx.mt):=hid (fun e=>⟨by rw [<- H0,if_neg e],by rw [<- H1,if_neg e]⟩);refine⟨S1,S2,rx n (rx n x),?_,fun B lo rb a xa c d w hBl hlo h hs=> ?_⟩
 ·by_cases e:C=0
  ·rw [(Hn.out e).1,(Hn.out e).2];exact H2.out e
  ·rw [(Hi.out e).1,(Hi.out e).2];exact⟨hS,Dr.mt⟩
 have hB:B<=w.heap.size:=Nat.le_trans hBl hlo;have Hl:Hid (lo<=w.heap.size/\ rb<lo):=hid ⟨hlo,Nat.lt_of_lt_of_le h.lt.2 hBl⟩;clear hBl hlo;have H3:=hid hp;clear hX hY hC H0 H1 H2 hp;obtain⟨W,hW⟩:∃W,((w.alloc (.cells #[.slice a S.l.length c,.slice xa S.n d] 28)).alloc (.cells #[.slice none 0 0,.slice none 0 0] 28)).alloc (.cells #[.slice none 0 0,.slice none 0 0] 28)=W:=⟨_,rfl⟩;have b0:Below w.heap.size w W:=by rw [<- hW];exact(below2 _ _ _).alloc (by simp;omega) _
 have A0:Bx2 W w.heap.size (.slice a S.l.length c) (.slice xa S.n d):=by rw [<- hW];exact((Bx2.made w _ _ _).allocs _).allocs _
 have R0:Bx2 W (w.heap.size+1) (.slice none 0 0) (.slice none 0 0):=by
  rw [<- hW];have:=Bx2.made (w.alloc (.cells #[.slice a S.l.length c,.slice xa S.n d] 28)) (.slice none 0 0) (.slice none 0 0) 28;exact(by simpa using this:Bx2 _ (w.heap.size+1) _ _).allocs _
 have Q0:Bx2 W (w.heap.size+1+1) (.slice none 0 0) (.slice none 0 0):=by
  rw [<- hW];simpa using Bx2.made ((w.alloc (.cells #[.slice a S.l.length c,.slice xa S.n d] 28)).alloc (.cells #[.slice none 0 0,.slice none 0 0] 28)) (.slice none 0 0) (.slice none 0 0) 28
 have zW:W.heap.size=w.heap.size+3:=by rw [<- hW];simp
 have H8:=h.lt;have HN:=hid (rdNextJ B rb f n x W (h.below (b0.mono hB)));rw [hk] at HN;have Gb:=hid A0;have Gf:=hid R0;have Ge:=hid Q0;have Hk:=hid b0;have Gh:=hid zW;have Hr:=hid hs;have Gg:=hid H8;have Hg:=hid hB;have d0:¬(k:Int)%8<4:=by omega
 obtain⟨B4,d1⟩:∃B4,((k:Int)%8==4)=B4:=⟨_,rfl⟩;have d2:B4=false ->((k:Int)%8==5)=true:=fun e=>by rw [<- d1] at e;simp at e ⊢;omega
 clear hk h hs H8 b0 A0 R0 Q0 zW hrep h8;go_enter Tryz.func70,Tryz.ntmps70;go_wp2_with fail;try rw [hW]
 clear hW;refine HN.out.mono ?_;rintro e w1 ⟨rfl,r1,g1⟩;have H4:=hid (H3.out B rb w1 (by have:=Hg.out;have:=Hk.out.size;have:=g1.size;omega) r1);have Gd:=hid g1;clear r1 g1 HN H3;go_wp2_with fail;refine H4.out.mono ?_;rintro e w2 ⟨pa,pc,rfl,p2,r2,g2⟩;have Hd:Hid (W.grownBy w2 (some rb)):=hid (grown_transJ Gd.out g2);have Hw:Hid (∀b,w.heap.size<=b ->∀k,some rb=some k ->k≠b):=hid (fun b hb k e=>by injection e with e;have:=Gg.out;have:=Hg.out;omega);have Hu:=hid (Gb.out.gr Hd.out (Hw.out _ zL));have H6:=hid (Gf.out.gr Hd.out (Hw.out _ (Nat.le_succ _)));have H5:=hid (Ge.out.gr Hd.out (Hw.out _ (by omega)));have Gl:=hid p2;have Gc:=hid r2;have H7:Hid (w.grownBy w2 (some rb)):=hid ⟨Hd.out.os.trans Hk.out.os,Hd.out.tape.trans Hk.out.tape,Hd.out.output.trans Hk.out.output,Nat.le_trans Hk.out.size Hd.out.size,fun k hk hne=>(Hd.out.block k (Nat.lt_of_lt_of_le hk Hk.out.size) hne).trans (Hk.out.block k hk)⟩;have Hc:Hid (w.heap.size+3<=w2.heap.size/\ w1.heap.size<=w2.heap.size):=hid (by have:=Hd.out.size;have:=Gh.out;have:=g2.size;omega);have k0:=Hu.out.c0;have k1:=Hu.out.c1;have b3:Below w2.heap.size w2 ((w2.alloc (.cells #[.slice a S.l.length c,.slice xa S.n d] 28)).alloc (.cells #[.slice none 0 0,.slice none 0 0] 28)):=below2 _ _ _;have Hj:Hid (AcS w ((w2.alloc (.cells #[.slice a S.l.length c,.slice xa S.n d] 28)).alloc (.cells #[.slice none 0 0,.slice none 0 0] 28)) B rb f n (rx n (rx n x)) (w2.heap.size+2) w.heap.size w2.heap.size (.slice a S.l.length c) (.slice xa S.n d) (.slice none 0 0) (.slice none 0 0)):=hid (by
  have z2:=Hc.out;refine⟨Hu.out.below b3 Hu.out.lt,H6.out.below b3 H6.out.lt,H5.out.below b3 H5.out.lt,(Bx2.made w2 _ _ _).allocs _,?_,Gc.out.below (b3.mono (by have:=Hg.out;omega)),grownBelow H7.out b3 (by omega),rfl,by omega,by omega,by simp,Hg.out⟩;simpa using Bx2.made (w2.alloc (.cells #[.slice a S.l.length c,.slice xa S.n d] 28)) (.slice none 0 0) (.slice none 0 0) 28)
 have Hh:=hid (p2.below b3);have Ho:Hid (SNc ((w2.alloc (.cells #[.slice a S.l.length c,.slice xa S.n d] 28)).alloc (.cells #[.slice none 0 0,.slice none 0 0] 28)) lo a xa S):=hid (Hr.out.gr (grownBelow H7.out b3 (by have:=Hc.out;omega)) Hl.out.2);have H9:=Hj.out.s0.c0;have Ga:=Hj.out.s0.c1;clear p2 r2 g2 H4 b3;cases B4 with
 | true=>
  clear d2;go_wp2_with fail;obtain⟨W3,He⟩:∃W3,((w2.alloc (.cells #[.slice a S.l.length c,.slice xa S.n d] 28)).alloc (.cells #[.slice none 0 0,.slice none 0 0] 28))=W3:=⟨_,rfl⟩;have Hz:Hid (W3.heap.size=w2.heap.size+2):=hid (by rw [<- He];simp);rw [He] at Hj Hh Ho;clear H9 Ga;try rw [He]
  clear He;refine(Hv.out W3 a xa pa c d pc Ho.out.at Hh.out.cap Hh.out.at).mono ?_;rintro e w4 ⟨a5,c5,x5,d5,a6,c6,x6,d6,rfl,ox,oy,b4⟩;rw [Hz.out] at ox oy b4;have Hx:=hid ox;have Hy:=hid oy;have Hb:=hid (Hj.out.below b4);clear ox oy b4 Hj Hh Ho Hv k0 k1;have t0:=Hb.out.t1.c0;have t1:=Hb.out.t1.c1;have tf:=Hb.out.t1.f;have TF:=(Hb.out.fill (.slice a5 X.l.length c5) (.slice x5 X.n d5) (.slice a6 Y.l.length c6) (.slice x6 Y.n d6)).1;have u0:=TF.c0;have u1:=TF.c1;have uf:=TF.f;clear TF;obtain⟨_,w5,Hf,f0,f1,f2,f3,f4,f5,f6⟩:=Hb.out.fill (.slice a5 X.l.length c5) (.slice x5 X.n d5) (.slice a6 Y.l.length c6) (.slice x6 Y.n d6);have Hs:Hid (SNc w5 (w2.heap.size+2) a5 x5 X):=hid (by rw [<- Hf];exact snc4 (r1:=w2.heap.size) (r2:=w2.heap.size+1) Hx.out zL (by omega) (by omega) _ _ _ _);have Ht:Hid (SNc w5 (w2.heap.size+2) a6 x6 Y):=hid (by rw [<- Hf];exact snc4 (r1:=w2.heap.size) (r2:=w2.heap.size+1) Hy.out zL (by omega) (by omega) _ _ _ _);have Hp:=hid f5;have Hq:=hid f6;by_cases hC:C=0
  ·subst hC;have HE:=hid (Hn.out rfl);clear Hn Hi;have Ha:=hid (twoB f1 f2 (show w.heap.size+1≠w.heap.size+1+1 by omega) (.slice a5 X.l.length c5) (.slice x5 X.n d5) (.slice a6 Y.l.length c6) (.slice x6 Y.n d6));have o0:=f1.c0;have o1:=f1.c1;have of:=f1.f;have i0:=f3.c0;have i1:=f3.c1;have i2:=f4.c0;have i3:=f4.c1;have Hm:=hid Ha.out.1;have Gi:¬w.heap.size=w2.heap.size:=by have:=Hc.out;omega
   have Gj:¬w.heap.size+1=w2.heap.size:=by have:=Hc.out;omega
   have Gk:¬w.heap.size+1+1=w2.heap.size:=by have:=Hc.out;omega
   clear f0 f1 f2 f3 f4 f5 f6;go_wp2_with fail;try rw [Hf]
   clear Hf;have q0:=Hm.out.c0;have q1:=Hm.out.c1;have qf:=Hm.out.f;go_region;try go_wp2_with fail
   all_goals
    obtain⟨X1,X2⟩:=Ha.out.2
    refine zF (v:=.tuple #[.agg #[.slice a5 X.l.length c5,.slice x5 X.n d5],.agg #[.slice a6 Y.l.length c6,.slice x6 Y.n d6]]) (by simp [results,Tryz.results70,go_sem,X1.c0,X1.c1,X2.c0,X2.c1]) ?_
    rw [HE.out.1,HE.out.2]
    have z2:=Hc.out
    have z5:=Hg.out
    have z6:=Hl.out.1
    obtain⟨E1,E2⟩:=act_end Hp.out Hq.out rfl z5 (.slice a5 X.l.length c5) (.slice x5 X.n d5) (.slice a6 Y.l.length c6) (.slice x6 Y.n d6)
    first
     | exact⟨a5,c5,x5,d5,a6,c6,x6,d6,rfl,(snc4 (r1:=w.heap.size+1) (r2:=w.heap.size+1+1) Hs.out (by omega) (by omega) (by omega) _ _ _ _).drew,(snc4 (r1:=w.heap.size+1) (r2:=w.heap.size+1+1) Ht.out (by omega) (by omega) (by omega) _ _ _ _).drew,E1.below zI.drew,⟨E2.os,E2.tape,E2.output,E2.size,E2.block⟩⟩
     | exact⟨a5,c5,x5,d5,a6,c6,x6,⟨d6,rfl⟩,(snc4 (r1:=w.heap.size+1) (r2:=w.heap.size+1+1) Hs.out (by omega) (by omega) (by omega) _ _ _ _).drew,(snc4 (r1:=w.heap.size+1) (r2:=w.heap.size+1+1) Ht.out (by omega) (by omega) (by omega) _ _ _ _).drew,E1.below zI.drew,⟨E2.os,E2.tape,E2.output,E2.size,E2.block⟩⟩
  ·have Ha:=hid (twoB f1 f2 (show w.heap.size+1≠w.heap.size+1+1 by omega) (.slice a S.l.length c) (.slice xa S.n d) (.slice none 0 0) (.slice none 0 0));have o0:=f1.c0;have o1:=f1.c1;have of:=f1.f;have i0:=f0.c0;have i1:=f0.c1;have q0:=Ha.out.1.c0;have q1:=Ha.out.1.c1;have qf:=Ha.out.1.f;clear f0 f1 f2 f3 f4 f5 f6;go_wp2_with fail;obtain⟨X1,X2⟩:=Ha.out.2;refine zF (v:=.tuple #[.agg #[.slice a S.l.length c,.slice xa S.n d],.agg #[.slice none 0 0,.slice none 0 0]]) (by simp [results,Tryz.results70,go_sem,X1.c0,X1.c1,X2.c0,X2.c1]) ?_;rw [(Hi.out hC).1,(Hi.out hC).2];have z5:=Hg.out;obtain⟨E1,E2⟩:=act_end Hp.out Hq.out rfl z5 (.slice a S.l.length c) (.slice xa S.n d) (.slice none 0 0) (.slice none 0 0);first
    | exact⟨a,c,xa,d,none,0,none,0,rfl,Hr.out.gr E2 Hl.out.2,SNc.mt _ _ _ _,E1,E2⟩
    | exact⟨a,c,xa,d,none,0,none,⟨0,rfl⟩,Hr.out.gr E2 Hl.out.2,SNc.mt _ _ _ _,E1,E2⟩
 | false=>
  have d3:=d2 rfl;clear d2;go_wp2_with fail;obtain⟨W3,He⟩:∃W3,((w2.alloc (.cells #[.slice a S.l.length c,.slice xa S.n d] 28)).alloc (.cells #[.slice none 0 0,.slice none 0 0] 28))=W3:=⟨_,rfl⟩;have Hz:Hid (W3.heap.size=w2.heap.size+2):=hid (by rw [<- He];simp);rw [He] at Hj Hh Ho;clear H9 Ga;try rw [He]
  clear He;refine(Hv.out W3 a xa pa c d pc Ho.out.at Hh.out.cap Hh.out.at).mono ?_;rintro e w4 ⟨a5,c5,x5,d5,a6,c6,x6,d6,rfl,ox,oy,b4⟩;rw [Hz.out] at ox oy b4;have Hx:=hid ox;have Hy:=hid oy;have Hb:=hid (Hj.out.below b4);clear ox oy b4 Hj Hh Ho Hv k0 k1;have t0:=Hb.out.t1.c0;have t1:=Hb.out.t1.c1;have tf:=Hb.out.t1.f;have TF:=(Hb.out.fill (.slice a5 X.l.length c5) (.slice x5 X.n d5) (.slice a6 Y.l.length c6) (.slice x6 Y.n d6)).1;have u0:=TF.c0;have u1:=TF.c1;have uf:=TF.f;clear TF;obtain⟨_,w5,Hf,f0,f1,f2,f3,f4,f5,f6⟩:=Hb.out.fill (.slice a5 X.l.length c5) (.slice x5 X.n d5) (.slice a6 Y.l.length c6) (.slice x6 Y.n d6);have Hs:Hid (SNc w5 (w2.heap.size+2) a5 x5 X):=hid (by rw [<- Hf];exact snc4 (r1:=w2.heap.size) (r2:=w2.heap.size+1) Hx.out zL (by omega) (by omega) _ _ _ _);have Ht:Hid (SNc w5 (w2.heap.size+2) a6 x6 Y):=hid (by rw [<- Hf];exact snc4 (r1:=w2.heap.size) (r2:=w2.heap.size+1) Hy.out zL (by omega) (by omega) _ _ _ _);have Hp:=hid f5;have Hq:=hid f6;by_cases hC:C=0
  ·subst hC;have HE:=hid (Hn.out rfl);clear Hn Hi;have Ha:=hid (twoB f1 f2 (show w.heap.size+1≠w.heap.size+1+1 by omega) (.slice a5 X.l.length c5) (.slice x5 X.n d5) (.slice a6 Y.l.length c6) (.slice x6 Y.n d6));have o0:=f1.c0;have o1:=f1.c1;have of:=f1.f;have i0:=f3.c0;have i1:=f3.c1;have i2:=f4.c0;have i3:=f4.c1;have Hm:=hid Ha.out.1;have Gi:¬w.heap.size=w2.heap.size:=by have:=Hc.out;omega
   have Gj:¬w.heap.size+1=w2.heap.size:=by have:=Hc.out;omega
   have Gk:¬w.heap.size+1+1=w2.heap.size:=by have:=Hc.out;omega
   clear f0 f1 f2 f3 f4 f5 f6;go_wp2_with fail;try rw [Hf]
   clear Hf;have q0:=Hm.out.c0;have q1:=Hm.out.c1;have qf:=Hm.out.f;go_region;try go_wp2_with fail
   all_goals
    obtain⟨X1,X2⟩:=Ha.out.2
    refine zF (v:=.tuple #[.agg #[.slice a5 X.l.length c5,.slice x5 X.n d5],.agg #[.slice a6 Y.l.length c6,.slice x6 Y.n d6]]) (by simp [results,Tryz.results70,go_sem,X1.c0,X1.c1,X2.c0,X2.c1]) ?_
    rw [HE.out.1,HE.out.2]
    have z2:=Hc.out
    have z5:=Hg.out
    have z6:=Hl.out.1
    obtain⟨E1,E2⟩:=act_end Hp.out Hq.out rfl z5 (.slice a5 X.l.length c5) (.slice x5 X.n d5) (.slice a6 Y.l.length c6) (.slice x6 Y.n d6)
    first
     | exact⟨a5,c5,x5,d5,a6,c6,x6,d6,rfl,(snc4 (r1:=w.heap.size+1) (r2:=w.heap.size+1+1) Hs.out (by omega) (by omega) (by omega) _ _ _ _).drew,(snc4 (r1:=w.heap.size+1) (r2:=w.heap.size+1+1) Ht.out (by omega) (by omega) (by omega) _ _ _ _).drew,E1.below zI.drew,⟨E2.os,E2.tape,E2.output,E2.size,E2.block⟩⟩
     | exact⟨a5,c5,x5,d5,a6,c6,x6,⟨d6,rfl⟩,(snc4 (r1:=w.heap.size+1) (r2:=w.heap.size+1+1) Hs.out (by omega) (by omega) (by omega) _ _ _ _).drew,(snc4 (r1:=w.heap.size+1) (r2:=w.heap.size+1+1) Ht.out (by omega) (by omega) (by omega) _ _ _ _).drew,E1.below zI.drew,⟨E2.os,E2.tape,E2.output,E2.size,E2.block⟩⟩
  ·have Ha:=hid (twoB f1 f2 (show w.heap.size+1≠w.heap.size+1+1 by omega) (.slice a S.l.length c) (.slice xa S.n d) (.slice none 0 0) (.slice none 0 0));have o0:=f1.c0;have o1:=f1.c1;have of:=f1.f;have i0:=f0.c0;have i1:=f0.c1;have q0:=Ha.out.1.c0;have q1:=Ha.out.1.c1;have qf:=Ha.out.1.f;clear f0 f1 f2 f3 f4 f5 f6;go_wp2_with fail;obtain⟨X1,X2⟩:=Ha.out.2;refine zF (v:=.tuple #[.agg #[.slice a S.l.length c,.slice xa S.n d],.agg #[.slice none 0 0,.slice none 0 0]]) (by simp [results,Tryz.results70,go_sem,X1.c0,X1.c1,X2.c0,X2.c1]) ?_;rw [(Hi.out hC).1,(Hi.out hC).2];have z5:=Hg.out;obtain⟨E1,E2⟩:=act_end Hp.out Hq.out rfl z5 (.slice a S.l.length c) (.slice xa S.n d) (.slice none 0 0) (.slice none 0 0);first
    | exact⟨a,c,xa,d,none,0,none,0,rfl,Hr.out.gr E2 Hl.out.2,SNc.mt _ _ _ _,E1,E2⟩
    | exact⟨a,c,xa,d,none,0,none,⟨0,rfl⟩,Hr.out.gr E2 Hl.out.2,SNc.mt _ _ _ _,E1,E2⟩
theorem actW (f:Nat ->Int)(n x:Nat)(S:Sx)(rep k:Nat)(hk:rk f n x=k)(h8:k%8<4)(hS:Dr S)(hrep:rep<8):∃S1 S2 x',AcP f n x S rep S1 S2 x':=by
 obtain⟨p,G0,hp⟩:=pathJ f n (rx n x);obtain⟨v,G1,hv⟩:=valueJ f n (rx n (rx n x));obtain⟨X,hX⟩:∃X,seX S rep p false true v=X:=⟨_,rfl⟩;obtain⟨Y,hY⟩:∃Y,seY S rep p false true v=Y:=⟨_,rfl⟩;obtain⟨C,hC⟩:∃C,seC S rep p false true v=C:=⟨_,rfl⟩;have Gf:Hid (C=0 ->Dr X/\ Dr Y):=hid (by rw [<- hX,<- hY,<- hC];exact dr_se hS.vd (fun h=>by cases h));have H5:Hid (∀(w:World) (a xa pa:Option Addr) (c d pc:Nat),(LCap w a S.l/\ RSeg w xa S.n S.R S.F S.T) ->(p.length<=pc/\ pc<=9223372036854775807) ->SSeg w pa p ->Calls Tryz.prog 5 #[.agg #[.slice a S.l.length c,.slice xa S.n d],.int .i64 (rep:Int),.slice pa p.length pc,.string v] w (ChP w X Y C)):=hid (fun w a xa pa c d pc h hpc hseg=>by
  rw [<- hX,<- hY,<- hC];exact specWriteReg a c xa d pa pc S rep p v w (vd_sm hS.vd) hS.t h.1 h.2 (by omega) hpc hseg (by omega))
 obtain⟨S1,Gd⟩:∃S1,(if C=0 then X else S)=S1:=⟨_,rfl⟩;obtain⟨S2,Ge⟩:∃S2,(if C=0 then Y else Sx.mt)=S2:=⟨_,rfl⟩;have Hs:Hid (C=0 ->S1=X/\ S2=Y):=hid (fun e=>⟨by rw [<- Gd,if_pos e],by rw [<- Ge,if_pos e]⟩);have Hl:Hid (C≠0 ->S1=S/\ S2=Sx.mt):=hid (fun e=>⟨by rw [<- Gd,if_neg e],by rw [<- Ge,if_neg e]⟩);refine⟨S1,S2,rx n (rx n (rx n x)),?_,fun B lo rb a xa c d w hBl hlo h hs=> ?_⟩
 ·by_cases e:C=0
  ·rw [(Hs.out e).1,(Hs.out e).2];exact Gf.out e
  ·rw [(Hl.out e).1,(Hl.out e).2];exact⟨hS,Dr.mt⟩
 have hB:B<=w.heap.size:=Nat.le_trans hBl hlo;have Hj:Hid (lo<=w.heap.size/\ rb<lo):=hid ⟨hlo,Nat.lt_of_lt_of_le h.lt.2 hBl⟩;clear hBl hlo;have Gg:=hid hp;have Gk:=hid hv;clear hX hY hC Gd Ge Gf hp hv;obtain⟨W,hW⟩:∃W,((w.alloc (.cells #[.slice a S.l.length c,.slice xa S.n d] 28)).alloc (.cells #[.slice none 0 0,.slice none 0 0] 28)).alloc (.cells #[.slice none 0 0,.slice none 0 0] 28)=W:=⟨_,rfl⟩;have b0:Below w.heap.size w W:=by rw [<- hW];exact(below2 _ _ _).alloc (by simp;omega) _
 have A0:Bx2 W w.heap.size (.slice a S.l.length c) (.slice xa S.n d):=by rw [<- hW];exact((Bx2.made w _ _ _).allocs _).allocs _
 have R0:Bx2 W (w.heap.size+1) (.slice none 0 0) (.slice none 0 0):=by
  rw [<- hW];have:=Bx2.made (w.alloc (.cells #[.slice a S.l.length c,.slice xa S.n d] 28)) (.slice none 0 0) (.slice none 0 0) 28;exact(by simpa using this:Bx2 _ (w.heap.size+1) _ _).allocs _
 have Q0:Bx2 W (w.heap.size+1+1) (.slice none 0 0) (.slice none 0 0):=by
  rw [<- hW];simpa using Bx2.made ((w.alloc (.cells #[.slice a S.l.length c,.slice xa S.n d] 28)).alloc (.cells #[.slice none 0 0,.slice none 0 0] 28)) (.slice none 0 0) (.slice none 0 0) 28
 have zW:W.heap.size=w.heap.size+3:=by rw [<- hW];simp
 have Gm:=h.lt;have HN:=hid (rdNextJ B rb f n x W (h.below (b0.mono hB)));rw [hk] at HN;have Gn:=hid A0;have Gq:=hid R0;have Gp:=hid Q0;have Hf:=hid b0;have Gs:=hid zW;have H1:=hid hs;have Ga:=hid Gm;have Hg:=hid hB;have d0:(k:Int)%8<4:=by omega
 clear hk h hs Gm b0 A0 R0 Q0 zW hrep h8;go_enter Tryz.func70,Tryz.ntmps70;go_wp2_with fail;try rw [hW]
 clear hW;refine HN.out.mono ?_;rintro e w1 ⟨rfl,r1,g1⟩;have Gh:=hid (Gg.out B rb w1 (by have:=Hg.out;have:=Hf.out.size;have:=g1.size;omega) r1);have H8:=hid g1;clear r1 g1 HN Gg;go_wp2_with fail;refine Gh.out.mono ?_;rintro e w2 ⟨pa,pc,rfl,p2,r2,g2⟩;have Hi:Hid (W.grownBy w2 (some rb)):=hid (grown_transJ H8.out g2);have H9:Hid (∀b,w.heap.size<=b ->∀k,some rb=some k ->k≠b):=hid (fun b hb k e=>by injection e with e;have:=Ga.out;have:=Hg.out;omega);have H4:=hid (Gn.out.gr Hi.out (H9.out _ zL));have Gj:=hid (Gq.out.gr Hi.out (H9.out _ (Nat.le_succ _)));have Gi:=hid (Gp.out.gr Hi.out (H9.out _ (by omega)));have Gz:=hid p2;have Go:=hid r2;have Gl:Hid (w.grownBy w2 (some rb)):=hid ⟨Hi.out.os.trans Hf.out.os,Hi.out.tape.trans Hf.out.tape,Hi.out.output.trans Hf.out.output,Nat.le_trans Hf.out.size Hi.out.size,fun k hk hne=>(Hi.out.block k (Nat.lt_of_lt_of_le hk Hf.out.size) hne).trans (Hf.out.block k hk)⟩;have Hc:Hid (w.heap.size+3<=w2.heap.size/\ w1.heap.size<=w2.heap.size):=hid (by have:=Hi.out.size;have:=Gs.out;have:=g2.size;omega);have k0:=H4.out.c0;have k1:=H4.out.c1;have b3:Below w2.heap.size w2 ((w2.alloc (.cells #[.slice a S.l.length c,.slice xa S.n d] 28)).alloc (.cells #[.slice none 0 0,.slice none 0 0] 28)):=below2 _ _ _;have Ht:Hid (AcS w ((w2.alloc (.cells #[.slice a S.l.length c,.slice xa S.n d] 28)).alloc (.cells #[.slice none 0 0,.slice none 0 0] 28)) B rb f n (rx n (rx n x)) (w2.heap.size+2) w.heap.size w2.heap.size (.slice a S.l.length c) (.slice xa S.n d) (.slice none 0 0) (.slice none 0 0)):=hid (by
  have z2:=Hc.out;refine⟨H4.out.below b3 H4.out.lt,Gj.out.below b3 Gj.out.lt,Gi.out.below b3 Gi.out.lt,(Bx2.made w2 _ _ _).allocs _,?_,Go.out.below (b3.mono (by have:=Hg.out;omega)),grownBelow Gl.out b3 (by omega),rfl,by omega,by omega,by simp,Hg.out⟩;simpa using Bx2.made (w2.alloc (.cells #[.slice a S.l.length c,.slice xa S.n d] 28)) (.slice none 0 0) (.slice none 0 0) 28)
 have Hx:=hid (p2.below b3);have H0:Hid (SNc ((w2.alloc (.cells #[.slice a S.l.length c,.slice xa S.n d] 28)).alloc (.cells #[.slice none 0 0,.slice none 0 0] 28)) lo a xa S):=hid (H1.out.gr (grownBelow Gl.out b3 (by have:=Hc.out;omega)) Hj.out.2);have Gx:=Ht.out.s0.c0;have Gy:=Ht.out.s0.c1;clear p2 r2 g2 Gh b3;go_wp2_with fail;obtain⟨W3,H7⟩:∃W3,((w2.alloc (.cells #[.slice a S.l.length c,.slice xa S.n d] 28)).alloc (.cells #[.slice none 0 0,.slice none 0 0] 28))=W3:=⟨_,rfl⟩;have Gr:Hid (W3.heap.size=w2.heap.size+2):=hid (by rw [<- H7];simp);rw [H7] at Ht Hx H0;clear Gx Gy;try rw [H7]
 clear H7;have Hd:Hid (∀w',Bx2 w' w.heap.size (.slice a S.l.length c) (.slice xa S.n d) ->(w'.cell? ⟨w.heap.size,0,none⟩=some (.slice a S.l.length c)/\ w'.cell? ⟨w.heap.size,1,none⟩=some (.slice xa S.n d))):=hid (fun w' b=>⟨b.c0,b.c1⟩);have Hp:=hid (Ht.out.below ((Below.refl (w2.heap.size+2) W3).drew));have H6:=hid (Gk.out B rb W3.drew (by have h1:=Hg.out;have h2:=Hc.out;have h3:=Gr.out;show B<=W3.heap.size;omega) Hp.out.rd);clear k0 k1 Gk;refine zR (S:=fun w'=>w'.cell? ⟨w.heap.size,0,none⟩=some (.slice a S.l.length c)/\ w'.cell? ⟨w.heap.size,1,none⟩=some (.slice xa S.n d)) (Hd.out _ Hp.out.s0) (fun qh=> ?_);refine tZ 1 24 ?_;refine tZ 2 25 ?_;refine tZ 3 26 ?_;refine ready2t (i:=0) (j:=4) (d:=some 23) (d':=some 27) (by kernel_rfl) (by kernel_rfl) (by kernel_rfl) ?_ ?_
 ·
  intro o ho Gw K hK;simp only [gZa,gZb,gZc,gZd] at ho;subst ho;go_simp;refine hK.out _ _ (Hd.out _ Hp.out.s0) (fun qh=> ?_);clear hK K;try simp only [zP]
  refine cZ 4 ?_;intro K hK;go_simp;refine H6.out.mono ?_;rintro e w7 ⟨rfl,r7,g7⟩;have He:=hid (Hp.out.gro g7 r7);have Hz:Hid (SNc w7 lo a xa S):=hid (SNc.gr (H0.out.drew) g7 Hj.out.2);have Hm:Hid (PtN w7 w1.heap.size pa pc p):=hid (PtN.gr (Hx.out.below (zI.drew)) g7 (by have h1:=Ga.out;have h2:=Hf.out.size;have h3:=H8.out.size;omega));clear r7 g7 H6 Ht Hx H0 Hp;refine hK.out _ _ (Hd.out _ He.out.s0) (fun qh=> ?_);clear hK K;try simp only [zP]
  have Hu:=hid (H5.out w7 a xa pa c d pc Hz.out.at Hm.out.cap Hm.out.at);refine cZ 5 ?_;intro K hK;go_simp;refine Hu.out.mono ?_;rintro e w4 ⟨a5,c5,x5,d5,a6,c6,x6,d6,rfl,ox,oy,b4⟩;have z7:=He.out.z4;have Gb:Hid (SNc w4 (w2.heap.size+2) a5 x5 X):=hid (ox.move z7 zL (fun _ _ _=>rfl));have Gc:Hid (SNc w4 (w2.heap.size+2) a6 x6 Y):=hid (oy.move z7 zL (fun _ _ _=>rfl));have Ha:=hid (He.out.below (b4.mono z7));clear ox oy b4 Hz Hm Hu H5 He;refine hK.out _ _ (Hd.out _ Ha.out.s0) (fun qh=> ?_);clear hK K;try simp only [zP]
  refine tZ 6 22 ?_;refine tZ 7 29 ?_;refine tZ 8 30 ?_;refine tZ 9 31 ?_;have t0:=Ha.out.t1.c0;have t1:=Ha.out.t1.c1;have tf:=Ha.out.t1.f;have Hh:=hid (Ha.out.fill (.slice a5 X.l.length c5) (.slice x5 X.n d5) (.slice a6 Y.l.length c6) (.slice x6 Y.n d6));have Hq:w2.heap.size≠w.heap.size:=by have:=Hc.out;omega
  have Hr:w2.heap.size+1≠w.heap.size:=by have:=Hc.out;omega
  have Ho:=hid ((Ha.out.s0.setAt ⟨w2.heap.size,0,none⟩ (.slice a5 X.l.length c5) Hq).setAt ⟨w2.heap.size,1,none⟩ (.slice x5 X.n d5) Hq);have Hy:=hid ((Ho.out.setAt ⟨w2.heap.size+1,0,none⟩ (.slice a6 Y.l.length c6) Hr).setAt ⟨w2.heap.size+1,1,none⟩ (.slice x6 Y.n d6) Hr);clear Hq Hr;refine cZ 10 ?_;intro K hK;go_simp;refine hK.out _ _ (Hd.out _ Ho.out) (fun qh=> ?_);clear hK K;try simp only [zP]
  clear t0 t1 tf;have u0:=Hh.out.1.c0;have u1:=Hh.out.1.c1;have uf:=Hh.out.1.f;refine cZ 11 ?_;intro K hK;go_simp;refine hK.out _ _ (Hd.out _ Hy.out) (fun qh=> ?_);clear hK K;try simp only [zP]
  clear u0 u1 uf;refine tZ 12 12 ?_;refine zD ?_;clear qh Ho Hy Hh Hd;obtain⟨_,w5,Hk,f0,f1,f2,f3,f4,f5,f6⟩:=Ha.out.fill (.slice a5 X.l.length c5) (.slice x5 X.n d5) (.slice a6 Y.l.length c6) (.slice x6 Y.n d6);have H2:Hid (SNc w5 (w2.heap.size+2) a5 x5 X):=hid (by rw [<- Hk];exact snc4 (r1:=w2.heap.size) (r2:=w2.heap.size+1) Gb.out zL (by omega) (by omega) _ _ _ _);have H3:Hid (SNc w5 (w2.heap.size+2) a6 x6 Y):=hid (by rw [<- Hk];exact snc4 (r1:=w2.heap.size) (r2:=w2.heap.size+1) Gc.out zL (by omega) (by omega) _ _ _ _);have Hv:=hid f5;have Hw:=hid f6;by_cases hC:C=0
  ·subst hC;have HE:=hid (Hs.out rfl);clear Hs Hl;have Hb:=hid (twoB f1 f2 (show w.heap.size+1≠w.heap.size+1+1 by omega) (.slice a5 X.l.length c5) (.slice x5 X.n d5) (.slice a6 Y.l.length c6) (.slice x6 Y.n d6));have o0:=f1.c0;have o1:=f1.c1;have of:=f1.f;have i0:=f3.c0;have i1:=f3.c1;have i2:=f4.c0;have i3:=f4.c1;have Hn:=hid Hb.out.1;have Gt:¬w.heap.size=w2.heap.size:=by have:=Hc.out;omega
   have Gu:¬w.heap.size+1=w2.heap.size:=by have:=Hc.out;omega
   have Gv:¬w.heap.size+1+1=w2.heap.size:=by have:=Hc.out;omega
   clear f0 f1 f2 f3 f4 f5 f6;go_wp2_with fail;try rw [Hk]
   clear Hk;have q0:=Hn.out.c0;have q1:=Hn.out.c1;have qf:=Hn.out.f;go_region;try go_wp2_with fail
   all_goals
    obtain⟨X1,X2⟩:=Hb.out.2
    refine zF (v:=.tuple #[.agg #[.slice a5 X.l.length c5,.slice x5 X.n d5],.agg #[.slice a6 Y.l.length c6,.slice x6 Y.n d6]]) (by simp [results,Tryz.results70,go_sem,X1.c0,X1.c1,X2.c0,X2.c1]) ?_
    rw [HE.out.1,HE.out.2]
    have z2:=Hc.out
    have z5:=Hg.out
    have z6:=Hj.out.1
    obtain⟨E1,E2⟩:=act_end Hv.out Hw.out rfl z5 (.slice a5 X.l.length c5) (.slice x5 X.n d5) (.slice a6 Y.l.length c6) (.slice x6 Y.n d6)
    first
     | exact⟨a5,c5,x5,d5,a6,c6,x6,d6,rfl,(snc4 (r1:=w.heap.size+1) (r2:=w.heap.size+1+1) H2.out (by omega) (by omega) (by omega) _ _ _ _).drew,(snc4 (r1:=w.heap.size+1) (r2:=w.heap.size+1+1) H3.out (by omega) (by omega) (by omega) _ _ _ _).drew,E1.below zI.drew,⟨E2.os,E2.tape,E2.output,E2.size,E2.block⟩⟩
     | exact⟨a5,c5,x5,d5,a6,c6,x6,⟨d6,rfl⟩,(snc4 (r1:=w.heap.size+1) (r2:=w.heap.size+1+1) H2.out (by omega) (by omega) (by omega) _ _ _ _).drew,(snc4 (r1:=w.heap.size+1) (r2:=w.heap.size+1+1) H3.out (by omega) (by omega) (by omega) _ _ _ _).drew,E1.below zI.drew,⟨E2.os,E2.tape,E2.output,E2.size,E2.block⟩⟩
  ·have Hb:=hid (twoB f1 f2 (show w.heap.size+1≠w.heap.size+1+1 by omega) (.slice a S.l.length c) (.slice xa S.n d) (.slice none 0 0) (.slice none 0 0));have o0:=f1.c0;have o1:=f1.c1;have of:=f1.f;have i0:=f0.c0;have i1:=f0.c1;have q0:=Hb.out.1.c0;have q1:=Hb.out.1.c1;have qf:=Hb.out.1.f;clear f0 f1 f2 f3 f4 f5 f6;go_wp2_with fail;obtain⟨X1,X2⟩:=Hb.out.2;refine zF (v:=.tuple #[.agg #[.slice a S.l.length c,.slice xa S.n d],.agg #[.slice none 0 0,.slice none 0 0]]) (by simp [results,Tryz.results70,go_sem,X1.c0,X1.c1,X2.c0,X2.c1]) ?_;rw [(Hl.out hC).1,(Hl.out hC).2];have z5:=Hg.out;obtain⟨E1,E2⟩:=act_end Hv.out Hw.out rfl z5 (.slice a S.l.length c) (.slice xa S.n d) (.slice none 0 0) (.slice none 0 0);first
    | exact⟨a,c,xa,d,none,0,none,0,rfl,H1.out.gr E2 Hj.out.2,SNc.mt _ _ _ _,E1,E2⟩
    | exact⟨a,c,xa,d,none,0,none,⟨0,rfl⟩,H1.out.gr E2 Hj.out.2,SNc.mt _ _ _ _,E1,E2⟩
 ·
  intro o ho Gw K hK;simp only [gZa,gZb,gZc,gZd] at ho;subst ho;go_simp;refine H6.out.mono ?_;rintro e w7 ⟨rfl,r7,g7⟩;have He:=hid (Hp.out.gro g7 r7);have Hz:Hid (SNc w7 lo a xa S):=hid (SNc.gr (H0.out.drew) g7 Hj.out.2);have Hm:Hid (PtN w7 w1.heap.size pa pc p):=hid (PtN.gr (Hx.out.below (zI.drew)) g7 (by have h1:=Ga.out;have h2:=Hf.out.size;have h3:=H8.out.size;omega));clear r7 g7 H6 Ht Hx H0 Hp;refine hK.out _ _ (Hd.out _ He.out.s0) (fun qh=> ?_);clear hK K;try simp only [zP]
  have t0:=He.out.s0.c0;have t1:=He.out.s0.c1;refine cZ 0 ?_;intro K hK;go_simp;refine hK.out _ _ (Hd.out _ He.out.s0) (fun qh=> ?_);clear hK K;try simp only [zP]
  clear t0 t1;have Hu:=hid (H5.out w7 a xa pa c d pc Hz.out.at Hm.out.cap Hm.out.at);refine cZ 5 ?_;intro K hK;go_simp;refine Hu.out.mono ?_;rintro e w4 ⟨a5,c5,x5,d5,a6,c6,x6,d6,rfl,ox,oy,b4⟩;have z7:=He.out.z4;have Gb:Hid (SNc w4 (w2.heap.size+2) a5 x5 X):=hid (ox.move z7 zL (fun _ _ _=>rfl));have Gc:Hid (SNc w4 (w2.heap.size+2) a6 x6 Y):=hid (oy.move z7 zL (fun _ _ _=>rfl));have Ha:=hid (He.out.below (b4.mono z7));clear ox oy b4 Hz Hm Hu H5 He;refine hK.out _ _ (Hd.out _ Ha.out.s0) (fun qh=> ?_);clear hK K;try simp only [zP]
  refine tZ 6 22 ?_;refine tZ 7 29 ?_;refine tZ 8 30 ?_;refine tZ 9 31 ?_;have t0:=Ha.out.t1.c0;have t1:=Ha.out.t1.c1;have tf:=Ha.out.t1.f;have Hh:=hid (Ha.out.fill (.slice a5 X.l.length c5) (.slice x5 X.n d5) (.slice a6 Y.l.length c6) (.slice x6 Y.n d6));have Hq:w2.heap.size≠w.heap.size:=by have:=Hc.out;omega
  have Hr:w2.heap.size+1≠w.heap.size:=by have:=Hc.out;omega
  have Ho:=hid ((Ha.out.s0.setAt ⟨w2.heap.size,0,none⟩ (.slice a5 X.l.length c5) Hq).setAt ⟨w2.heap.size,1,none⟩ (.slice x5 X.n d5) Hq);have Hy:=hid ((Ho.out.setAt ⟨w2.heap.size+1,0,none⟩ (.slice a6 Y.l.length c6) Hr).setAt ⟨w2.heap.size+1,1,none⟩ (.slice x6 Y.n d6) Hr);clear Hq Hr;refine cZ 10 ?_;intro K hK;go_simp;refine hK.out _ _ (Hd.out _ Ho.out) (fun qh=> ?_);clear hK K;try simp only [zP]
  clear t0 t1 tf;have u0:=Hh.out.1.c0;have u1:=Hh.out.1.c1;have uf:=Hh.out.1.f;refine cZ 11 ?_;intro K hK;go_simp;refine hK.out _ _ (Hd.out _ Hy.out) (fun qh=> ?_);clear hK K;try simp only [zP]
  clear u0 u1 uf;refine tZ 12 12 ?_;refine zD ?_;clear qh Ho Hy Hh Hd;obtain⟨_,w5,Hk,f0,f1,f2,f3,f4,f5,f6⟩:=Ha.out.fill (.slice a5 X.l.length c5) (.slice x5 X.n d5) (.slice a6 Y.l.length c6) (.slice x6 Y.n d6);have H2:Hid (SNc w5 (w2.heap.size+2) a5 x5 X):=hid (by rw [<- Hk];exact snc4 (r1:=w2.heap.size) (r2:=w2.heap.size+1) Gb.out zL (by omega) (by omega) _ _ _ _);have H3:Hid (SNc w5 (w2.heap.size+2) a6 x6 Y):=hid (by rw [<- Hk];exact snc4 (r1:=w2.heap.size) (r2:=w2.heap.size+1) Gc.out zL (by omega) (by omega) _ _ _ _);have Hv:=hid f5;have Hw:=hid f6;by_cases hC:C=0
  ·subst hC;have HE:=hid (Hs.out rfl);clear Hs Hl;have Hb:=hid (twoB f1 f2 (show w.heap.size+1≠w.heap.size+1+1 by omega) (.slice a5 X.l.length c5) (.slice x5 X.n d5) (.slice a6 Y.l.length c6) (.slice x6 Y.n d6));have o0:=f1.c0;have o1:=f1.c1;have of:=f1.f;have i0:=f3.c0;have i1:=f3.c1;have i2:=f4.c0;have i3:=f4.c1;have Hn:=hid Hb.out.1;have Gt:¬w.heap.size=w2.heap.size:=by have:=Hc.out;omega
   have Gu:¬w.heap.size+1=w2.heap.size:=by have:=Hc.out;omega
   have Gv:¬w.heap.size+1+1=w2.heap.size:=by have:=Hc.out;omega
   clear f0 f1 f2 f3 f4 f5 f6;go_wp2_with fail;try rw [Hk]
   clear Hk;have q0:=Hn.out.c0;have q1:=Hn.out.c1;have qf:=Hn.out.f;go_region;try go_wp2_with fail
   all_goals
    obtain⟨X1,X2⟩:=Hb.out.2
    refine zF (v:=.tuple #[.agg #[.slice a5 X.l.length c5,.slice x5 X.n d5],.agg #[.slice a6 Y.l.length c6,.slice x6 Y.n d6]]) (by simp [results,Tryz.results70,go_sem,X1.c0,X1.c1,X2.c0,X2.c1]) ?_
    rw [HE.out.1,HE.out.2]
    have z2:=Hc.out
    have z5:=Hg.out
    have z6:=Hj.out.1
    obtain⟨E1,E2⟩:=act_end Hv.out Hw.out rfl z5 (.slice a5 X.l.length c5) (.slice x5 X.n d5) (.slice a6 Y.l.length c6) (.slice x6 Y.n d6)
    first
     | exact⟨a5,c5,x5,d5,a6,c6,x6,d6,rfl,(snc4 (r1:=w.heap.size+1) (r2:=w.heap.size+1+1) H2.out (by omega) (by omega) (by omega) _ _ _ _).drew,(snc4 (r1:=w.heap.size+1) (r2:=w.heap.size+1+1) H3.out (by omega) (by omega) (by omega) _ _ _ _).drew,E1.below zI.drew,⟨E2.os,E2.tape,E2.output,E2.size,E2.block⟩⟩
     | exact⟨a5,c5,x5,d5,a6,c6,x6,⟨d6,rfl⟩,(snc4 (r1:=w.heap.size+1) (r2:=w.heap.size+1+1) H2.out (by omega) (by omega) (by omega) _ _ _ _).drew,(snc4 (r1:=w.heap.size+1) (r2:=w.heap.size+1+1) H3.out (by omega) (by omega) (by omega) _ _ _ _).drew,E1.below zI.drew,⟨E2.os,E2.tape,E2.output,E2.size,E2.block⟩⟩
  ·have Hb:=hid (twoB f1 f2 (show w.heap.size+1≠w.heap.size+1+1 by omega) (.slice a S.l.length c) (.slice xa S.n d) (.slice none 0 0) (.slice none 0 0));have o0:=f1.c0;have o1:=f1.c1;have of:=f1.f;have i0:=f0.c0;have i1:=f0.c1;have q0:=Hb.out.1.c0;have q1:=Hb.out.1.c1;have qf:=Hb.out.1.f;clear f0 f1 f2 f3 f4 f5 f6;go_wp2_with fail;obtain⟨X1,X2⟩:=Hb.out.2;refine zF (v:=.tuple #[.agg #[.slice a S.l.length c,.slice xa S.n d],.agg #[.slice none 0 0,.slice none 0 0]]) (by simp [results,Tryz.results70,go_sem,X1.c0,X1.c1,X2.c0,X2.c1]) ?_;rw [(Hl.out hC).1,(Hl.out hC).2];have z5:=Hg.out;obtain⟨E1,E2⟩:=act_end Hv.out Hw.out rfl z5 (.slice a S.l.length c) (.slice xa S.n d) (.slice none 0 0) (.slice none 0 0);first
    | exact⟨a,c,xa,d,none,0,none,0,rfl,H1.out.gr E2 Hj.out.2,SNc.mt _ _ _ _,E1,E2⟩
    | exact⟨a,c,xa,d,none,0,none,⟨0,rfl⟩,H1.out.gr E2 Hj.out.2,SNc.mt _ _ _ _,E1,E2⟩
theorem actJ (f:Nat ->Int)(n x:Nat)(S:Sx)(rep:Nat)(hS:Dr S)(hrep:rep<8):∃S1 S2 x',AcP f n x S rep S1 S2 x':=by
 obtain⟨k,hk⟩:∃k,rk f n x=k:=⟨_,rfl⟩;by_cases h1:k%8<4
 ·exact actW f n x S rep k hk h1 hS hrep
 ·by_cases h2:k%8=6
  ·exact actF f n x S rep k hk h2 hS hrep
  ·by_cases h3:k%8=7
   ·exact actR f n x S rep k hk h3 hS hrep
   ·exact actT f n x S rep k hk (by omega) hS hrep
noncomputable def acR (f:Nat ->Int)(n x:Nat)(S:Sx)(rep:Nat):Sx×Sx×Nat:=by
 classical exact if h:∃q:Sx×Sx×Nat,AcP f n x S rep q.1 q.2.1 q.2.2 then Classical.choose h else(Sx.mt,Sx.mt,0)
theorem acR_ok (f:Nat ->Int)(n x:Nat){S:Sx}{rep:Nat}(hS:Dr S)(hrep:rep<8):AcP f n x S rep (acR f n x S rep).1 (acR f n x S rep).2.1 (acR f n x S rep).2.2:=by
 have h:∃q:Sx×Sx×Nat,AcP f n x S rep q.1 q.2.1 q.2.2:=by
  obtain⟨S1,S2,x',h⟩:=actJ f n x S rep hS hrep;exact⟨(S1,S2,x'),h⟩
 unfold acR;rw [dif_pos h];exact Classical.choose_spec h
def upA (A:Nat ->Sx)(j:Nat)(S:Sx):Nat ->Sx:=fun i=>if i=j then S else A i
theorem upA_at (A:Nat ->Sx)(j:Nat)(S:Sx):upA A j S j=S:=by unfold upA;rw [if_pos rfl]
theorem upA_ne {A:Nat ->Sx}{i j:Nat}{S:Sx}(h:i≠j):upA A j S i=A i:=by unfold upA;rw [if_neg h]
noncomputable def jnT (A:Nat ->Sx)(t:Nat)(T D:Sx):Nat ->Sx:=if jnB T D=true then upA A t (jnS T D) else A
structure DSt where
 A:Nat ->Sx
 L:Sx
 x:Nat
structure DSt.Ok (s:DSt):Prop where
 a:∀j,Dr (s.A j)
 l:Dr s.L
noncomputable def dstep (f:Nat ->Int)(n:Nat)(s:DSt):DSt:=
 if rk f n s.x%8=7 then⟨jnT s.A (rk f n s.x%3) (s.A (rk f n s.x%3)) (s.A (rk f n s.x/8%3)),s.L,rx n s.x⟩
 else if rk f n s.x%8=6 then⟨jnT (upA s.A (rk f n s.x%3) (acR f n (rx n s.x) (s.A (rk f n s.x%3)) (rk f n s.x%3)).1) (rk f n s.x/8%3) (upA s.A (rk f n s.x%3) (acR f n (rx n s.x) (s.A (rk f n s.x%3)) (rk f n s.x%3)).1 (rk f n s.x/8%3)) (acR f n (rx n s.x) (s.A (rk f n s.x%3)) (rk f n s.x%3)).2.1,(acR f n (rx n s.x) (s.A (rk f n s.x%3)) (rk f n s.x%3)).2.1,(acR f n (rx n s.x) (s.A (rk f n s.x%3)) (rk f n s.x%3)).2.2⟩
 else⟨upA s.A (rk f n s.x%3) (acR f n (rx n s.x) (s.A (rk f n s.x%3)) (rk f n s.x%3)).1,(acR f n (rx n s.x) (s.A (rk f n s.x%3)) (rk f n s.x%3)).2.1,(acR f n (rx n s.x) (s.A (rk f n s.x%3)) (rk f n s.x%3)).2.2⟩
theorem upA_dr {A:Nat ->Sx}{j:Nat}{S:Sx}(h:∀i,Dr (A i))(hS:Dr S):∀i,Dr (upA A j S i):=fun i=>by
 by_cases e:i=j
 ·rw [e,upA_at];exact hS
 ·rw [upA_ne e];exact h i
theorem jnT_dr {A:Nat ->Sx}{t:Nat}{T D:Sx}(h:∀i,Dr (A i))(hT:Dr T)(hD:Dr D):∀i,Dr (jnT A t T D i):=fun i=>by
 unfold jnT;cases hb:jnB T D with
 | false=>rw [if_neg (by simp)];exact h i
 | true=>rw [if_pos rfl];exact upA_dr h (hT.jn hD (jnB_iff.1 hb).2.2) i
theorem dstep_ok {f:Nat ->Int}{n:Nat}{s:DSt}(h:s.Ok):(dstep f n s).Ok:=by
 have hr:rk f n s.x%3<8:=by omega
 have ha:=(acR_ok f n (rx n s.x) (h.a (rk f n s.x%3)) hr).1;unfold dstep;split
 ·exact⟨jnT_dr h.a (h.a _) (h.a _),h.l⟩
 ·split
  ·exact⟨jnT_dr (upA_dr h.a ha.1) (upA_dr h.a ha.1 _) ha.2,ha.2⟩
  ·exact⟨upA_dr h.a ha.1,ha.2⟩
noncomputable def dseq (f:Nat ->Int)(n:Nat)(s:DSt):Nat ->DSt
 | 0=>s
 | i+1=>dstep f n (dseq f n s i)
theorem dseq_ok {f:Nat ->Int}{n:Nat}{s:DSt}(h:s.Ok):∀i,(dseq f n s i).Ok
 | 0=>h
 | i+1=>dstep_ok (dseq_ok h i)
theorem dst0 (x:Nat):(⟨fun _=>Sx.mt,Sx.mt,x⟩:DSt).Ok:=⟨fun _=>Dr.mt,Dr.mt⟩
theorem first_no (P:Nat ->Prop)(N:Nat):¬P N ->∃m,m<=N/\ (∀j,j<m ->P j)/\¬P m:=by
 induction N using Nat.strongRecOn with
 | _ N ih=>
  intro h;by_cases h0:∃j,j<N/\¬P j
  ·obtain⟨j,h1,h2⟩:=h0;obtain⟨m,m1,m2,m3⟩:=ih j h1 h2;exact⟨m,by omega,m2,m3⟩
  ·exact⟨N,Nat.le_refl _,fun j hj=>Classical.byContradiction fun hn=>h0 ⟨j,hj,hn⟩,h⟩
def RowC (w:World)(ga lo m:Nat)(A:Nat ->Sx):Prop:=∀j,j<m ->∃a c x d,w.cell? ⟨ga,j*2,none⟩=some (.slice a (A j).l.length c)/\ w.cell? ⟨ga,j*2+1,none⟩=some (.slice x (A j).n d)/\ SNc w lo a x (A j)
theorem RowC.move {w w1:World}{ga lo m:Nat}{A:Nat ->Sx}(h:RowC w ga lo m A)(he:w1.heap[ga]? =w.heap[ga]?)(hs:w.heap.size<=w1.heap.size)(hq:∀q,lo<=q ->q<w.heap.size ->w1.heap[q]? =w.heap[q]?):RowC w1 ga lo m A:=fun j hj=>by
 obtain⟨a,c,x,d,c0,c1,s⟩:=h j hj;exact⟨a,c,x,d,(World.cell?_of_block (a:=⟨ga,_,none⟩) he).trans c0,(World.cell?_of_block (a:=⟨ga,_,none⟩) he).trans c1,s.move zL hs hq⟩
theorem RowC.set {w:World}{ga lo m r:Nat}{A:Nat ->Sx}{a x:Option Addr}{c d:Nat}{S:Sx}(h:RowC w ga lo m A)(hg:ga<lo)(hr:r<m)(s:SNc w lo a x S):RowC ((w.setCell ⟨ga,r*2,none⟩ (.slice a S.l.length c)).setCell ⟨ga,r*2+1,none⟩ (.slice x S.n d)) ga lo m (upA A r S):=fun j hj=>by
 have mv:∀{a' x':Option Addr} {T:Sx},SNc w lo a' x' T ->SNc ((w.setCell ⟨ga,r*2,none⟩ (.slice a S.l.length c)).setCell ⟨ga,r*2+1,none⟩ (.slice x S.n d)) lo a' x' T:=fun h=>h.move zL (by simp [World.setCell]) (fun q h1 h2=>by rw [zH _ _ _ _ (by simp;omega),zH _ _ _ _ (by simp;omega)]);obtain⟨ra,rc,rx,rd,e0,e1,_⟩:=h r hr;by_cases e:j=r
 ·subst e;rw [upA_at];exact⟨a,c,x,d,(World.cell?_setCell_other _ _ _ _ (by simp)).trans (World.cell?_setCell_same _ _ _ e0),World.cell?_setCell_same _ _ _ ((World.cell?_setCell_other _ _ _ _ (by simp)).trans e1),mv s⟩
 ·rw [upA_ne e];obtain⟨a',c',x',d',c0,c1,s'⟩:=h j hj;exact⟨a',c',x',d',(World.cell?_setCell_other _ _ _ _ (by simp<;>omega)).trans ((World.cell?_setCell_other _ _ _ _ (by simp<;>omega)).trans c0),(World.cell?_setCell_other _ _ _ _ (by simp<;>omega)).trans ((World.cell?_setCell_other _ _ _ _ (by simp<;>omega)).trans c1),mv s'⟩
structure DrS (w wr:World)(B rb:Nat)(f:Nat ->Int)(n x ga:Nat)(A:Nat ->Sx)(L:Sx):Prop where
 row:RowC wr ga (ga+2) 3 A
 fz:∀i,wr.frozen? ⟨ga,i,none⟩=false
 ls:∃a c x d,Bx2 wr (ga+1) (.slice a L.l.length c) (.slice x L.n d)/\ SNc wr (ga+2) a x L
 r1:Bx2 wr w.heap.size (.slice none 0 0) (.slice none 0 0)
 r2:Bx2 wr (w.heap.size+1) (.slice none 0 0) (.slice none 0 0)
 rd:RdJ wr B rb f n x
 gr:w.grownBy wr (some rb)
 z1:w.heap.size+1<ga
 z3:ga+2<=wr.heap.size
 z4:rb<w.heap.size
 z5:B<=w.heap.size
section
variable {w wr w1 : World} {B rb n x ga : Nat} {f : Nat -> Int} {A : Nat -> Sx} {L : Sx}
theorem DrS.gro (h:DrS w wr B rb f n x ga A L){x':Nat}(hg:wr.grownBy w1 (some rb))(hr:RdJ w1 B rb f n x'):DrS w w1 B rb f n x' ga A L:=by
 have z1:=h.z1;have z3:=h.z3;have z4:=h.z4;have ne:∀b,w.heap.size<=b ->some b≠some rb:=fun b hb e=>by injection e with e;omega
 have bk:∀b,w.heap.size<=b ->b<wr.heap.size ->w1.heap[b]? =wr.heap[b]? :=fun b h1 h2=>hg.block b h2 (ne b h1);have ng:∀b,w.heap.size<=b ->∀k,some rb=some k ->k≠b:=fun b hb k e e2=>ne b hb (by rw [e,e2]);obtain⟨a,c,xx,d,b2,s2⟩:=h.ls;exact⟨h.row.move (bk ga (by omega) (by omega)) hg.size (fun q q1 q2=>bk q (by omega) q2),fun i=>(World.frozen?_of_block (a:=⟨ga,i,none⟩) (bk ga (by omega) (by omega))).trans (h.fz i),⟨a,c,xx,d,b2.gr hg (ng _ (by omega)),s2.gr hg (by omega)⟩,h.r1.gr hg (ng _ zL),h.r2.gr hg (ng _ (by omega)),hr,grown_transJ h.gr hg,h.z1,Nat.le_trans z3 hg.size,h.z4,h.z5⟩
theorem DrS.below (h:DrS w wr B rb f n x ga A L)(hb:Below wr.heap.size wr w1):DrS w w1 B rb f n x ga A L:=
 h.gro ⟨hb.os,hb.tape,hb.output,hb.size,fun k hk _=>hb.block k hk⟩ (h.rd.below (hb.mono (by have:=h.z3;have:=h.z1;have:=h.z5;omega)))
theorem DrS.at (h:DrS w wr B rb f n x ga A L){r:Nat}(hr:r<3):∃a c x d,wr.cell? ⟨ga,r*2,none⟩=some (.slice a (A r).l.length c)/\ wr.cell? ⟨ga,r*2+1,none⟩=some (.slice x (A r).n d)/\ SNc wr (ga+2) a x (A r):=h.row r hr
theorem DrS.setA (h:DrS w wr B rb f n x ga A L){r:Nat}(hr:r<3){a xx:Option Addr}{S:Sx}(s:SNc wr (ga+2) a xx S)(c d:Nat):DrS w ((wr.setCell ⟨ga,r*2,none⟩ (.slice a S.l.length c)).setCell ⟨ga,r*2+1,none⟩ (.slice xx S.n d)) B rb f n x ga (upA A r S) L:=by
 have z1:=h.z1;have z3:=h.z3;have z4:=h.z4;obtain⟨la,lc,lx,ld,b2,s2⟩:=h.ls;have e:∀q,ga≠q ->(((wr.setCell ⟨ga,r*2,none⟩ (.slice a S.l.length c)).setCell ⟨ga,r*2+1,none⟩ (.slice xx S.n d))).heap[q]? =wr.heap[q]? :=fun q hq=>by rw [zH _ _ _ _ (by simpa using Ne.symm hq),zH _ _ _ _ (by simpa using Ne.symm hq)]
 have hz:wr.heap.size=(((wr.setCell ⟨ga,r*2,none⟩ (.slice a S.l.length c)).setCell ⟨ga,r*2+1,none⟩ (.slice xx S.n d))).heap.size:=by simp [World.setCell]
 have Ha:Below ga wr ((wr.setCell ⟨ga,r*2,none⟩ (.slice a S.l.length c)).setCell ⟨ga,r*2+1,none⟩ (.slice xx S.n d)):=(zI.setCell (p:=⟨ga,r*2,none⟩) zL _).setCell (p:=⟨ga,r*2+1,none⟩) zL _;exact⟨h.row.set (by omega) hr s,fun i=>by rw [World.frozen?_setCell,World.frozen?_setCell];exact h.fz i,⟨la,lc,lx,ld,(b2.setAt _ _ (by simp)).setAt _ _ (by simp),s2.move zL (Nat.le_of_eq hz) (fun q q1 q2=>e q (by omega))⟩,(h.r1.setAt _ _ (by simp;omega)).setAt _ _ (by simp;omega),(h.r2.setAt _ _ (by simp;omega)).setAt _ _ (by simp;omega),h.rd.below (Ha.mono (by have:=h.z5;omega)),grownBelow h.gr Ha (by omega),h.z1,by rw [<- hz];exact z3,h.z4,h.z5⟩
theorem DrS.setL (h:DrS w wr B rb f n x ga A L){a xx:Option Addr}{S:Sx}(s:SNc wr (ga+2) a xx S)(c d:Nat):DrS w ((wr.setCell ⟨ga+1,0,none⟩ (.slice a S.l.length c)).setCell ⟨ga+1,1,none⟩ (.slice xx S.n d)) B rb f n x ga A S:=by
 have z1:=h.z1;have z3:=h.z3;have z4:=h.z4;obtain⟨la,lc,lx,ld,b2,s2⟩:=h.ls;have e:∀q,ga+1≠q ->(((wr.setCell ⟨ga+1,0,none⟩ (.slice a S.l.length c)).setCell ⟨ga+1,1,none⟩ (.slice xx S.n d))).heap[q]? =wr.heap[q]? :=fun q hq=>by rw [zH _ _ _ _ (by simpa using Ne.symm hq),zH _ _ _ _ (by simpa using Ne.symm hq)]
 have hz:wr.heap.size=(((wr.setCell ⟨ga+1,0,none⟩ (.slice a S.l.length c)).setCell ⟨ga+1,1,none⟩ (.slice xx S.n d))).heap.size:=by simp [World.setCell]
 have Ha:Below ga wr ((wr.setCell ⟨ga+1,0,none⟩ (.slice a S.l.length c)).setCell ⟨ga+1,1,none⟩ (.slice xx S.n d)):=(zI.setCell (p:=⟨ga+1,0,none⟩) (by simp) _).setCell (p:=⟨ga+1,1,none⟩) (by simp) _;exact⟨h.row.move (e ga (by omega)) (Nat.le_of_eq hz) (fun q q1 q2=>e q (by omega)),fun i=>by rw [World.frozen?_setCell,World.frozen?_setCell];exact h.fz i,⟨a,c,xx,d,b2.set _ _,s.move zL (Nat.le_of_eq hz) (fun q q1 q2=>e q (by omega))⟩,(h.r1.setAt _ _ (by simp;omega)).setAt _ _ (by simp;omega),(h.r2.setAt _ _ (by simp;omega)).setAt _ _ (by simp;omega),h.rd.below (Ha.mono (by have:=h.z5;omega)),grownBelow h.gr Ha (by omega),h.z1,by rw [<- hz];exact z3,h.z4,h.z5⟩
theorem DrS.box {U cur w5:World}{lo b:Nat}{ja jx:Option Addr}{J:Sx}(h:DrS w U B rb f n x ga A L)(hb:Below U.heap.size U cur)(hx:Bx2 cur b (.slice none 0 0) (.slice none 0 0))(hU:U.heap.size<=b)(sj:SNc w5 lo ja jx J)(hl:U.heap.size<=lo)(hs:w5.heap.size<=cur.heap.size)(hq:∀q,lo<=q ->q<w5.heap.size ->q≠b/\ cur.heap[q]? =w5.heap[q]?)(jc jd:Nat):
  Below U.heap.size U ((cur.setCell ⟨b,0,none⟩ (.slice ja J.l.length jc)).setCell ⟨b,1,none⟩ (.slice jx J.n jd))/\ DrS w ((cur.setCell ⟨b,0,none⟩ (.slice ja J.l.length jc)).setCell ⟨b,1,none⟩ (.slice jx J.n jd)) B rb f n x ga A L/\ Bx2 ((cur.setCell ⟨b,0,none⟩ (.slice ja J.l.length jc)).setCell ⟨b,1,none⟩ (.slice jx J.n jd)) b (.slice ja J.l.length jc) (.slice jx J.n jd)/\ SNc ((cur.setCell ⟨b,0,none⟩ (.slice ja J.l.length jc)).setCell ⟨b,1,none⟩ (.slice jx J.n jd)) (ga+2) ja jx J:=by
 have z3:=h.z3;have hB:Below U.heap.size U ((cur.setCell ⟨b,0,none⟩ (.slice ja J.l.length jc)).setCell ⟨b,1,none⟩ (.slice jx J.n jd)):=(hb.setCell (p:=⟨b,0,none⟩) hU _).setCell (p:=⟨b,1,none⟩) hU _;exact⟨hB,h.below hB,hx.set _ _,sj.move (by omega) (by simpa [World.setCell] using hs) (fun q h1 h2=>by
  obtain⟨q1,q2⟩:=hq q h1 h2;rw [zH _ _ _ _ (by simpa using q1),zH _ _ _ _ (by simpa using q1)];exact q2)⟩
end
theorem draw_end {w w2:World}{B rb n x ga:Nat}{f:Nat ->Int}{A:Nat ->Sx}{L:Sx}(h:DrS w w2 B rb f n x ga A L)(v0 v1 v2 v3:Value):RdJ ((((w2.setCell ⟨w.heap.size,0,none⟩ v0).setCell ⟨w.heap.size,1,none⟩ v1).setCell ⟨w.heap.size+1,0,none⟩ v2).setCell ⟨w.heap.size+1,1,none⟩ v3) B rb f n x/\ w.grownBy ((((w2.setCell ⟨w.heap.size,0,none⟩ v0).setCell ⟨w.heap.size,1,none⟩ v1).setCell ⟨w.heap.size+1,0,none⟩ v2).setCell ⟨w.heap.size+1,1,none⟩ v3) (some rb):=by
 have hb:Below w.heap.size w2 ((((w2.setCell ⟨w.heap.size,0,none⟩ v0).setCell ⟨w.heap.size,1,none⟩ v1).setCell ⟨w.heap.size+1,0,none⟩ v2).setCell ⟨w.heap.size+1,1,none⟩ v3):=below4 zI zL (Nat.le_succ _) _ _ _ _;exact⟨h.rd.below (hb.mono h.z5),grownBelow h.gr hb zL⟩
def DwP (f:Nat ->Int)(n x:Nat)(S1 S2:Sx)(x':Nat):Prop:=(Dr S1/\ Dr S2)/\∀(B rb:Nat) (w:World),B<=w.heap.size ->RdJ w B rb f n x ->
  Calls Tryz.prog 43 #[.pointer (some ⟨rb,0,none⟩)] w fun e w'=>∃a1 c1 x1 d1 a2 c2 x2 d2,e=.returned (.tuple #[.agg #[.slice a1 S1.l.length c1,.slice x1 S1.n d1],.agg #[.slice a2 S2.l.length c2,.slice x2 S2.n d2]])/\ SNc w' w.heap.size a1 x1 S1/\ SNc w' w.heap.size a2 x2 S2/\ RdJ w' B rb f n x'/\ w.grownBy w' (some rb)
theorem drawJ (f:Nat ->Int)(n x:Nat):∃S1 S2 x',DwP f n x S1 S2 x':=by
 obtain⟨k0,Kd⟩:∃k0,rk f n x=k0:=⟨_,rfl⟩;obtain⟨q0,K4⟩:∃q0,k0%12=q0:=⟨_,rfl⟩;obtain⟨N,hN⟩:∃N,3+q0=N:=⟨_,rfl⟩;obtain⟨D,hD⟩:∃D,dseq f n ⟨fun _=>Sx.mt,Sx.mt,rx n x⟩=D:=⟨_,rfl⟩;have Km:Hid (D 0=⟨fun _=>Sx.mt,Sx.mt,rx n x⟩):=hid (by rw [<- hD];rfl);have Kn:Hid (∀i,D (i+1)=dstep f n (D i)):=hid (fun i=>by rw [<- hD];rfl);have Ga:Hid (∀i,(D i).Ok):=hid (fun i=>by rw [<- hD];exact dseq_ok (dst0 _) i);obtain⟨m,Kh,Kf,Kg⟩:=first_no (fun i=>i<N/\ (i<3 \/0<n - (D i).x)) N (fun h=>absurd h.1 (Nat.lt_irrefl _));have Kp:=hid Kf;have Kq:=hid Kg;obtain⟨k',Kc⟩:∃k,rk f n (D m).x=k:=⟨_,rfl⟩;obtain⟨t1,Kj⟩:∃t,k'/5%3=t:=⟨_,rfl⟩;obtain⟨t2,Kk⟩:∃t,k'/16%3=t:=⟨_,rfl⟩;obtain⟨S2,Hk⟩:∃S2,(if k'%5=4 then(D m).L else(D m).A t2)=S2:=⟨_,rfl⟩;have G5:Hid (k'%5=4 ->S2=(D m).L):=hid (fun e=>by rw [<- Hk,if_pos e]);have G6:Hid (¬k'%5=4 ->S2=(D m).A t2):=hid (fun e=>by rw [<- Hk,if_neg e]);refine⟨(D m).A t1,S2,rx n (D m).x,⟨(Ga.out m).a t1,?_⟩,fun B rb w hB h=> ?_⟩
 ·by_cases e:k'%5=4
  ·rw [G5.out e];exact(Ga.out m).l
  ·rw [G6.out e];exact(Ga.out m).a t2
 obtain⟨W,hW⟩:∃W,(w.alloc (.cells #[.slice none 0 0,.slice none 0 0] 28)).alloc (.cells #[.slice none 0 0,.slice none 0 0] 28)=W:=⟨_,rfl⟩;have b0:Below w.heap.size w W:=by rw [<- hW];exact below2 _ _ _
 have A0:Bx2 W w.heap.size (.slice none 0 0) (.slice none 0 0):=by rw [<- hW];exact(Bx2.made w _ _ _).allocs _
 have R0:Bx2 W (w.heap.size+1) (.slice none 0 0) (.slice none 0 0):=by rw [<- hW];simpa using Bx2.made (w.alloc (.cells #[.slice none 0 0,.slice none 0 0] 28)) (.slice none 0 0) (.slice none 0 0) 28
 have zW:W.heap.size=w.heap.size+2:=by rw [<- hW];simp
 have Ki:=h.lt;have HN:=hid (rdNextJ B rb f n x W (h.below (b0.mono hB)));rw [Kd] at HN;have d0:(k0:Int)%12=(q0:Int):=by omega
 have d1:IntKind.i64.wrap (3+(q0:Int))=(N:Int):=by rw [show (3:Int)+(q0:Int)=(N:Int) by omega];exact wrapIn _ (by omega) (by omega)
 have Ks:Hid (N<=14):=hid (by omega);have Kl:=hid A0;have Kt:=hid R0;have H1:=hid b0;have Kw:=hid zW;have Ku:=hid (And.intro Ki hB);have Ko:=hid Kc;have HT:=hid (And.intro Kj Kk);have Kr:=hid Kh;clear Kd K4 hN hD Kf Kg Kc Kj Kk Hk h b0 A0 R0 zW Ki Kh;go_enter Tryz.func43,Tryz.ntmps43;go_wp2_with fail;try rw [hW]
 clear hW;refine HN.out.mono ?_;rintro e w1 ⟨rfl,r1,g1⟩;have b3:Below w1.heap.size w1 ((w1.alloc (.cells #[.slice none 0 0,.slice none 0 0,.slice none 0 0,.slice none 0 0,.slice none 0 0,.slice none 0 0] 28)).alloc (.cells #[.slice none 0 0,.slice none 0 0] 28)):=below2 _ _ _;have HI:Hid (DrS w ((w1.alloc (.cells #[.slice none 0 0,.slice none 0 0,.slice none 0 0,.slice none 0 0,.slice none 0 0,.slice none 0 0] 28)).alloc (.cells #[.slice none 0 0,.slice none 0 0] 28)) B rb f n (D 0).x w1.heap.size (D 0).A (D 0).L):=hid (by
  have z1:=Kw.out;have z2:=g1.size;have z3:=Ku.out;have z4:=H1.out.size;have ng:∀b,w.heap.size<=b ->∀k,some rb=some k ->k≠b:=fun b hb k e=>by injection e with e;omega
  rw [Km.out];refine⟨fun j hj=>⟨none,0,none,0,?_,?_,SNc.mt _ _ _ _⟩,fun i=> ?_,⟨none,0,none,0,?_,SNc.mt _ _ _ _⟩,(Kl.out.gr g1 (ng _ zL)).below b3 (by omega),(Kt.out.gr g1 (ng _ (by omega))).below b3 (by omega),r1.below (b3.mono (by omega)),?_,by omega,by simp,by omega,z3.2⟩
  ·show World.cell? _ ⟨w1.heap.size,j*2,none⟩=some (.slice none 0 0);match j,hj with
   | 0,_=>simp
   | 1,_=>simp
   | 2,_=>simp
  ·show World.cell? _ ⟨w1.heap.size,j*2+1,none⟩=some (.slice none 0 0);match j,hj with
   | 0,_=>simp
   | 1,_=>simp
   | 2,_=>simp
  ·simp
  ·simpa [Sx.mt] using Bx2.made (w1.alloc (.cells #[.slice none 0 0,.slice none 0 0,.slice none 0 0,.slice none 0 0,.slice none 0 0,.slice none 0 0] 28)) (.slice none 0 0) (.slice none 0 0) 28
  ·exact grownBelow ⟨g1.os.trans H1.out.os,g1.tape.trans H1.out.tape,g1.output.trans H1.out.output,by omega,fun k hk Hi=>(g1.block k (by omega) Hi).trans (H1.out.block k hk)⟩ b3 (by omega))
 clear r1 g1 HN b3;go_wp2_with fail;obtain⟨W3,Gu⟩:∃W3,((w1.alloc (.cells #[.slice none 0 0,.slice none 0 0,.slice none 0 0,.slice none 0 0,.slice none 0 0,.slice none 0 0] 28)).alloc (.cells #[.slice none 0 0,.slice none 0 0] 28))=W3:=⟨_,rfl⟩;rw [Gu] at HI;try rw [Gu]
 clear Gu;obtain⟨ga,Kb⟩:∃ga,w1.heap.size=ga:=⟨_,rfl⟩;rw [Kb] at HI ⊢;clear Kb d0 d1;go_loopw [7] (fun i wr=>∃j:Nat,j<=m/\ i=.int .i64 (j:Int)/\ Hid (DrS w wr B rb f n (D j).x ga (D j).A (D j).L)) (fun i _=>m - (intOf i).toNat);case atStart=>exact⟨0,Nat.zero_le _,rfl,HI⟩
 case round=>
  clear HI;obtain⟨j,hj,rfl,HS⟩:=hrel;obtain⟨s,hs⟩:∃s,D j=s:=⟨_,rfl⟩;rw [hs] at HS;have Gb:Hid s.Ok:=hid (by rw [<- hs];exact Ga.out j);have Go:Hid (D (j+1)=dstep f n s):=hid (by rw [Kn.out,hs]);have H3:Hid (j<m ->j<N/\ (j<3 \/0<n - s.x)):=hid (fun h=>by have:=Kp.out j h;rw [hs] at this;exact this);have H4:Hid (¬j<m ->¬(j<N/\ (j<3 \/0<n - s.x))):=hid (fun h=>by have e:j=m:=(by omega);have:=Kq.out;rw [<- e,hs] at this;exact this);have G4:=hid hs;obtain⟨A,L,y⟩:=s;dsimp only at HS H3 H4;clear hs;obtain⟨CB,Ka⟩:∃b,decide (j<m)=b:=⟨_,rfl⟩;have Hj:=hid Ka;clear Ka;go_upto_region 5 with fail;go_cut [37] from 26 to 101 (fun v wx=>v=.bool CB/\ Hid (DrS w wx B rb f n y ga A L));case first=>
   by_cases h1:j<N
   ·have i1:(j:Int)<(N:Int):=by omega
    by_cases h2:j<3
    ·have i2:(j:Int)<3:=by omega
     have HE:Hid (CB=true):=hid (by rw [<- Hj.out];exact decide_eq_true (Classical.byContradiction fun hn=>H4.out hn ⟨h1,.inl h2⟩));go_wp2_with fail;go_meet;exact⟨by rw [HE.out],HS⟩
    ·have i2:¬(j:Int)<3:=by omega
     have HL:=hid (rdLeftJ B rb f n y _ HS.out.rd);obtain⟨lf,Ke⟩:∃lf,n - y=lf:=⟨_,rfl⟩;rw [Ke] at HL H3 H4;clear Ke;go_wp2_with fail;refine HL.out.mono ?_;rintro e w5 ⟨rfl,r5,g5⟩;have Hz:=hid (HS.out.gro g5 r5);clear r5 g5 HL;by_cases h3:0<lf
     ·have i3:(0:Int)<(lf:Int):=by omega
      have HE:Hid (CB=true):=hid (by rw [<- Hj.out];exact decide_eq_true (Classical.byContradiction fun hn=>H4.out hn ⟨h1,.inr h3⟩));go_wp2_with fail;go_meet;exact⟨by rw [HE.out],Hz⟩
     ·have i3:¬(0:Int)<(lf:Int):=by omega
      have HE:Hid (CB=false):=hid (by rw [<- Hj.out];exact decide_eq_false (fun hn=>by rcases (H3.out hn).2 with e|e<;>omega));go_wp2_with fail;go_meet;exact⟨by rw [HE.out],Hz⟩
   ·have i1:¬(j:Int)<(N:Int):=by omega
    have HE:Hid (CB=false):=hid (by rw [<- Hj.out];exact decide_eq_false (fun hn=>h1 (H3.out hn).1));go_wp2_with fail;go_meet;exact⟨by rw [HE.out],HS⟩
  case rest=>
   obtain⟨rfl,Ha⟩:=hcut;clear HS H3 H4;obtain⟨k,hk⟩:∃k,rk f n y=k:=⟨_,rfl⟩;have HN:=hid (rdNextJ B rb f n y _ Ha.out.rd);rw [hk] at HN;have Hy:=hid hk;clear hk;cases CB with
   | false=>
    have Hl:j=m:=by have:=of_decide_eq_false Hj.out;omega
    have ek:k'=k:=by rw [<- Hy.out,<- Ko.out,<- Hl,G4.out]
    subst Hl;subst ek;have Kv:=HT.out;have Gg:k'<256:=by have:=rk_lt Ha.out.rd;rw [Hy.out] at this;exact this
    obtain⟨k5,K1⟩:∃k5,k'/5=k5:=⟨_,rfl⟩;obtain⟨H7,Gy⟩:∃H7,k'/16=H7:=⟨_,rfl⟩;have K6:IntKind.i64.wrap ((k':Int)/5)=(k5:Int):=by rw [show (k':Int)/5=(k5:Int) by omega];exact wrapIn _ (by omega) (by omega)
    have K5:Int.tmod (k5:Int) 3=(t1:Int):=by rw [Int.tmod_eq_emod_of_nonneg (by omega)];omega
    have Ky:IntKind.i64.wrap ((k':Int)/16)=(H7:Int):=by rw [show (k':Int)/16=(H7:Int) by omega];exact wrapIn _ (by omega) (by omega)
    have Kx:Int.tmod (H7:Int) 3=(t2:Int):=by rw [Int.tmod_eq_emod_of_nonneg (by omega)];omega
    have G9:t1<3:=by omega
    have Kz:t2<3:=by omega
    have i1:(0:Int)<=(t1:Int):=Int.natCast_nonneg _;have i2:(t1:Int)<3:=by omega
    have i3:(0:Int)<=(t2:Int):=Int.natCast_nonneg _;have i4:(t2:Int)<3:=by omega
    clear K1 Gy Gg Kv HT Hj;have G2:Hid (D j=⟨A,L,y⟩):=G4;by_cases h4:k'%5=4
    ·have e4:((k':Int)%5==4)=true:=by simp;omega
     have Gs:=hid (G5.out h4);go_wp2_with fail;refine HN.out.mono ?_;rintro e w2 ⟨rfl,r2,g2⟩;have HU:=hid (Ha.out.gro g2 r2);clear r2 g2 HN Ha;obtain⟨a1,c1,x1,d1,p0,p1,s1⟩:=HU.out.at G9;obtain⟨la,lc,lx,ld,lb,ls⟩:=HU.out.ls;have l0:=lb.c0;have l1:=lb.c1;have Hh:=hid (twoB HU.out.r1 HU.out.r2 (show w.heap.size≠w.heap.size+1 by omega) (.slice a1 (A t1).l.length c1) (.slice x1 (A t1).n d1) (.slice la L.l.length lc) (.slice lx L.n ld));have o0:=HU.out.r1.c0;have o1:=HU.out.r1.c1;have of:=HU.out.r1.f;have q0:=Hh.out.1.c0;have q1:=Hh.out.1.c1;have qf:=Hh.out.1.f;have Hs:=hid s1;have Gl:=hid ls;have K2:¬w.heap.size=ga:=by have:=HU.out.z1;omega
     have K3:¬w.heap.size+1=ga:=by have:=HU.out.z1;omega
     have K7:¬w.heap.size=ga+1:=by have:=HU.out.z1;omega
     clear lb s1 ls;go_wp2_with fail;go_region;try go_wp2_with fail
     all_goals
      obtain⟨X1,X2⟩:=Hh.out.2
      refine zF (v:=.tuple #[.agg #[.slice a1 (A t1).l.length c1,.slice x1 (A t1).n d1],.agg #[.slice la L.l.length lc,.slice lx L.n ld]]) (by simp [results,Tryz.results43,go_sem,X1.c0,X1.c1,X2.c0,X2.c1]) ?_
      rw [Gs.out,G2.out]
      have z1:=HU.out.z1
      obtain⟨E1,E2⟩:=draw_end HU.out (.slice a1 (A t1).l.length c1) (.slice x1 (A t1).n d1) (.slice la L.l.length lc) (.slice lx L.n ld)
      exact⟨a1,c1,x1,d1,la,lc,lx,ld,rfl,(snc4 (r1:=w.heap.size) (r2:=w.heap.size+1) Hs.out (by omega) (by omega) (by omega) _ _ _ _).drew,(snc4 (r1:=w.heap.size) (r2:=w.heap.size+1) Gl.out (by omega) (by omega) (by omega) _ _ _ _).drew,E1.below zI.drew,⟨E2.os,E2.tape,E2.output,E2.size,E2.block⟩⟩
    ·have e4:((k':Int)%5==4)=false:=by simp;omega
     have Gs:=hid (G6.out h4);go_wp2_with fail;refine HN.out.mono ?_;rintro e w2 ⟨rfl,r2,g2⟩;have HU:=hid (Ha.out.gro g2 r2);clear r2 g2 HN Ha;obtain⟨a1,c1,x1,d1,p0,p1,s1⟩:=HU.out.at G9;obtain⟨a2,c2,x2,d2,l0,l1,s2⟩:=HU.out.at Kz;have Hh:=hid (twoB HU.out.r1 HU.out.r2 (show w.heap.size≠w.heap.size+1 by omega) (.slice a1 (A t1).l.length c1) (.slice x1 (A t1).n d1) (.slice a2 (A t2).l.length c2) (.slice x2 (A t2).n d2));have o0:=HU.out.r1.c0;have o1:=HU.out.r1.c1;have of:=HU.out.r1.f;have q0:=Hh.out.1.c0;have q1:=Hh.out.1.c1;have qf:=Hh.out.1.f;have Hs:=hid s1;have Gl:=hid s2;have K2:¬w.heap.size=ga:=by have:=HU.out.z1;omega
     have K3:¬w.heap.size+1=ga:=by have:=HU.out.z1;omega
     clear s1 s2;go_wp2_with fail;go_region;try go_wp2_with fail
     all_goals
      obtain⟨X1,X2⟩:=Hh.out.2
      refine zF (v:=.tuple #[.agg #[.slice a1 (A t1).l.length c1,.slice x1 (A t1).n d1],.agg #[.slice a2 (A t2).l.length c2,.slice x2 (A t2).n d2]]) (by simp [results,Tryz.results43,go_sem,X1.c0,X1.c1,X2.c0,X2.c1]) ?_
      rw [Gs.out,G2.out]
      have z1:=HU.out.z1
      obtain⟨E1,E2⟩:=draw_end HU.out (.slice a1 (A t1).l.length c1) (.slice x1 (A t1).n d1) (.slice a2 (A t2).l.length c2) (.slice x2 (A t2).n d2)
      exact⟨a1,c1,x1,d1,a2,c2,x2,d2,rfl,(snc4 (r1:=w.heap.size) (r2:=w.heap.size+1) Hs.out (by omega) (by omega) (by omega) _ _ _ _).drew,(snc4 (r1:=w.heap.size) (r2:=w.heap.size+1) Gl.out (by omega) (by omega) (by omega) _ _ _ _).drew,E1.below zI.drew,⟨E2.os,E2.tape,E2.output,E2.size,E2.block⟩⟩
   | true=>
    have Hl:j<m:=of_decide_eq_true Hj.out;have K0:j<15:=by have:=Kr.out;have:=Ks.out;omega
    obtain⟨r,hr⟩:∃r,k%3=r:=⟨_,rfl⟩;obtain⟨t,ht⟩:∃t,k/8%3=t:=⟨_,rfl⟩;have H0:r<3:=by omega
    have Gh:t<3:=by omega
    have e0:(k:Int)%3=(r:Int):=by omega
    have e1:(k:Int)/8%3=(t:Int):=by omega
    have r0:(0:Int)<=(r:Int):=Int.natCast_nonneg _;have r1:(r:Int)<3:=by omega
    have t0:(0:Int)<=(t:Int):=Int.natCast_nonneg _;have t1:(t:Int)<3:=by omega
    have Hr:=hid (And.intro hr ht);have Gg:(k:Int)<256:=by have:=rk_lt Ha.out.rd;rw [Hy.out] at this;omega
    clear hr ht Hj;by_cases h7:k%8=7
    ·have e7:((k:Int)%8==7)=true:=by simp;omega
     have Hp:Hid (D (j+1)=⟨jnT A r (A r) (A t),L,rx n y⟩):=hid (by
      rw [Go.out];unfold dstep;dsimp only;rw [Hy.out,if_pos h7,Hr.out.1,Hr.out.2])
     go_wp2_with fail;refine HN.out.mono ?_;rintro e w2 ⟨rfl,r2,g2⟩;have HU:=hid (Ha.out.gro g2 r2);clear r2 g2 HN Ha;obtain⟨a1,c1,x1,d1,p0,p1,s1⟩:=HU.out.at H0;obtain⟨a2,c2,x2,d2,q0,q1,s2⟩:=HU.out.at Gh;have Hu:ga<w2.heap.size:=by have:=HU.out.z3;omega
     have Gp:=hid ((Gb.out.a r).vd);have Gq:=hid ((Gb.out.a t).vd);obtain⟨V,hV⟩:∃V,jnB (A r) (A t)=V:=⟨_,rfl⟩;obtain⟨J,hJ⟩:∃J,jnZ (A r) (A t)=J:=⟨_,rfl⟩;have Ho:Hid (V=true ->D (j+1)=⟨upA A r J,L,(rx n y)⟩):=hid (fun e=>by rw [Hp.out,<- hJ];unfold jnT;rw [hV,if_pos e,jnZ_t (hV.trans e)]);have Hn:Hid (V=false ->D (j+1)=⟨A,L,(rx n y)⟩):=hid (fun e=>by rw [Hp.out];unfold jnT;rw [hV,if_neg (by rw [e];simp)]);have Hm:Hid (∀w':World,Below w2.heap.size w2 w' ->Calls Tryz.prog 69 #[.agg #[.slice a1 (A r).l.length c1,.slice x1 (A r).n d1],.agg #[.slice a2 (A t).l.length c2,.slice x2 (A t).n d2]] w' fun e w''=>∃ja jc jx jd,e=.returned (.tuple #[.agg #[.slice ja J.l.length jc,.slice jx J.n jd],.bool V])/\ SNc w'' w'.heap.size ja jx J/\ Below w'.heap.size w' w''):=hid (fun w' b=>by
      rw [<- hV,<- hJ];exact specJoinC a1 x1 a2 x2 c1 d1 c2 d2 (A r) (A t) w' (vd_sm Gp.out) (vd_sm Gq.out) ⟨(s1.below b).at.1,(s1.below b).at.2⟩ ⟨(s2.below b).at.1,(s2.below b).at.2⟩)
     clear hV hJ Hp;go_upto_region 10 with fail;go_cut [9,10,11] from 26 to 101 (fun p v o wx=>∃b ja jc jx jd,p=.int .i64 (r:Int)/\ v=.pointer (some ⟨b,0,none⟩)/\ o=.bool V/\ Hid (DrS w wx B rb f n (rx n y) ga A L/\ Bx2 wx b (.slice ja J.l.length jc) (.slice jx J.n jd)/\ SNc wx (ga+2) ja jx J));case first=>
      obtain⟨k8,Gz⟩:∃k8,k/8=k8:=⟨_,rfl⟩;have ew:IntKind.i64.wrap ((k:Int)/8)=(k8:Int):=by rw [show (k:Int)/8=(k8:Int) by omega];exact wrapIn _ (by omega) (by omega)
      have et:Int.tmod (k8:Int) 3=(t:Int):=by rw [Int.tmod_eq_emod_of_nonneg (by omega)];have:=Hr.out;omega
      clear Gz e1 Gg;have Hf:Hid (∀w':World,Below w2.heap.size w2 w' ->(w'.cell? ⟨ga,r*2,none⟩=some (.slice a1 (A r).l.length c1)/\ w'.cell? ⟨ga,r*2+1,none⟩=some (.slice x1 (A r).n d1)/\ w'.cell? ⟨ga,t*2,none⟩=some (.slice a2 (A t).l.length c2)/\ w'.cell? ⟨ga,t*2+1,none⟩=some (.slice x2 (A t).n d2))):=hid (fun w' b=>⟨(b.cell (p:=⟨ga,r*2,none⟩) Hu).trans p0,(b.cell (p:=⟨ga,r*2+1,none⟩) Hu).trans p1,(b.cell (p:=⟨ga,t*2,none⟩) Hu).trans q0,(b.cell (p:=⟨ga,t*2+1,none⟩) Hu).trans q1⟩);refine zR (S:=fun w'=>w'.cell? ⟨ga,r*2,none⟩=some (.slice a1 (A r).l.length c1)/\ w'.cell? ⟨ga,r*2+1,none⟩=some (.slice x1 (A r).n d1)/\ w'.cell? ⟨ga,t*2,none⟩=some (.slice a2 (A t).l.length c2)/\ w'.cell? ⟨ga,t*2+1,none⟩=some (.slice x2 (A t).n d2)) (Hf.out _ zI.drew) (fun qh=> ?_);refine tZ 0 48 ?_;refine tZ 1 49 ?_;refine tZ 2 50 ?_;refine tZ 3 51 ?_;refine tZ 4 52 ?_;refine tZ 5 53 ?_;refine tZ 6 54 ?_;refine tZ 7 55 ?_;refine tZ 8 56 ?_;refine tZ 9 57 ?_;refine ready2t (i:=10) (j:=14) (d:=some 58) (d':=some 10) (by kernel_rfl) (by kernel_rfl) (by kernel_rfl) ?_ ?_
      ·
       intro o ho G0 K hK;simp only [gZa,gZb,gZc,gZd] at ho;subst ho;go_simp;refine(Hm.out _ zI.drew).mono ?_;rintro e w5 ⟨ja,jc,jx,jd,rfl,sj,b5⟩;have He:Below w2.heap.size w2 w5:=keepS zI.drew b5;refine hK.out _ _ (Hf.out _ He) (fun qh=> ?_);clear hK K;try simp only [zP]
       refine tZ 11 47 ?_;refine tZ 12 59 ?_;refine tZ 13 60 ?_;refine cZ 14 ?_;intro K hK;go_simp;obtain⟨wx,Hb⟩:∃wx,w5.alloc (.cells #[.slice none 0 0,.slice none 0 0] 28)=wx:=⟨_,rfl⟩;have Hc:Below w5.heap.size w5 wx:=by rw [<- Hb];exact zO _ _
       have Hd:Bx2 wx w5.heap.size (.slice none 0 0) (.slice none 0 0):=by rw [<- Hb];exact Bx2.made _ _ _ _
       have Ht:Below w2.heap.size w2 wx:=keepS He Hc;have HF:=hid (HU.out.box Ht Hd He.size sj zL Hc.size (fun q q1 q2=>⟨by omega,Hc.block q q2⟩) jc jd);rw [Hb];clear Hb;refine hK.out _ _ (Hf.out _ Ht) (fun qh=> ?_);clear hK K;try simp only [zP]
       have Hv:=Hd.c0;have Hw:=Hd.c1;have Hx:=Hd.f;clear Hc Ht Hd sj b5 He;refine cZ 15 ?_;intro K hK;go_simp;refine hK.out _ _ (Hf.out _ HF.out.1) (fun qh=> ?_);clear hK K;try simp only [zP]
       clear Hv Hw Hx;refine tZ 16 11 ?_;refine zD ?_;go_wp2_with fail;go_meet;exact⟨_,ja,jc,jx,jd,rfl,rfl,rfl,hid HF.out.2⟩
      ·
       intro o ho G0 K hK;simp only [gZa,gZb,gZc,gZd] at ho;subst ho;go_simp;obtain⟨wx,Hb⟩:∃wx,(w2.alloc (.cells #[.slice none 0 0,.slice none 0 0] 28)).drew=wx:=⟨_,rfl⟩;have Hc:Below w2.heap.size w2 wx:=by rw [<- Hb];exact(zO _ _).drew
       have Hd:Bx2 wx w2.heap.size (.slice none 0 0) (.slice none 0 0):=by
        have h0:=Bx2.made w2 (.slice none 0 0) (.slice none 0 0) 28;rw [<- Hb];exact h0.below zI.drew h0.lt
       have G1:wx.heap.size=w2.heap.size+1:=by rw [<- Hb];simp
       rw [Hb];clear Hb;refine hK.out _ _ (Hf.out _ Hc) (fun qh=> ?_);clear hK K;try simp only [zP]
       refine cZ 10 ?_;intro K hK;go_simp;refine(Hm.out _ Hc).mono ?_;rintro e w5 ⟨ja,jc,jx,jd,rfl,sj,b5⟩;have He:Below w2.heap.size w2 w5:=keepS Hc b5;have Hg:=Hd.below b5 Hd.lt;have HF:=hid (HU.out.box He Hg zL sj (by omega) zL (fun q q1 q2=>⟨by omega,rfl⟩) jc jd);refine hK.out _ _ (Hf.out _ He) (fun qh=> ?_);clear hK K;try simp only [zP]
       refine tZ 11 47 ?_;refine tZ 12 59 ?_;refine tZ 13 60 ?_;have Hv:=Hg.c0;have Hw:=Hg.c1;have Hx:=Hg.f;clear Hc Hd Hg sj b5 He G1;refine cZ 15 ?_;intro K hK;go_simp;refine hK.out _ _ (Hf.out _ HF.out.1) (fun qh=> ?_);clear hK K;try simp only [zP]
       clear Hv Hw Hx;refine tZ 16 11 ?_;refine zD ?_;go_wp2_with fail;go_meet;exact⟨_,ja,jc,jx,jd,rfl,rfl,rfl,hid HF.out.2⟩
     case rest=>
      obtain⟨b,ja,jc,jx,jd,rfl,rfl,rfl,HR⟩:=hcut;clear Hm HU;cases V with
      | false=>
       have HE:=hid (Hn.out rfl);clear Ho Hn;have Hq:=hid HR.out.1;clear HR;go_wp2_with fail;go_roundw;case rel=>
        exact⟨j+1,Hl,by go_num,by rw [HE.out];exact Hq⟩
       case measure=>simp [intOf];omega
      | true=>
       have HE:=hid (Ho.out rfl);clear Ho Hn;obtain⟨pa,pc,px,pd,p0,p1,_⟩:=HR.out.1.at (r:=r) H0;have pf:=HR.out.1.fz;have x0:=HR.out.2.1.c0;have x1:=HR.out.2.1.c1;have Hq:=hid (HR.out.1.setA (r:=r) H0 HR.out.2.2 jc jd);clear HR;go_wp2_with fail;go_roundw;case rel=>
        exact⟨j+1,Hl,by go_num,by rw [HE.out];exact Hq⟩
       case measure=>simp [intOf];omega
    ·have e7:((k:Int)%8==7)=false:=by simp;omega
     obtain⟨S1,Gf⟩:∃S1,(acR f n (rx n y) (A r) r).1=S1:=⟨_,rfl⟩;obtain⟨S2,Hk⟩:∃S2,(acR f n (rx n y) (A r) r).2.1=S2:=⟨_,rfl⟩;obtain⟨y2,Gi⟩:∃y2,(acR f n (rx n y) (A r) r).2.2=y2:=⟨_,rfl⟩;have Gj:Hid (AcP f n (rx n y) (A r) r S1 S2 y2):=hid (by rw [<- Gf,<- Hk,<- Gi];exact acR_ok f n (rx n y) (Gb.out.a r) (by omega));have Gm:Hid (k%8=6 ->D (j+1)=⟨jnT (upA A r S1) t (upA A r S1 t) S2,S2,y2⟩):=hid (fun h6=>by
      rw [Go.out];unfold dstep;dsimp only;rw [Hy.out,if_neg h7,if_pos h6,Hr.out.1,Hr.out.2,Gf,Hk,Gi])
     have Gn:Hid (¬k%8=6 ->D (j+1)=⟨upA A r S1,S2,y2⟩):=hid (fun h6=>by
      rw [Go.out];unfold dstep;dsimp only;rw [Hy.out,if_neg h7,if_neg h6,Hr.out.1,Gf,Hk,Gi])
     clear Gf Hk Gi;go_wp2_with fail;refine HN.out.mono ?_;rintro e w2 ⟨rfl,r2,g2⟩;have HU:=hid (Ha.out.gro g2 r2);clear r2 g2 HN Ha;obtain⟨a1,c1,x1,d1,p0,p1,s1⟩:=HU.out.at H0;have G3:=hid (Gj.out.2 B (ga+2) rb a1 x1 c1 d1 w2 (by have:=HU.out.z1;have:=HU.out.z5;omega) HU.out.z3 HU.out.rd s1);go_wp2_with fail;refine G3.out.mono ?_;rintro e w5 ⟨a5,c5,x5,d5,a6,c6,x6,d6,rfl,s5,s6,r5,g5⟩;have Gt:=hid (HU.out.gro g5 r5);have G8:Hid (ga+2<=w5.heap.size):=hid Gt.out.z3;have b6:Below w5.heap.size w5 ((w5.alloc (.cells #[.slice a5 S1.l.length c5,.slice x5 S1.n d5] 28)).alloc (.cells #[.slice a6 S2.l.length c6,.slice x6 S2.n d6] 28)):=below2 _ _ _;have H5:=hid (Gt.out.below b6);have Hz:=hid (s5.below b6);have Gr:=hid (s6.below b6);have H8:Hid (Bx2 ((w5.alloc (.cells #[.slice a5 S1.l.length c5,.slice x5 S1.n d5] 28)).alloc (.cells #[.slice a6 S2.l.length c6,.slice x6 S2.n d6] 28)) w5.heap.size (.slice a5 S1.l.length c5) (.slice x5 S1.n d5)):=hid ((Bx2.made w5 _ _ _).allocs _);have Gk:Hid (Bx2 ((w5.alloc (.cells #[.slice a5 S1.l.length c5,.slice x5 S1.n d5] 28)).alloc (.cells #[.slice a6 S2.l.length c6,.slice x6 S2.n d6] 28)) (w5.heap.size+1) (.slice a6 S2.l.length c6) (.slice x6 S2.n d6)):=hid (by simpa using Bx2.made (w5.alloc (.cells #[.slice a5 S1.l.length c5,.slice x5 S1.n d5] 28)) (.slice a6 S2.l.length c6) (.slice x6 S2.n d6) 28);clear s5 s6 r5 g5 b6 G3 HU Gt p0 p1 s1;go_upto_region 14 with fail;obtain⟨W6,Gv⟩:∃W6,((w5.alloc (.cells #[.slice a5 S1.l.length c5,.slice x5 S1.n d5] 28)).alloc (.cells #[.slice a6 S2.l.length c6,.slice x6 S2.n d6] 28))=W6:=⟨_,rfl⟩;rw [Gv] at H5 Hz Gr H8 Gk;rw [Gv];clear Gv;obtain⟨pa,pc,px,pd,p0,p1,_⟩:=H5.out.at H0;have pf:=H5.out.fz;have x0:=H8.out.c0;have x1:=H8.out.c1;have Hi:ga≠w5.heap.size+1:=by have:=G8.out;omega
     have Gd:=hid (H5.out.setA H0 Hz.out c5 d5);have H2:=hid ((Gk.out.setAt ⟨ga,r*2,none⟩ (.slice a5 S1.l.length c5) Hi).setAt ⟨ga,r*2+1,none⟩ (.slice x5 S1.n d5) Hi);have Gc:Hid (SNc ((W6.setCell ⟨ga,r*2,none⟩ (.slice a5 S1.l.length c5)).setCell ⟨ga,r*2+1,none⟩ (.slice x5 S1.n d5)) (ga+2) a6 x6 S2):=hid (Gr.out.move zL (by simp [World.setCell]) (fun q q1 q2=>by rw [zH _ _ _ _ (by simp;omega),zH _ _ _ _ (by simp;omega)]));clear Hi;go_upto_region 15 with fail;obtain⟨W7,Gw⟩:∃W7,((W6.setCell ⟨ga,r*2,none⟩ (.slice a5 S1.l.length c5)).setCell ⟨ga,r*2+1,none⟩ (.slice x5 S1.n d5))=W7:=⟨_,rfl⟩;rw [Gw] at Gd H2 Gc;rw [Gw];clear Gw p0 p1 pf x0 x1 H5 Hz Gr H8 Gk;obtain⟨la,lc,lx,ld,lb,_⟩:=Gd.out.ls;have l0:=lb.c0;have l1:=lb.c1;have lf:=lb.f;have x0:=H2.out.c0;have x1:=H2.out.c1;have Hi:ga+1≠w5.heap.size+1:=by have:=G8.out;omega
     have Ge:=hid (Gd.out.setL Gc.out c6 d6);have H9:=hid ((H2.out.setAt ⟨ga+1,0,none⟩ (.slice a6 S2.l.length c6) Hi).setAt ⟨ga+1,1,none⟩ (.slice x6 S2.n d6) Hi);have G7:Hid (SNc ((W7.setCell ⟨ga+1,0,none⟩ (.slice a6 S2.l.length c6)).setCell ⟨ga+1,1,none⟩ (.slice x6 S2.n d6)) (ga+2) a6 x6 S2):=hid (Gc.out.move zL (by simp [World.setCell]) (fun q q1 q2=>by rw [zH _ _ _ _ (by simp;omega),zH _ _ _ _ (by simp;omega)]));clear Hi lb;go_upto_region 16 with fail;obtain⟨W8,Gx⟩:∃W8,((W7.setCell ⟨ga+1,0,none⟩ (.slice a6 S2.l.length c6)).setCell ⟨ga+1,1,none⟩ (.slice x6 S2.n d6))=W8:=⟨_,rfl⟩;rw [Gx] at Ge H9 G7;rw [Gx];clear Gx l0 l1 lf x0 x1 Gd H2 Gc;by_cases h6:k%8=6
     ·have e6:((k:Int)%8==6)=true:=by simp;omega
      have Hp:=hid (Gm.out h6);clear Gm Gn;have HU:=Ge;obtain⟨a1,c1,x1,d1,p0,p1,s1⟩:=HU.out.at Gh;have q0:=H9.out.c0;have q1:=H9.out.c1;have s2:=G7.out;have Gp:=hid ((upA_dr (j:=r) Gb.out.a Gj.out.1.1 t).vd);have Gq:=hid (Gj.out.1.2.vd);have Hu:ga<W8.heap.size:=by have:=HU.out.z3;omega
      have H6:w5.heap.size+1<W8.heap.size:=H9.out.lt;clear Ge;obtain⟨V,hV⟩:∃V,jnB (upA A r S1 t) S2=V:=⟨_,rfl⟩;obtain⟨J,hJ⟩:∃J,jnZ (upA A r S1 t) S2=J:=⟨_,rfl⟩;have Ho:Hid (V=true ->D (j+1)=⟨upA (upA A r S1) t J,S2,y2⟩):=hid (fun e=>by rw [Hp.out,<- hJ];unfold jnT;rw [hV,if_pos e,jnZ_t (hV.trans e)]);have Hn:Hid (V=false ->D (j+1)=⟨(upA A r S1),S2,y2⟩):=hid (fun e=>by rw [Hp.out];unfold jnT;rw [hV,if_neg (by rw [e];simp)]);have Hm:Hid (∀w':World,Below W8.heap.size W8 w' ->Calls Tryz.prog 69 #[.agg #[.slice a1 (upA A r S1 t).l.length c1,.slice x1 (upA A r S1 t).n d1],.agg #[.slice a6 (S2).l.length c6,.slice x6 (S2).n d6]] w' fun e w''=>∃ja jc jx jd,e=.returned (.tuple #[.agg #[.slice ja J.l.length jc,.slice jx J.n jd],.bool V])/\ SNc w'' w'.heap.size ja jx J/\ Below w'.heap.size w' w''):=hid (fun w' b=>by
       rw [<- hV,<- hJ];exact specJoinC a1 x1 a6 x6 c1 d1 c6 d6 (upA A r S1 t) (S2) w' (vd_sm Gp.out) (vd_sm Gq.out) ⟨(s1.below b).at.1,(s1.below b).at.2⟩ ⟨(s2.below b).at.1,(s2.below b).at.2⟩)
      clear hV hJ Hp;go_upto_region 17 with fail;go_cut [9,14,15] from 26 to 101 (fun p v o wx=>∃b ja jc jx jd,p=.int .i64 (r:Int)/\ v=.pointer (some ⟨b,0,none⟩)/\ o=.bool V/\ Hid (DrS w wx B rb f n y2 ga (upA A r S1) S2/\ Bx2 wx b (.slice ja J.l.length jc) (.slice jx J.n jd)/\ SNc wx (ga+2) ja jx J));case first=>
       obtain⟨k8,Gz⟩:∃k8,k/8=k8:=⟨_,rfl⟩;have ew:IntKind.i64.wrap ((k:Int)/8)=(k8:Int):=by rw [show (k:Int)/8=(k8:Int) by omega];exact wrapIn _ (by omega) (by omega)
       have et:Int.tmod (k8:Int) 3=(t:Int):=by rw [Int.tmod_eq_emod_of_nonneg (by omega)];have:=Hr.out;omega
       clear Gz e1 Gg;have Hf:Hid (∀w':World,Below W8.heap.size W8 w' ->(w'.cell? ⟨ga,t*2,none⟩=some (.slice a1 (upA A r S1 t).l.length c1)/\ w'.cell? ⟨ga,t*2+1,none⟩=some (.slice x1 (upA A r S1 t).n d1)/\ w'.cell? ⟨w5.heap.size+1,0,none⟩=some (.slice a6 S2.l.length c6)/\ w'.cell? ⟨w5.heap.size+1,1,none⟩=some (.slice x6 S2.n d6))):=hid (fun w' b=>⟨(b.cell (p:=⟨ga,t*2,none⟩) Hu).trans p0,(b.cell (p:=⟨ga,t*2+1,none⟩) Hu).trans p1,(b.cell (p:=⟨w5.heap.size+1,0,none⟩) H6).trans q0,(b.cell (p:=⟨w5.heap.size+1,1,none⟩) H6).trans q1⟩);refine zR (S:=fun w'=>w'.cell? ⟨ga,t*2,none⟩=some (.slice a1 (upA A r S1 t).l.length c1)/\ w'.cell? ⟨ga,t*2+1,none⟩=some (.slice x1 (upA A r S1 t).n d1)/\ w'.cell? ⟨w5.heap.size+1,0,none⟩=some (.slice a6 S2.l.length c6)/\ w'.cell? ⟨w5.heap.size+1,1,none⟩=some (.slice x6 S2.n d6)) (Hf.out _ zI.drew) (fun qh=> ?_);refine tZ 0 85 ?_;refine tZ 1 86 ?_;refine tZ 2 87 ?_;refine tZ 3 88 ?_;refine tZ 4 89 ?_;refine tZ 5 90 ?_;refine tZ 6 91 ?_;refine ready2t (i:=7) (j:=11) (d:=some 92) (d':=some 14) (by kernel_rfl) (by kernel_rfl) (by kernel_rfl) ?_ ?_
       ·
        intro o ho G0 K hK;simp only [gZa,gZb,gZc,gZd] at ho;subst ho;go_simp;refine(Hm.out _ zI.drew).mono ?_;rintro e w5 ⟨ja,jc,jx,jd,rfl,sj,b5⟩;have He:Below W8.heap.size W8 w5:=keepS zI.drew b5;refine hK.out _ _ (Hf.out _ He) (fun qh=> ?_);clear hK K;try simp only [zP]
        refine tZ 8 84 ?_;refine tZ 9 93 ?_;refine tZ 10 94 ?_;refine cZ 11 ?_;intro K hK;go_simp;obtain⟨wx,Hb⟩:∃wx,w5.alloc (.cells #[.slice none 0 0,.slice none 0 0] 28)=wx:=⟨_,rfl⟩;have Hc:Below w5.heap.size w5 wx:=by rw [<- Hb];exact zO _ _
        have Hd:Bx2 wx w5.heap.size (.slice none 0 0) (.slice none 0 0):=by rw [<- Hb];exact Bx2.made _ _ _ _
        have Ht:Below W8.heap.size W8 wx:=keepS He Hc;have HF:=hid (HU.out.box Ht Hd He.size sj zL Hc.size (fun q q1 q2=>⟨by omega,Hc.block q q2⟩) jc jd);rw [Hb];clear Hb;refine hK.out _ _ (Hf.out _ Ht) (fun qh=> ?_);clear hK K;try simp only [zP]
        have Hv:=Hd.c0;have Hw:=Hd.c1;have Hx:=Hd.f;clear Hc Ht Hd sj b5 He;refine cZ 12 ?_;intro K hK;go_simp;refine hK.out _ _ (Hf.out _ HF.out.1) (fun qh=> ?_);clear hK K;try simp only [zP]
        clear Hv Hw Hx;refine tZ 13 15 ?_;refine zD ?_;go_wp2_with fail;go_meet;exact⟨_,ja,jc,jx,jd,rfl,rfl,rfl,hid HF.out.2⟩
       ·
        intro o ho G0 K hK;simp only [gZa,gZb,gZc,gZd] at ho;subst ho;go_simp;obtain⟨wx,Hb⟩:∃wx,(W8.alloc (.cells #[.slice none 0 0,.slice none 0 0] 28)).drew=wx:=⟨_,rfl⟩;have Hc:Below W8.heap.size W8 wx:=by rw [<- Hb];exact(zO _ _).drew
        have Hd:Bx2 wx W8.heap.size (.slice none 0 0) (.slice none 0 0):=by
         have h0:=Bx2.made W8 (.slice none 0 0) (.slice none 0 0) 28;rw [<- Hb];exact h0.below zI.drew h0.lt
        have G1:wx.heap.size=W8.heap.size+1:=by rw [<- Hb];simp
        rw [Hb];clear Hb;refine hK.out _ _ (Hf.out _ Hc) (fun qh=> ?_);clear hK K;try simp only [zP]
        refine cZ 7 ?_;intro K hK;go_simp;refine(Hm.out _ Hc).mono ?_;rintro e w5 ⟨ja,jc,jx,jd,rfl,sj,b5⟩;have He:Below W8.heap.size W8 w5:=keepS Hc b5;have Hg:=Hd.below b5 Hd.lt;have HF:=hid (HU.out.box He Hg zL sj (by omega) zL (fun q q1 q2=>⟨by omega,rfl⟩) jc jd);refine hK.out _ _ (Hf.out _ He) (fun qh=> ?_);clear hK K;try simp only [zP]
        refine tZ 8 84 ?_;refine tZ 9 93 ?_;refine tZ 10 94 ?_;have Hv:=Hg.c0;have Hw:=Hg.c1;have Hx:=Hg.f;clear Hc Hd Hg sj b5 He G1;refine cZ 12 ?_;intro K hK;go_simp;refine hK.out _ _ (Hf.out _ HF.out.1) (fun qh=> ?_);clear hK K;try simp only [zP]
        clear Hv Hw Hx;refine tZ 13 15 ?_;refine zD ?_;go_wp2_with fail;go_meet;exact⟨_,ja,jc,jx,jd,rfl,rfl,rfl,hid HF.out.2⟩
      case rest=>
       obtain⟨b,ja,jc,jx,jd,rfl,rfl,rfl,HR⟩:=hcut;clear Hm HU;cases V with
       | false=>
        have HE:=hid (Hn.out rfl);clear Ho Hn;have Hq:=hid HR.out.1;clear HR;go_wp2_with fail;go_roundw;case rel=>
         exact⟨j+1,Hl,by go_num,by rw [HE.out];exact Hq⟩
        case measure=>simp [intOf];omega
       | true=>
        have HE:=hid (Ho.out rfl);clear Ho Hn;obtain⟨pa,pc,px,pd,p0,p1,_⟩:=HR.out.1.at (r:=t) Gh;have pf:=HR.out.1.fz;have x0:=HR.out.2.1.c0;have x1:=HR.out.2.1.c1;have Hq:=hid (HR.out.1.setA (r:=t) Gh HR.out.2.2 jc jd);clear HR;go_wp2_with fail;go_roundw;case rel=>
         exact⟨j+1,Hl,by go_num,by rw [HE.out];exact Hq⟩
        case measure=>simp [intOf];omega
     ·have e6:((k:Int)%8==6)=false:=by simp;omega
      have HE:=hid (Gn.out h6);clear Gm Gn;go_wp2_with fail;go_roundw;case rel=>
       exact⟨j+1,Hl,by go_num,by rw [HE.out];exact Ge⟩
      case measure=>simp [intOf];omega
theorem rk_byt {f:Nat ->Int}(hf:Byt f)(n x:Nat):rk f n x<256:=by
 unfold rk;split
 ·have:=hf x;omega
 ·omega
structure Gp (S:Sx):Prop where
 gd:Gd S
 p1:∀i,i<S.l.length ->1<=(gL S.l i).p.length
 bn:∀p∈fS S,Bnd p
 n1:S.n<=1001
theorem BSn.bnd {l:List Rn}(h:BSn l):∀p∈l,Bnd p:=fun p hp=>by have:=h p hp;unfold Bnd;omega
theorem Dr.gp {S:Sx}(h:Dr S):Gp S:=⟨h.gd,fun i hi=>(vd_num h.vd hi).1,fun p hp=>((vd_srt h.vd).2 p hp).bnd,by have:=(ctxB_iff.1 h.vd.1).2;omega⟩
theorem spY_p {k:Nat}{y:Lf}(h:1<=y.p.length):1<=(spY k y).p.length:=by
 unfold spY;repeat' split
 all_goals first|exact h|(simp<;>omega)
theorem spS_gp {f:Nat ->Int}{n x:Nat}{S:Sx}(hS:Dr S)(hk:rk f n (rx n x)<256):Gp (spS f n x S):=by
 have hg:=spS_gd (f:=f) (n:=n) (x:=x) hS hk;have hu:=vd_srt hS.vd;have hn:=(ctxB_iff.1 hS.vd.1).2;have fl:=fS_len S;have v1:∀i,i<S.l.length ->1<=(gL S.l i).p.length:=fun i hi=>(vd_num hS.vd hi).1;refine⟨hg,?_,?_,?_⟩
 ·unfold spS;split
  ·exact v1
  ·rename_i h0;have hi:rk f n x/8%S.l.length<S.l.length:=Nat.mod_lt _ (by omega);show∀i,i<(spL (rk f n x) S.l).length ->1<=(gL (spL (rk f n x) S.l) i).p.length;unfold spL;generalize rk f n x=k at h0 hi ⊢;generalize k/8%S.l.length=i at hi ⊢;have hy:=spY_p (k:=k) (v1 i hi);generalize spY k (gL S.l i)=y at hy ⊢;have e:∀l:List Lf,i<l.length ->(∀j,j<l.length ->1<=(gL l j).p.length) ->∀j,j<(l.set i y).length ->1<=(gL (l.set i y) j).p.length:=fun l h2 h3 j hj=>by
    rw [gL_set l h2 y j];split
    ·exact hy
    ·exact h3 j (by simpa using hj)
   split
   ·refine e _ (by simp;omega) (fun j hj=> ?_);by_cases h2:j<S.l.length
    ·rw [gL_pre _ _ h2];exact v1 j h2
    ·have e2:j=S.l.length:=by simp at hj;omega
     rw [e2,gL_end];exact v1 i hi
   ·exact e _ hi v1
 ·unfold spS;split
  ·rw [fS_mk];exact(spF_ok hk hu.br).2.bnd
  ·rw [fS_mk];exact hu.br.bs.bnd
 ·unfold spS;split
  ·have:=(spF_ok hk hu.br).1;show (spF (rk f n (rx n x)) (fS S)).length<=_;omega
  ·show (fS S).length<=_;omega
def AnQ (S:Sx)(f:Nat ->Int)(n x':Nat)(w:World)(B rb:Nat)(e:Ending)(w':World):Prop:=∃a c y d,e=.returned (.agg #[.slice a S.l.length c,.slice y S.n d])/\ SNc w' w.heap.size a y S/\ RdJ w' B rb f n x'/\ w.grownBy w' (some rb)
def AnP (f:Nat ->Int)(n x:Nat)(S:Sx)(x':Nat):Prop:=Gp S/\∀(B rb:Nat) (w:World),B<=w.heap.size ->RdJ w B rb f n x ->Calls Tryz.prog 20 #[.pointer (some ⟨rb,0,none⟩)] w fun e w'=>AnQ S f n x' w B rb e w'
theorem anyFin {w w5:World}{B rb n x':Nat}{f:Nat ->Int}{S:Sx}{a y:Option Addr}{lo:Nat}(hB:B<=w.heap.size)(R5:Bx2 w5 w.heap.size (.slice none 0 0) (.slice none 0 0))(s:SNc w5 lo a y S)(hl:w.heap.size<lo)(r:RdJ w5 B rb f n x')(g:w.grownBy w5 (some rb))(c d:Nat):
  let U:=(w5.setCell ⟨w.heap.size,0,none⟩ (.slice a S.l.length c)).setCell ⟨w.heap.size,1,none⟩ (.slice y S.n d)
  Bx2 U w.heap.size (.slice a S.l.length c) (.slice y S.n d)/\ SNc U w.heap.size a y S/\ RdJ U B rb f n x'/\ w.grownBy U (some rb):=by
 intro U;have b:Below w.heap.size w5 U:=(zI.setCell (p:=⟨w.heap.size,0,none⟩) zL _).setCell (p:=⟨w.heap.size,1,none⟩) zL _;exact⟨R5.set _ _,s.move (by omega) (by simp [U,World.setCell]) (fun q h1 h2=>by
  show ((w5.setCell ⟨w.heap.size,0,none⟩ _).setCell ⟨w.heap.size,1,none⟩ _).heap[q]? =_;rw [zH _ _ _ _ (by simp;omega),zH _ _ _ _ (by simp;omega)]),r.below (b.mono hB),grownBelow g b zL⟩
theorem anyJ (f:Nat ->Int)(hf:Byt f)(n x:Nat):∃S x',AnP f n x S x':=by
 obtain⟨X,Y,x2,hd⟩:=drawJ f n (rx n x);obtain⟨k,hk⟩:∃k,rk f n x=k:=⟨_,rfl⟩;have Hn:k<256:=by rw [<- hk];exact rk_byt hf n x
 obtain⟨R,hR⟩:∃R:Sx×Nat,(if k%8=7 then(spS f n x2 X,spX f n x2 X) else(X,x2))=R:=⟨_,rfl⟩;refine⟨R.1,R.2,?_,fun B rb w hB hrd=> ?_⟩
 ·rw [<- hR];split
  ·exact spS_gp hd.1.1 (rk_byt hf _ _)
  ·exact hd.1.1.gp
 obtain⟨W,hW⟩:∃W,w.alloc (.cells #[.slice none 0 0,.slice none 0 0] 28)=W:=⟨_,rfl⟩;have b0:Below w.heap.size w W:=by rw [<- hW];exact zO _ _
 have R0:Bx2 W w.heap.size (.slice none 0 0) (.slice none 0 0):=by rw [<- hW];exact Bx2.made _ _ _ _
 have Hd:Hid (rb<w.heap.size):=hid (by have:=hrd.lt;omega);have HN:=hid (rdNextJ B rb f n x W (hrd.below (b0.mono hB)));rw [hk] at HN;have HR:=hid hR;have HD:=hid hd;have He:=hid R0;have Ha:=hid b0;clear b0 R0 hk hR hd hrd;go_enter Tryz.func20,Tryz.ntmps20;go_wp2_with fail;try rw [hW]
 clear hW;refine HN.out.mono ?_;rintro e w1 ⟨rfl,r1,g1⟩;have Ho:w.heap.size+1<=W.heap.size:=He.out.lt;have Hf:Hid (W.heap.size<=w1.heap.size):=hid g1.size;have Hh:Hid (w.grownBy w1 (some rb)):=hid ⟨g1.os.trans Ha.out.os,g1.tape.trans Ha.out.tape,g1.output.trans Ha.out.output,Nat.le_trans Ha.out.size g1.size,fun q hq hne=>(g1.block q (by omega) hne).trans (Ha.out.block q hq)⟩;have Hj:=hid (He.out.grw g1 (by have:=Hd.out;omega));have Hg:=hid (HD.out.2 B rb w1 (by have:=Hf.out;omega) r1);clear g1 r1 HN He Ha;go_wp2_with fail;refine Hg.out.mono ?_;rintro e w2 ⟨a1,c1,x1,d1,a2,c2,y2,d2,rfl,s1,s2,r2,g2⟩;obtain⟨W3,Hb⟩:∃W3,(w2.alloc (.cells #[.slice a1 X.l.length c1,.slice x1 X.n d1] 28)).alloc (.cells #[.slice a2 Y.l.length c2,.slice y2 Y.n d2] 28)=W3:=⟨_,rfl⟩;have b3:Below w2.heap.size w2 W3:=by rw [<- Hb];exact below2 _ _ _
 have P3:Bx2 W3 w2.heap.size (.slice a1 X.l.length c1) (.slice x1 X.n d1):=by rw [<- Hb];exact(Bx2.made w2 _ _ _).allocs _
 have R2:=Hj.out.grw g2 (by have:=Hd.out;omega);have R3:=R2.below b3 R2.lt;have z2:=g2.size;have z1:=Hf.out;have Hl:Hid (SNc W3 (w.heap.size+1) a1 x1 X):=hid ((s1.below b3).move (by omega) zL (fun _ _ _=>rfl));have Hk:Hid (RdJ W3 B rb f n x2):=hid (r2.below (b3.mono (by omega)));have Hi:Hid (w.grownBy W3 (some rb)):=hid (grownBelow (grown_transJ Hh.out g2) b3 (by omega));have Hc:=hid R3;have p0:=P3.c0;have p1:=P3.c1;have r0:=R3.c0;have r1:=R3.c1;have rf:=R3.f;clear s1 s2 r2 g2 b3 P3 R2 R3 z2 z1 Hg Hj Hh Hf;by_cases h7:k%8=7
 ·have e7:((k:Int)%8==7)=true:=by rw [beq_iff_eq];omega
  have HE:Hid (R=(spS f n x2 X,spX f n x2 X)):=hid (by rw [<- HR.out,if_pos h7]);have Hm:=hid (spoilStJ B rb (w.heap.size+1) f n x2 a1 x1 c1 d1 X W3 Hk.out (by have:=Hc.out.lt;omega) HD.out.1.1 Hl.out (by have:=Hd.out;omega));clear r0 r1 rf;go_wp2_with fail;try rw [Hb]
  clear Hb;refine Hm.out.mono ?_;rintro e w5 ⟨a5,c5,x5,d5,rfl,s5,r5,g5⟩;have R5:=Hc.out.grw g5 (by have:=Hd.out;omega);have HF:=hid (anyFin hB R5 s5 Hc.out.lt r5 (grown_transJ Hi.out g5) c5 d5);have X0:=R5.c0;have X1:=R5.c1;have Xf:=R5.f;clear s5 r5 g5 R5 Hm p0 p1;go_wp2_with fail;obtain⟨u1,u3,u4,u5⟩:=HF.out;have k0:=u1.c0;have k1:=u1.c1;refine zF (v:=.agg #[.slice a5 (spS f n x2 X).l.length c5,.slice x5 (spS f n x2 X).n d5]) (by simp [results,Tryz.results20,go_sem,k0,k1]) ?_;rw [HE.out];exact⟨_,_,_,_,rfl,u3,u4,u5⟩
 ·have e7:((k:Int)%8==7)=false:=by rw [beq_eq_false_iff_ne];omega
  have HE:Hid (R=(X,x2)):=hid (by rw [<- HR.out,if_neg h7]);have HF:=hid (anyFin hB Hc.out Hl.out (Nat.lt_succ_self _) Hk.out Hi.out c1 d1);go_wp2_with fail;try rw [Hb]
  obtain⟨u1,u3,u4,u5⟩:=HF.out;have k0:=u1.c0;have k1:=u1.c1;refine zF (v:=.agg #[.slice a1 X.l.length c1,.slice x1 X.n d1]) (by simp [results,Tryz.results20,go_sem,k0,k1]) ?_;rw [HE.out];exact⟨_,_,_,_,rfl,u3,u4,u5⟩
theorem ins_bnd {l:List Rn}{r:Rn}(hl:∀p∈l,Bnd p)(hr:Bnd r):∀p∈ins l r,Bnd p:=by
 have Ha:∀(l:List Rn) (s:List Rn×Rn×List Rn),(∀p∈l,Bnd p) ->(∀p∈s.1,Bnd p) ->Bnd s.2.1 ->(∀p∈s.2.2,Bnd p) ->(∀p∈(l.foldl insStep s).1,Bnd p)/\ Bnd (l.foldl insStep s).2.1/\∀p∈(l.foldl insStep s).2.2,Bnd p:=by
  intro l;induction l with
  | nil=>exact fun s _ h1 h2 h3=>⟨h1,h2,h3⟩
  | cons q l ih=>
   intro s h0 h1 h2 h3;have hq:=h0 q (by simp);refine ih (insStep s q) (fun p hp=>h0 p (by simp [hp])) ?_ (insStep_bnd h2 hq) ?_
   ·unfold insStep;split
    ·intro p hp;simp at hp;rcases hp with hp|rfl
     ·exact h1 p hp
     ·exact hq
    ·split<;>exact h1
   ·unfold insStep;split
    ·exact h3
    ·split
     ·intro p hp;simp at hp;rcases hp with hp|rfl
      ·exact h3 p hp
      ·exact hq
     ·exact h3
 obtain⟨h1,h2,h3⟩:=Ha l ([],r,[]) hl (fun p hp=>by simp at hp) hr (fun p hp=>by simp at hp);intro p hp;have hp:p∈(insSt l r).1++[(insSt l r).2.1]++(insSt l r).2.2:=hp;rcases List.mem_append.1 hp with hp|hp
 ·rcases List.mem_append.1 hp with hp|hp
  ·exact h1 p hp
  ·simp at hp;rw [hp];exact h2
 ·exact h3 p hp
def tpS (S:Sx)(rep:Nat):Sx:=mkS S.l (ins (fS S) ((rep:Int),1000000000,1000000000))
theorem tpS_gd {S:Sx}{rep:Nat}(h:Gp S)(hr:rep<256):Gd (tpS S rep):=by
 have hb:=ins_bnd h.bn (show Bnd ((rep:Int),1000000000,1000000000) by unfold Bnd;simp only;omega);have hl:=ins_len (fS S) ((rep:Int),1000000000,1000000000);have fl:=fS_len S;have n1:=h.n1;refine⟨⟨h.gd.sm.l1,h.gd.sm.p1,by show (ins (fS S) _).length<=_;omega⟩,h.gd.li,fun i=> ?_⟩;show _<=(gR (ins (fS S) _) i).2.2/\ (gR (ins (fS S) _) i).2.2<=_;by_cases hi:i<(ins (fS S) ((rep:Int),1000000000,1000000000)).length
 ·have:=hb _ (gR_mem hi);unfold Bnd at this;omega
 ·rw [gR_far hi];exact⟨by decide,by decide⟩
def StQ (S:Sx)(w:World)(e:Ending)(w':World):Prop:=∃a c y d,e=.returned (.agg #[.slice a S.l.length c,.slice y S.n d])/\ SNc w' w.heap.size a y S/\ Below w.heap.size w w'
theorem topJ (a y:Option Addr)(c d rep:Nat)(S:Sx)(w:World)(hg:Gp S)(hr:rep<256)(h:SCt w a y S):
  Calls Tryz.prog 21 #[.agg #[.slice a S.l.length c,.slice y S.n d],.int .i64 (rep:Int)] w fun e w'=>StQ (tpS S rep) w e w':=by
 obtain⟨W,hW⟩:∃W,(w.alloc (.cells #[.slice a S.l.length c,.slice y S.n d] 28)).alloc (.cells #[.slice none 0 0,.slice none 0 0] 28)=W:=⟨_,rfl⟩;have b0:Below w.heap.size w W:=by rw [<- hW];exact below2 _ _ _
 have A0:Bx2 W w.heap.size (.slice a S.l.length c) (.slice y S.n d):=by rw [<- hW];exact(Bx2.made w _ _ _).allocs _
 have R0:Bx2 W (w.heap.size+1) (.slice none 0 0) (.slice none 0 0):=by rw [<- hW];simpa using Bx2.made (w.alloc (.cells #[.slice a S.l.length c,.slice y S.n d] 28)) (.slice none 0 0) (.slice none 0 0) 28
 have HC:=hid (l3CopyO a y c d S W hg.gd.sm hg.p1 (h.below b0));have HG:=hid hg;have Hc:=hid R0;have Hj:=hid b0;have a0:=A0.c0;have a1:=A0.c1;clear b0 A0 R0 h hg;go_enter Tryz.func21,Tryz.ntmps21;go_wp2_with fail;try rw [hW]
 clear hW;refine HC.out.mono ?_;rintro e w2 ⟨g,cg,gx,cx,P,Q,rfl,Ha⟩;have hz:w.heap.size+2<=W.heap.size:=Hc.out.lt;obtain⟨W3,Hb⟩:∃W3,w2.alloc (.cells #[.slice (some ⟨g,0,none⟩) S.l.length cg,.slice (some ⟨gx,0,none⟩) S.n cx] 28)=W3:=⟨_,rfl⟩;have b3:Below w2.heap.size w2 W3:=by rw [<- Hb];exact zO _ _
 have X3:Bx2 W3 w2.heap.size (.slice (some ⟨g,0,none⟩) S.l.length cg) (.slice (some ⟨gx,0,none⟩) S.n cx):=by rw [<- Hb];exact Bx2.made _ _ _ _
 have Ho:=Ha.lc.below b3;have Hl:FR W3 W.heap.size (.slice (some ⟨gx,0,none⟩) S.n cx) (fS S):=FR.below Ha.fr b3;obtain⟨fa,fc,Hm,Hn,_,_⟩:=Hl.fs;have Hd:=hid (specInsG fa fc (fS S) (rep:Int) 1000000000 1000000000 W3 (by rw [fS_len];have:=HG.out.n1;omega) Hn HG.out.bn (by unfold Bnd;simp only;omega));rw [<- Hm] at Hd;have R2:=Hc.out.below Ha.low Hc.out.lt;have R3:=R2.below b3 R2.lt;have He:=hid Ho;have Hg:=hid X3;have Hf:=hid R3;have Hk:Hid (Below w.heap.size w W3):=hid (keepS (keepS Hj.out Ha.low) b3);have Ht:Hid (W.heap.size<=w2.heap.size/\ g<w2.heap.size/\ W3.heap.size=w2.heap.size+1/\∀i,i<S.l.length ->W.heap.size<=P i/\ P i<w2.heap.size):=hid ⟨Ha.low.size,(Ha.lc.lt g rfl).2,by rw [<- Hb];simp,fun i hi=>⟨(Ha.lc.pt i hi).1,(Ha.lc.pt i hi).2.1⟩⟩;have x1:=X3.c1;clear Ha b3 X3 Ho Hl Hm Hn R2 R3 a0 a1 HC Hc Hj;go_wp2_with fail;try rw [Hb]
 clear Hb;refine Hd.out.mono ?_;rintro e w4 ⟨v4,rfl,f4,b4⟩;obtain⟨ga,gc,rfl,Hu,_,_⟩:=f4.fs;obtain⟨q1,q2,q3,q4⟩:=Ht.out;have X4:=Hg.out.below b4 Hg.out.lt;have R4:=Hf.out.below b4 Hf.out.lt;have Hs:Hid (ins (fS S) ((rep:Int),1000000000,1000000000)=ins (fS S) ((rep:Int),1000000000,1000000000)):=hid rfl;obtain⟨ru,Hh⟩:∃ru,ins (fS S) ((rep:Int),1000000000,1000000000)=ru:=⟨_,rfl⟩;rw [Hh] at f4 ⊢;have Hr:=hid Hh;have Hp:=He.out.below b4;have Hw:=(He.out.lt g rfl).1;have Hx:∀b,ga.map Addr.block=some b ->True:=fun _ _=>trivial;have fo:=fun b (e:(Value.slice ga ru.length gc).ownBlock=some b)=>(World.ownsRow.lt f4 b e).1;have Hq:=((Hp.set ⟨w2.heap.size,1,none⟩ (.slice ga ru.length gc) (fun e=>by have e:=own_eq e;simp only at e;omega) (fun i hi=>by have:=q4 i hi;simp only;omega)).set ⟨w.heap.size+1,0,none⟩ (.slice (some ⟨g,0,none⟩) S.l.length cg) (fun e=>by have e:=own_eq e;simp only at e;omega) (fun i hi=>by have:=q4 i hi;simp only;omega)).set ⟨w.heap.size+1,1,none⟩ (.slice ga ru.length gc) (fun e=>by have e:=own_eq e;simp only at e;omega) (fun i hi=>by have:=q4 i hi;simp only;omega);have f7:=((f4.setFar ⟨w2.heap.size,1,none⟩ (.slice ga ru.length gc) (fun e=>by have:=fo _ e;simp only at this;omega)).setFar ⟨w.heap.size+1,0,none⟩ (.slice (some ⟨g,0,none⟩) S.l.length cg) (fun e=>by have:=fo _ e;simp only at this;omega)).setFar ⟨w.heap.size+1,1,none⟩ (.slice ga ru.length gc) (fun e=>by have:=fo _ e;simp only at this;omega);have Hi:=(mk_at Hq (f7.weak (by omega))).move (lo':=w.heap.size) (by omega) zL (fun _ _ _=>rfl);have b7:=(((keepS Hk.out b4).setCell (p:=⟨w2.heap.size,1,none⟩) (show w.heap.size<=w2.heap.size by omega) (.slice ga ru.length gc)).setCell (p:=⟨w.heap.size+1,0,none⟩) (Nat.le_succ _) (.slice (some ⟨g,0,none⟩) S.l.length cg)).setCell (p:=⟨w.heap.size+1,1,none⟩) (Nat.le_succ _) (.slice ga ru.length gc);have X5:=X4.set1 (.slice ga ru.length gc);have R5:=R4.setAt ⟨w2.heap.size,1,none⟩ (.slice ga ru.length gc) (by show w2.heap.size≠w.heap.size+1;omega);have R7:=R5.set (.slice (some ⟨g,0,none⟩) S.l.length cg) (.slice ga ru.length gc);obtain⟨W5,Hv⟩:∃W5,w4.setCell ⟨w2.heap.size,1,none⟩ (.slice ga ru.length gc)=W5:=⟨_,rfl⟩;rw [Hv] at Hi b7 X5 R5 R7;have HF:=hid (And.intro R7 (And.intro Hi b7));have z0:=X4.c0;have z1:=X4.c1;have zf:=X4.f;have y0:=X5.c0;have y1:=X5.c1;have o0:=R5.c0;have o1:=R5.c1;have of:=R5.f;clear f4 b4 Hu X4 R4 Hp Hq f7 Hi b7 X5 R5 R7 Hh fo Hx q1 q2 q3 q4 Hw Hd Hg Hf He Hk x1 Hs;go_wp2_with fail;obtain⟨u1,u2,u3⟩:=HF.out;have k0:=u1.c0;have k1:=u1.c1;refine zF (v:=.agg #[.slice (some ⟨g,0,none⟩) S.l.length cg,.slice ga ru.length gc]) (by simp [results,Tryz.results21,go_sem,k0,k1]) ?_;unfold StQ tpS;rw [Hr.out];exact⟨_,cg,_,gc,rfl,u2,u3⟩
def rnL (rep k:Nat):List Rn:=(List.range k).map fun i=>((rep:Int),((2*i+1:Nat):Int),((2*i+1:Nat):Int))
theorem rnL_len (rep k:Nat):(rnL rep k).length=k:=by simp [rnL]
theorem rnL_succ (rep k:Nat):rnL rep (k+1)=rnL rep k++[((rep:Int),((2*k+1:Nat):Int),((2*k+1:Nat):Int))]:=by simp [rnL,List.range_succ]
def rnS (n rep:Nat):Sx:=mkS [] (rnL rep n)
theorem rnS_gd {n rep:Nat}(hn:n<=1000):Gd (rnS n rep):=by
 refine⟨⟨by simp [rnS,mkS],fun i=>by simp [rnS,mkS,gL],by show (rnL rep n).length<=_;rw [rnL_len];omega⟩,fun i=>gL_fa (by simp [rnS,mkS]),fun i=> ?_⟩;show _<=(gR (rnL rep n) i).2.2/\ (gR (rnL rep n) i).2.2<=_;by_cases hi:i<n
 ·have e:gR (rnL rep n) i=((rep:Int),((2*i+1:Nat):Int),((2*i+1:Nat):Int)):=by simp [gR,List.getD,rnL,hi]
  rw [e];simp only;omega
 ·rw [gR_far (by rw [rnL_len];exact hi)];exact⟨by decide,by decide⟩
structure RnS (w wr:World)(rep j:Nat)(ra:Option Addr)(rc:Nat):Prop where
 bx:Bx2 wr (w.heap.size+1+1) (.slice (some ⟨w.heap.size+1,0,none⟩) 0 0) (.slice ra j rc)
 fr:FR wr (w.heap.size+1+1+1) (.slice ra j rc) (rnL rep j)
 rs:Bx2 wr w.heap.size (.slice none 0 0) (.slice none 0 0)
 low:Below w.heap.size w wr
 sz:w.heap.size+3<=wr.heap.size
theorem runsJ (n rep:Nat)(hn:n<=1000)(hrep:rep<8)(w:World):
  Calls Tryz.prog 23 #[.int .i64 (n:Int),.int .i64 (rep:Int)] w fun e w'=>StQ (rnS n rep) w e w':=by
 obtain⟨i0,Hj,Hm,Hn,Ho⟩:=info_parts Tryz.infoRun;have HI:Hid (RnS w (((w.alloc (.cells #[.slice none 0 0,.slice none 0 0] 28)).alloc (.cells #[] 60)).alloc (.cells #[.slice (some ⟨w.heap.size+1,0,none⟩) 0 0,.slice none 0 0] 28)) rep 0 none 0):=hid (by
  refine⟨?_,⟨rfl,.inl ⟨rfl,rfl⟩⟩,((Bx2.made w _ _ _).allocs _).allocs _,(below2 _ _ _).alloc (by simp;omega) _,by simp⟩;simpa using Bx2.made ((w.alloc (.cells #[.slice none 0 0,.slice none 0 0] 28)).alloc (.cells #[] 60)) (.slice (some ⟨w.heap.size+1,0,none⟩) 0 0) (.slice none 0 0) 28)
 go_enter Tryz.func23,Tryz.ntmps23;go_wp2_with fail;obtain⟨W3,Hh⟩:∃W3,(((w.alloc (.cells #[.slice none 0 0,.slice none 0 0] 28)).alloc (.cells #[] 60)).alloc (.cells #[.slice (some ⟨w.heap.size+1,0,none⟩) 0 0,.slice none 0 0] 28))=W3:=⟨_,rfl⟩;rw [Hh] at HI;try rw [Hh]
 clear Hh;go_loopw [6] (fun i wr=>∃(j:Nat) (ra:Option Addr) (rc:Nat),j<=n/\ i=.int .i64 (j:Int)/\ Hid (RnS w wr rep j ra rc)) (fun i _=>n - (intOf i).toNat);case atStart=>exact⟨0,_,_,Nat.zero_le _,rfl,HI⟩
 case round=>
  clear HI;obtain⟨j,ra,rc,hj,rfl,HS⟩:=hrel;by_cases Hk:j<n
  ·have i1:(j:Int)<(n:Int):=by omega
   have Hq:(j:Int)<1000:=by omega
   obtain⟨z,hz⟩:∃z:Nat,2*j+1=z:=⟨_,rfl⟩;have e1:IntKind.i64.wrap (2*(j:Int)+1)=(z:Int):=by rw [show 2*(j:Int)+1=(z:Int) by omega];exact wrapIn _ (by omega) (by omega)
   have e2:2*(j:Int)+1=(z:Int):=by omega
   have Hi:=HS.out.sz;have bB:Below wr.heap.size wr (wr.alloc (.cells #[.int .i64 (rep:Int),.int .i64 (z:Int),.int .i64 (z:Int)] 96)):=zO _ _;have f2:FR (wr.alloc (.cells #[.int .i64 (rep:Int),.int .i64 (z:Int),.int .i64 (z:Int)] 96)) (w.heap.size+1+1+1) (.slice ra j rc) (rnL rep j):=FR.below HS.out.fr bB;have Hg:(wr.alloc (.cells #[.int .i64 (rep:Int),.int .i64 (z:Int),.int .i64 (z:Int)] 96)).ownsRow (w.heap.size+1+1+1) 96 3 (.slice ra j rc) j (fCells (rnL rep j)):=by have:=f2;unfold FR at this;rw [rnL_len] at this;exact this
   obtain⟨v',w7,Hb,g2,g3,g4,g5⟩:=run_append_own_at (P:=Tryz.prog) (wr.alloc (.cells #[.int .i64 (rep:Int),.int .i64 (z:Int),.int .i64 (z:Int)] 96)) (w.heap.size+1+1+1) 24 24 96 i0 _ 3 24 Tryz.underlying24 Hj Hm Hn Ho rfl (by decide) (.slice ra j rc) j _ Hg ⟨wr.heap.size,0,none⟩ 1 1 [.int .i64 (rep:Int),.int .i64 (z:Int),.int .i64 (z:Int)] rfl (cell3A wr _ _ _ _) (fun u hu=>by
    simp only [List.mem_cons,List.not_mem_nil,or_false] at hu;rcases hu with e|e|e<;>rw [e]<;>rfl) (by unfold maxLen;omega) (by omega) (by simp;omega)
   rcases g2.2 with ⟨hv,h0⟩|⟨q',Ha,Hp,hv,r⟩
   ·omega
   subst hv;have Hf:∀k,(Value.slice ra j rc).ownBlock=some k ->w.heap.size+1+1+1<=k:=fun k e=>(World.ownsRow.lt Hg k e).1;have He:=(HS.out.bx.below bB HS.out.bx.lt).gr g3 (fun k e e2=>by have:=Hf k e;omega);have Hd:=(HS.out.rs.below bB HS.out.rs.lt).gr g3 (fun k e e2=>by have:=Hf k e;omega);have Hc:Below w.heap.size w w7:=(keepS HS.out.low bB).grown g3 (keepS HS.out.low bB).size (fun k e=>by have:=Hf k e;omega);have z7:=g3.size;have Hl:=(World.ownsRow.lt g2 q' rfl).1;have HN:Hid (RnS w (w7.setCell ⟨w.heap.size+1+1,1,none⟩ (.slice (some ⟨q',0,none⟩) (j+1) Ha)) rep (j+1) (some ⟨q',0,none⟩) Ha):=hid (by
    refine⟨He.set1 _,?_,Hd.setAt _ _ (by show w.heap.size+1+1≠w.heap.size;omega),Hc.setCell (p:=⟨w.heap.size+1+1,1,none⟩) (by simp;omega) _,by simp at z7;simp [World.setCell];omega⟩;refine FR.setFar ?_ _ _ (fun e=>by have e:=own_eq e;simp only at e;omega);unfold FR;rw [rnL_succ,hz,List.length_append,List.length_singleton,rnL_len,fCells_snoc];exact g2)
   have x0:=HS.out.bx.c1;have x1:=(HS.out.bx.below bB HS.out.bx.lt).c1;have y0:=He.c1;have yf:=He.f;clear hz bB f2 Hg g2 g3 g4 g5 r Hf He Hd Hc z7 Hl HS Hi;go_wp2_with (at_builtin;refine wpList_app2 rfl _ _ _ _ rfl Hb (by rfl) (by rfl) rfl ?_;clear Hb);go_roundw;case rel=>exact⟨j+1,_,_,Hk,by go_num,HN⟩
   case measure=>simp [intOf];omega
  ·obtain rfl:j=n:=by omega
   have i1:¬(j:Int)<(j:Int):=by omega
   have Hi:=HS.out.sz;have Hd:=HS.out.rs.set (.slice (some ⟨w.heap.size+1,0,none⟩) 0 0) (.slice ra j rc);have f7:=(HS.out.fr.setFar ⟨w.heap.size,0,none⟩ (.slice (some ⟨w.heap.size+1,0,none⟩) 0 0) (fun e=>by have:=(World.ownsRow.lt HS.out.fr _ e).1;simp only at this;omega)).setFar ⟨w.heap.size,1,none⟩ (.slice ra j rc) (fun e=>by have:=(World.ownsRow.lt HS.out.fr _ e).1;simp only at this;omega);have b7:=(HS.out.low.setCell (p:=⟨w.heap.size,0,none⟩) zL (.slice (some ⟨w.heap.size+1,0,none⟩) 0 0)).setCell (p:=⟨w.heap.size,1,none⟩) zL (.slice ra j rc);have HF:=hid (And.intro Hd (And.intro f7 b7));have x0:=HS.out.bx.c0;have x1:=HS.out.bx.c1;have o0:=HS.out.rs.c0;have o1:=HS.out.rs.c1;have of:=HS.out.rs.f;clear Hd f7 b7;go_wp2_with fail;obtain⟨u1,u2,u3⟩:=HF.out;have k0:=u1.c0;have k1:=u1.c1;refine zF (v:=.agg #[.slice (some ⟨w.heap.size+1,0,none⟩) 0 0,.slice ra j rc]) (by simp [results,Tryz.results23,go_sem,k0,k1]) ?_;refine⟨some ⟨w.heap.size+1,0,none⟩,0,ra,rc,?_,fun w' h1 h2=>⟨.inl rfl,?_⟩,u3⟩
   ·show _=Ending.returned (.agg #[.slice _ 0 0,.slice ra (rnL rep j).length rc]);rw [rnL_len]
   ·have hF:=own_at5 u2 (w':=w') (fun q hq=>h2 q (by have:=(World.ownsRow.lt u2 q hq).1;omega) (World.ownsRow.lt u2 q hq).2);obtain⟨a',c',e,s,_,_⟩:=FR.fs (l:=rnL rep j) hF;injection e with e1 e2 e3;subst e1;exact s.rseg
def dwS (k:Nat)(s:Sx):Sx×Int:=
 if k%16=15 then(s,((k/16:Nat):Int) - 4) else if k%16=14 then(tpS s (k%3),((k%3:Nat):Int)) else if k%32=13 then(wdS (999+k/32%2) 0 false,((k%3:Nat):Int)) else if k%32=12 then(rnS (1000 - k/32%2) 2,((k/64%2:Nat):Int)) else(s,((k%3:Nat):Int))
theorem dwS_ok {k:Nat}{s:Sx}(hk:k<256)(h:Gp s):Gd (dwS k s).1/\ -4<=(dwS k s).2/\ (dwS k s).2<=255:=by
 unfold dwS;repeat' split
 ·exact⟨h.gd,by simp only;omega⟩
 ·exact⟨tpS_gd h (by omega),by simp only;omega⟩
 ·exact⟨wdS_gd (by omega) (by omega),by simp only;omega⟩
 ·exact⟨rnS_gd (by omega),by simp only;omega⟩
 ·exact⟨h.gd,by simp only;omega⟩
def DwQ (S:Sx)(rep:Int)(p:List ByteArray)(v:ByteArray)(w:World)(e:Ending)(w':World):Prop:=∃a c y d pa pc,e=.returned (.tuple #[.agg #[.slice a S.l.length c,.slice y S.n d],.int .i64 rep,.slice pa p.length pc,.string v])/\ SNc w' w.heap.size a y S/\ PtN w' w.heap.size pa pc p/\ Below w.heap.size w w'
theorem dwFin {w wA U:World}{lo lo':Nat}{pa a y:Option Addr}{pc:Nat}{p:List ByteArray}{S:Sx}(hw:Below w.heap.size w wA)(hA:Below wA.heap.size wA U)(R:Bx2 U w.heap.size (.slice none 0 0) (.slice none 0 0))(hp:PtN wA lo pa pc p)(hlo:w.heap.size<lo)(s:SNc U lo' a y S)(hlo':w.heap.size<lo')(c d:Nat):
  let V:=(U.setCell ⟨w.heap.size,0,none⟩ (.slice a S.l.length c)).setCell ⟨w.heap.size,1,none⟩ (.slice y S.n d)
  Bx2 V w.heap.size (.slice a S.l.length c) (.slice y S.n d)/\ SNc V w.heap.size a y S/\ PtN V w.heap.size pa pc p/\ Below w.heap.size w V:=by
 intro V;have bk:∀q,w.heap.size<q ->V.heap[q]? =U.heap[q]? :=fun q h=>by
  show ((U.setCell ⟨w.heap.size,0,none⟩ _).setCell ⟨w.heap.size,1,none⟩ _).heap[q]? =_;rw [zH _ _ _ _ (by simp;omega),zH _ _ _ _ (by simp;omega)]
 have sz:V.heap.size=U.heap.size:=by simp [V,World.setCell]
 have hs:=hA.size;exact⟨R.set _ _,s.move (by omega) (by omega) (fun q h1 h2=>bk q (by omega)),hp.move (by omega) (by omega) (fun q h1 h2=>(bk q (by omega)).trans (hA.block q h2)),((keepS hw hA).setCell (p:=⟨w.heap.size,0,none⟩) zL _).setCell (p:=⟨w.heap.size,1,none⟩) zL _⟩
theorem belGrown {w w1 w2:World}{rb:Nat}(h:Below w.heap.size w w1)(g:w1.grownBy w2 (some rb))(hr:w.heap.size<=rb):Below w.heap.size w w2:=h.grown g h.size (fun k e=>by injection e with e;omega)
theorem drawWrJ (f:Nat ->Int)(hf:Byt f)(n:Nat)(hn:n<=9223372036854775807):∃S rep p v,(Gd S/\ (-4<=rep/\ rep<=255)/\ p.length<=9/\ v.size<=201)/\∀(a:Option Addr) (c:Nat) (w:World),n<=c ->Seg w a n f ->
  Calls Tryz.prog 4 #[.slice a n c] w fun e w'=>DwQ S rep p v w e w':=by
 obtain⟨N,hN⟩:∃N,min n 1000=N:=⟨_,rfl⟩;obtain⟨p,hp⟩:=pathJ f N (rx N 0);obtain⟨v,Gl,hv⟩:=valueJ f N (rx N (rx N 0));obtain⟨s,x4,hs⟩:=anyJ f hf N (rx N (rx N (rx N 0)));obtain⟨k,hk⟩:∃k,rk f N 0=k:=⟨_,rfl⟩;have Hn:k<256:=by rw [<- hk];exact rk_byt hf N 0
 obtain⟨R,hR⟩:∃R,dwS k s=R:=⟨_,rfl⟩;have Hy:=dwS_ok Hn hs.1;rw [hR] at Hy;refine⟨R.1,R.2,p,v,⟨Hy.1,Hy.2,hp.1,Gl⟩,fun a c w hc hseg=> ?_⟩;obtain⟨W,hW⟩:∃W,w.alloc (.cells #[.slice none 0 0,.slice none 0 0] 28)=W:=⟨_,rfl⟩;have b0:Below w.heap.size w W:=by rw [<- hW];exact zO _ _
 have R0:Bx2 W w.heap.size (.slice none 0 0) (.slice none 0 0):=by rw [<- hW];exact Bx2.made _ _ _ _
 have HO:=hid (rdOpenJ a n c f W hc hn (hseg.below b0) hf);rw [hN] at HO;have HK:=hid hk;have HR:=hid hR;have HP:=hid hp.2;have HV:=hid hv;have HS:=hid hs;have Hq:=hid R0;have H1:=hid b0;clear b0 R0 hk hR hp hv hs Hy hseg hN;go_enter Tryz.func4,Tryz.ntmps4;go_wp2_with fail;try rw [hW]
 clear hW;refine HO.out.mono ?_;rintro e w1 ⟨rfl,r1,b1⟩;have Gm:w.heap.size+1<=W.heap.size:=Hq.out.lt;obtain⟨rb,Gh⟩:∃rb,W.heap.size=rb:=⟨_,rfl⟩;have H2:Hid (Below w.heap.size w w1):=hid (keepS H1.out b1);have Ga:=hid (Hq.out.below b1 Hq.out.lt);rw [Gh] at r1 Gm ⊢;have Gf:Hid (rb+1<=w1.heap.size):=hid r1.lt.1;have HN:=hid (rdNextJ (rb+1) rb f N 0 w1 r1);rw [HK.out] at HN;clear r1 b1 Gh HO Hq H1;go_wp2_with fail;refine HN.out.mono ?_;rintro e w2 ⟨rfl,r2,g2⟩;have H3:=hid (belGrown H2.out g2 (by omega));have Gb:=hid (Ga.out.grw g2 (by omega));have Ht:Hid (rb+1<=w2.heap.size):=hid (Nat.le_trans Gf.out g2.size);have HC:=hid (HP.out (rb+1) rb w2 Ht.out r2);clear r2 g2 HN H2 Ga Gf HP;go_wp2_with fail;refine HC.out.mono ?_;rintro e w3 ⟨pa,pc,rfl,Gi,r3,g3⟩;have H4:=hid (belGrown H3.out g3 (by omega));have Gc:=hid (Gb.out.grw g3 (by omega));have Hz:Hid (rb+1<=w3.heap.size):=hid (Nat.le_trans Ht.out g3.size);have H8:Hid (PtN w3 (rb+1) pa pc p):=hid (Gi.move Ht.out zL (fun _ _ _=>rfl));have H6:=hid (HV.out (rb+1) rb w3 Hz.out r3);clear r3 g3 Gi HC H3 Gb Ht HV;go_wp2_with fail;refine H6.out.mono ?_;rintro e w4 ⟨rfl,r4,g4⟩;have H5:=hid (belGrown H4.out g4 (by omega));have Ge:=hid (Gc.out.grw g4 (by omega));have Hk:Hid (rb+1<=w4.heap.size):=hid (Nat.le_trans Hz.out g4.size);have H9:=hid (PtN.gr H8.out g4 (Nat.lt_succ_self _));have H7:=hid (HS.out.2 (rb+1) rb w4 Hk.out r4);clear r4 g4 H6 H4 Gc Hz H8;go_wp2_with fail;refine H7.out.mono ?_;rintro e w5 ⟨sa,sc,sy,sd,rfl,s5,_,g5⟩;have Hh:=hid (belGrown H5.out g5 (by omega));have R5:=Ge.out.grw g5 (by omega);have Hj:=hid (PtN.gr H9.out g5 (Nat.lt_succ_self _));obtain⟨W6,Hd⟩:∃W6,w5.alloc (.cells #[.slice sa s.l.length sc,.slice sy s.n sd] 28)=W6:=⟨_,rfl⟩;have b6:Below w5.heap.size w5 W6:=by rw [<- Hd];exact zO _ _
 have X6:Bx2 W6 w5.heap.size (.slice sa s.l.length sc) (.slice sy s.n sd):=by rw [<- Hd];exact Bx2.made _ _ _ _
 have Ha:=hid (R5.below b6 R5.lt);have Hr:=hid (s5.below b6);have He:=hid X6;have Hi:=hid b6;have Hb:Hid (w.heap.size<w4.heap.size/\ w.heap.size<w5.heap.size):=hid ⟨by have:=Hk.out;omega,by have:=Hk.out;have:=g5.size;omega⟩;have Go:rb+1<=w5.heap.size:=Nat.le_trans Hk.out g5.size;have x0:=X6.c0;have x1:=X6.c1;have o0:=Ha.out.c0;have o1:=Ha.out.c1;have of:=Ha.out.f;clear s5 g5 R5 b6 X6 H7 H5 Ge Hk H9;obtain⟨b7,Gg⟩:∃b7,w5.heap.size=b7:=⟨_,rfl⟩;have Gj:=hid Gg;obtain⟨r,hr⟩:∃r,k%3=r:=⟨_,rfl⟩;have er:(k:Int)%3=(r:Int):=by omega
 clear Gg Gj;by_cases Hg:k%16=15
 ·
  have Gk:((k:Int)%16==15)=true:=by rw [beq_iff_eq];omega
  have Hw:((k:Int)%16==14)=false:=by rw [beq_eq_false_iff_ne];omega
  have Hv:((k:Int)%32==13)=false:=by rw [beq_eq_false_iff_ne];omega
  have Hu:((k:Int)%32==12)=false:=by rw [beq_eq_false_iff_ne];omega
  obtain⟨q,hq⟩:∃q:Int,(k:Int)/16 - 4=q:=⟨_,rfl⟩;have wq:IntKind.i64.wrap ((k:Int)/16 - 4)=q:=by rw [hq];exact wrapIn _ (by omega) (by omega)
  have HE:Hid (R=(s,q)):=hid (by rw [<- HR.out];unfold dwS;rw [if_pos Hg];congr 1;try omega);clear hr Hg;have HF:=hid (dwFin Hh.out Hi.out Ha.out Hj.out (by omega) Hr.out Hb.out.1 sc sd);go_wp2_with fail;try rw [Hd]
  obtain⟨u1,u2,u3,u4⟩:=HF.out;have k0:=u1.c0;have k1:=u1.c1;refine zF (v:=.tuple #[.agg #[.slice sa (s).l.length sc,.slice sy (s).n sd],.int .i64 q,.slice pa p.length pc,.string v]) (by simp [results,Tryz.results4,go_sem,k0,k1]) ?_;rw [HE.out];exact⟨_,sc,_,sd,pa,pc,rfl,u2,u3,u4⟩
 ·have Gk:((k:Int)%16==15)=false:=by rw [beq_eq_false_iff_ne];omega
  by_cases Hl:k%16=14
  ·
   have Hw:((k:Int)%16==14)=true:=by rw [beq_iff_eq];omega
   have Hv:((k:Int)%32==13)=false:=by rw [beq_eq_false_iff_ne];omega
   have Hu:((k:Int)%32==12)=false:=by rw [beq_eq_false_iff_ne];omega
   have Gn:(0:Int)<=(r:Int):=Int.natCast_nonneg _;have HE:Hid (R=(tpS s r,(r:Int))):=hid (by rw [<- HR.out];unfold dwS;rw [if_neg Hg,if_pos Hl,hr]);have Hp:r<256:=by omega
   clear hr Hl;have HC:=hid (topJ sa sy sc sd r s W6 HS.out.1 Hp ⟨Hr.out.at.1,Hr.out.at.2⟩);clear o0 o1 of;go_wp2_with fail;try rw [Hd]
   clear Hd;refine HC.out.mono ?_;rintro e w8 ⟨ta,tc,ty,td,rfl,s8,b8⟩;have X8:=He.out.below b8 He.out.lt;have R8:=Ha.out.below b8 Ha.out.lt;have Hc:w5.heap.size<W6.heap.size:=He.out.lt;have X9:=X8.set (.slice ta (tpS s r).l.length tc) (.slice ty (tpS s r).n td);have R9:=(R8.setAt ⟨w5.heap.size,0,none⟩ (.slice ta (tpS s r).l.length tc) (by show w5.heap.size≠w.heap.size;have:=Hb.out;omega)).setAt ⟨w5.heap.size,1,none⟩ (.slice ty (tpS s r).n td) (by show w5.heap.size≠w.heap.size;have:=Hb.out;omega);have b9:=((keepS Hi.out b8).setCell (p:=⟨w5.heap.size,0,none⟩) zL (.slice ta (tpS s r).l.length tc)).setCell (p:=⟨w5.heap.size,1,none⟩) zL (.slice ty (tpS s r).n td);have s9:SNc ((w8.setCell ⟨w5.heap.size,0,none⟩ (.slice ta (tpS s r).l.length tc)).setCell ⟨w5.heap.size,1,none⟩ (.slice ty (tpS s r).n td)) W6.heap.size ta ty (tpS s r):=s8.move zL (by simp [World.setCell]) (fun q h1 h2=>by rw [zH _ _ _ _ (by simp;omega),zH _ _ _ _ (by simp;omega)]);obtain⟨W9,Hm⟩:∃W9,(w8.setCell ⟨w5.heap.size,0,none⟩ (.slice ta (tpS s r).l.length tc)).setCell ⟨w5.heap.size,1,none⟩ (.slice ty (tpS s r).n td)=W9:=⟨_,rfl⟩;rw [Hm] at X9 R9 b9 s9;have HF:=hid (dwFin Hh.out b9 R9 Hj.out (by omega) s9 (by have:=Hb.out;omega) tc td);have y0:=X8.c0;have y1:=X8.c1;have yf:=X8.f;have z0:=X9.c0;have z1:=X9.c1;have o0:=R9.c0;have o1:=R9.c1;have of:=R9.f;clear s8 b8 X8 R8 X9 R9 b9 s9 HC x0 x1 Hc;go_wp2_with fail;obtain⟨u1,u2,u3,u4⟩:=HF.out;have k0:=u1.c0;have k1:=u1.c1;refine zF (v:=.tuple #[.agg #[.slice ta (tpS s r).l.length tc,.slice ty (tpS s r).n td],.int .i64 (r:Int),.slice pa p.length pc,.string v]) (by simp [results,Tryz.results4,go_sem,k0,k1]) ?_;rw [HE.out];exact⟨_,tc,_,td,pa,pc,rfl,u2,u3,u4⟩
  ·by_cases Hx:k%32=13
   ·
    have Hw:((k:Int)%16==14)=false:=by rw [beq_eq_false_iff_ne];omega
    have Hv:((k:Int)%32==13)=true:=by rw [beq_iff_eq];omega
    have Hu:((k:Int)%32==12)=false:=by rw [beq_eq_false_iff_ne];omega
    obtain⟨nw,Ho⟩:∃nw,999+k/32%2=nw:=⟨_,rfl⟩;have en:IntKind.i64.wrap (999+(k:Int)/32%2)=(nw:Int):=by rw [show 999+(k:Int)/32%2=(nw:Int) by omega];exact wrapIn _ (by omega) (by omega)
    have HE:Hid (R=(wdS nw 0 false,(r:Int))):=hid (by rw [<- HR.out];unfold dwS;rw [if_neg Hg,if_neg Hl,if_pos Hx,hr,Ho]);have Hf:nw<=1000:=by omega
    have Hs:=hid (wideJ nw 0 false Hf (by omega) W6);simp only [Bool.false_eq_true,if_false] at Hs;clear hr Ho Hx;have HC:=hid (Hs.out);clear o0 o1 of;go_wp2_with fail;try rw [Hd]
    clear Hd;refine HC.out.mono ?_;rintro e w8 ⟨ta,tc,ty,td,rfl,s8,b8⟩;have X8:=He.out.below b8 He.out.lt;have R8:=Ha.out.below b8 Ha.out.lt;have Hc:w5.heap.size<W6.heap.size:=He.out.lt;have X9:=X8.set (.slice ta (wdS nw 0 false).l.length tc) (.slice ty (wdS nw 0 false).n td);have R9:=(R8.setAt ⟨w5.heap.size,0,none⟩ (.slice ta (wdS nw 0 false).l.length tc) (by show w5.heap.size≠w.heap.size;have:=Hb.out;omega)).setAt ⟨w5.heap.size,1,none⟩ (.slice ty (wdS nw 0 false).n td) (by show w5.heap.size≠w.heap.size;have:=Hb.out;omega);have b9:=((keepS Hi.out b8).setCell (p:=⟨w5.heap.size,0,none⟩) zL (.slice ta (wdS nw 0 false).l.length tc)).setCell (p:=⟨w5.heap.size,1,none⟩) zL (.slice ty (wdS nw 0 false).n td);have s9:SNc ((w8.setCell ⟨w5.heap.size,0,none⟩ (.slice ta (wdS nw 0 false).l.length tc)).setCell ⟨w5.heap.size,1,none⟩ (.slice ty (wdS nw 0 false).n td)) W6.heap.size ta ty (wdS nw 0 false):=s8.move zL (by simp [World.setCell]) (fun q h1 h2=>by rw [zH _ _ _ _ (by simp;omega),zH _ _ _ _ (by simp;omega)]);obtain⟨W9,Hm⟩:∃W9,(w8.setCell ⟨w5.heap.size,0,none⟩ (.slice ta (wdS nw 0 false).l.length tc)).setCell ⟨w5.heap.size,1,none⟩ (.slice ty (wdS nw 0 false).n td)=W9:=⟨_,rfl⟩;rw [Hm] at X9 R9 b9 s9;have HF:=hid (dwFin Hh.out b9 R9 Hj.out (by omega) s9 (by have:=Hb.out;omega) tc td);have y0:=X8.c0;have y1:=X8.c1;have yf:=X8.f;have z0:=X9.c0;have z1:=X9.c1;have o0:=R9.c0;have o1:=R9.c1;have of:=R9.f;clear s8 b8 X8 R8 X9 R9 b9 s9 HC x0 x1 Hc;go_wp2_with fail;obtain⟨u1,u2,u3,u4⟩:=HF.out;have k0:=u1.c0;have k1:=u1.c1;refine zF (v:=.tuple #[.agg #[.slice ta (wdS nw 0 false).l.length tc,.slice ty (wdS nw 0 false).n td],.int .i64 (r:Int),.slice pa p.length pc,.string v]) (by simp [results,Tryz.results4,go_sem,k0,k1]) ?_;rw [HE.out];exact⟨_,tc,_,td,pa,pc,rfl,u2,u3,u4⟩
   ·by_cases H0:k%32=12
    ·
     have Hw:((k:Int)%16==14)=false:=by rw [beq_eq_false_iff_ne];omega
     have Hv:((k:Int)%32==13)=false:=by rw [beq_eq_false_iff_ne];omega
     have Hu:((k:Int)%32==12)=true:=by rw [beq_iff_eq];omega
     obtain⟨nw,Ho⟩:∃nw,1000 - k/32%2=nw:=⟨_,rfl⟩;have en:IntKind.i64.wrap (1000 - (k:Int)/32%2)=(nw:Int):=by rw [show 1000 - (k:Int)/32%2=(nw:Int) by omega];exact wrapIn _ (by omega) (by omega)
     obtain⟨q,hq⟩:∃q,k/64%2=q:=⟨_,rfl⟩;have eq:(k:Int)/64%2=(q:Int):=by omega
     have HE:Hid (R=(rnS nw 2,(q:Int))):=hid (by rw [<- HR.out];unfold dwS;rw [if_neg Hg,if_neg Hl,if_neg Hx,if_pos H0,hq,Ho]);have Hf:nw<=1000:=by omega
     have Hs:=hid (runsJ nw 2 Hf (by omega) W6);clear hr Ho hq H0;have HC:=hid (Hs.out);clear o0 o1 of;go_wp2_with fail;try rw [Hd]
     clear Hd;refine HC.out.mono ?_;rintro e w8 ⟨ta,tc,ty,td,rfl,s8,b8⟩;have X8:=He.out.below b8 He.out.lt;have R8:=Ha.out.below b8 Ha.out.lt;have Hc:w5.heap.size<W6.heap.size:=He.out.lt;have X9:=X8.set (.slice ta (rnS nw 2).l.length tc) (.slice ty (rnS nw 2).n td);have R9:=(R8.setAt ⟨w5.heap.size,0,none⟩ (.slice ta (rnS nw 2).l.length tc) (by show w5.heap.size≠w.heap.size;have:=Hb.out;omega)).setAt ⟨w5.heap.size,1,none⟩ (.slice ty (rnS nw 2).n td) (by show w5.heap.size≠w.heap.size;have:=Hb.out;omega);have b9:=((keepS Hi.out b8).setCell (p:=⟨w5.heap.size,0,none⟩) zL (.slice ta (rnS nw 2).l.length tc)).setCell (p:=⟨w5.heap.size,1,none⟩) zL (.slice ty (rnS nw 2).n td);have s9:SNc ((w8.setCell ⟨w5.heap.size,0,none⟩ (.slice ta (rnS nw 2).l.length tc)).setCell ⟨w5.heap.size,1,none⟩ (.slice ty (rnS nw 2).n td)) W6.heap.size ta ty (rnS nw 2):=s8.move zL (by simp [World.setCell]) (fun q h1 h2=>by rw [zH _ _ _ _ (by simp;omega),zH _ _ _ _ (by simp;omega)]);obtain⟨W9,Hm⟩:∃W9,(w8.setCell ⟨w5.heap.size,0,none⟩ (.slice ta (rnS nw 2).l.length tc)).setCell ⟨w5.heap.size,1,none⟩ (.slice ty (rnS nw 2).n td)=W9:=⟨_,rfl⟩;rw [Hm] at X9 R9 b9 s9;have HF:=hid (dwFin Hh.out b9 R9 Hj.out (by omega) s9 (by have:=Hb.out;omega) tc td);have y0:=X8.c0;have y1:=X8.c1;have yf:=X8.f;have z0:=X9.c0;have z1:=X9.c1;have o0:=R9.c0;have o1:=R9.c1;have of:=R9.f;clear s8 b8 X8 R8 X9 R9 b9 s9 HC x0 x1 Hc;go_wp2_with fail;obtain⟨u1,u2,u3,u4⟩:=HF.out;have k0:=u1.c0;have k1:=u1.c1;refine zF (v:=.tuple #[.agg #[.slice ta (rnS nw 2).l.length tc,.slice ty (rnS nw 2).n td],.int .i64 (q:Int),.slice pa p.length pc,.string v]) (by simp [results,Tryz.results4,go_sem,k0,k1,eq]) ?_;rw [HE.out];exact⟨_,tc,_,td,pa,pc,rfl,u2,u3,u4⟩
    ·
     have Hw:((k:Int)%16==14)=false:=by rw [beq_eq_false_iff_ne];omega
     have Hv:((k:Int)%32==13)=false:=by rw [beq_eq_false_iff_ne];omega
     have Hu:((k:Int)%32==12)=false:=by rw [beq_eq_false_iff_ne];omega
     have HE:Hid (R=(s,(r:Int))):=hid (by rw [<- HR.out];unfold dwS;rw [if_neg Hg,if_neg Hl,if_neg Hx,if_neg H0,hr]);clear hr;have HF:=hid (dwFin Hh.out Hi.out Ha.out Hj.out (by omega) Hr.out Hb.out.1 sc sd);go_wp2_with fail;try rw [Hd]
     obtain⟨u1,u2,u3,u4⟩:=HF.out;have k0:=u1.c0;have k1:=u1.c1;refine zF (v:=.tuple #[.agg #[.slice sa (s).l.length sc,.slice sy (s).n sd],.int .i64 (r:Int),.slice pa p.length pc,.string v]) (by simp [results,Tryz.results4,go_sem,k0,k1,er]) ?_;rw [HE.out];exact⟨_,sc,_,sd,pa,pc,rfl,u2,u3,u4⟩
end Go.Proofs.YtfidfeilljlbiaaGreat
