import Derived.Test.YtpfmeafmepgimaaGreatFkg24
import Derived.Test.YtpfmeafmepgimaaGreatFkg28
import Derived.Test.YtpfmeafmepgimaaGreatFkg30
import Derived.Deep.CutRange
set_option linter.unusedVariables false
set_option linter.unusedSimpArgs false
set_option maxRecDepth 100000
set_option maxHeartbeats 40000000
namespace Go.Proofs.YtpfmeafmepgimaaGreat
open Go.ChangeShapes Go.WideShapes Go.ChangeAt Go.RowKit Go.Deep
def spY (k:Nat)(y:Lf):Lf:=
 if k%8=1 then⟨y.p++[⟨#[]⟩],y.fl,y.r,y.q,y.v⟩
 else if k%8=2 then⟨y.p, !y.fl,y.r,y.q,y.v⟩
 else if k%8=3 then⟨y.p,y.fl,y.r,y.q+1,y.v⟩
 else if k%8=4 then⟨y.p,y.fl,y.r,y.q,txJ (rpt ⟨#[118]⟩ (200+k/128))⟩
 else if k%8=5 then y
 else if k%8=6 then⟨y.p,y.fl,7,y.q,y.v⟩
 else⟨y.p.set 0 ⟨#[99]⟩,y.fl,y.r,y.q,y.v⟩
def spL (k:Nat)(l:List Lf):List Lf:=(if k%8=5 then l++[gL l (k/8%l.length)] else l).set (k/8%l.length) (spY k (gL l (k/8%l.length)))
def spS (f:Nat ->Int)(n x:Nat)(S:Sx):Sx:=if rk f n x%8=0 \/S.l.length=0 then mkS S.l (spF (rk f n (rx n x)) (fS S)) else mkS (spL (rk f n x) S.l) (fS S)
def spX (f:Nat ->Int)(n x:Nat)(S:Sx):Nat:=if rk f n x%8=0 \/S.l.length=0 then rx n (rx n x) else rx n x
theorem gL_set (l:List Lf){i:Nat}(hi:i<l.length)(y:Lf)(j:Nat):gL (l.set i y) j=if j=i then y else gL l j:=by
 by_cases e:j=i
 ·subst e;rw [if_pos rfl];simp [gL,List.getD,hi]
 ·rw [if_neg e];simp [gL,List.getD,List.getElem?_set_ne (fun h=>e h.symm)]
theorem spY_ok {k:Nat}{y:Lf}(hp:y.p.length<=8)(hr:0<=y.r/\ y.r<=1000000000)(hq:0<=y.q/\ y.q<=1000000000):(spY k y).p.length<=9/\ LfI (spY k y):=by
 have a:∀r q:Int,0<=r/\ r<=1000000001 ->0<=q/\ q<=1000000001 ->∀p f v,LfI ⟨p,f,r,q,v⟩:=fun r q h1 h2 p f v=>⟨wfI (by simp only;omega) (by simp only;omega),wfI (by simp only;omega) (by simp only;omega)⟩;obtain⟨yp,yf,yr,yq,yv⟩:=y;simp only at hp hr hq;unfold spY;repeat' split
 all_goals refine⟨by simp<;>omega,a _ _ (by first|omega|(dsimp only;omega)) (by first|omega|(dsimp only;omega)) _ _ _⟩
theorem vd_num {S:Sx}(h:Vd S){i:Nat}(hi:i<S.l.length):1<=(gL S.l i).p.length/\ (gL S.l i).p.length<=8/\ (0<=(gL S.l i).r/\ (gL S.l i).r<=1000000000)/\ (0<=(gL S.l i).q/\ (gL S.l i).q<=1000000000):=by
 have a:=ok_pth h i hi;have b:=has_rok (ok_okTo h) (ok_has h _ (gL_mem.2 ⟨i,hi,rfl⟩));unfold Rok dtR at b;simp only at b;exact⟨a.1,a.2,by omega,by omega⟩
theorem gL_fa {l:List Lf}{i:Nat}(h:¬i<l.length):LfI (gL l i):=by
 rw [show gL l i=⟨[],false,0,0,ByteArray.empty⟩ by simp [gL,List.getD,h]];exact⟨by decide,by decide⟩
theorem Dr.gd {S:Sx}(h:Dr S):Gd S:=by
 have hl:=h.vd.2.1;refine⟨⟨by omega,fun i=> ?_,by have:=(ctxB_iff.1 h.vd.1).2;omega⟩,fun i=> ?_,h.t⟩
 ·by_cases hi:i<S.l.length
  ·have:=(vd_num h.vd hi).2.1;omega
  ·rw [gL_far hi];simp
 ·by_cases hi:i<S.l.length
  ·obtain⟨_,_,b,c⟩:=vd_num h.vd hi;exact⟨wfI (by omega) (by omega),wfI (by omega) (by omega)⟩
  ·exact gL_fa hi
theorem mkS_gd {l:List Lf}{u:List Rn}(h1:l.length<=1001)(h2:∀i,i<l.length ->(gL l i).p.length<=9/\ LfI (gL l i))(h3:u.length<=1001)(h4:BSn u):Gd (mkS l u):=by
 refine⟨⟨by show l.length<=_;omega,fun i=> ?_,by show u.length<=_;omega⟩,fun i=> ?_,fun i=> ?_⟩
 ·show (gL l i).p.length<=_;by_cases hi:i<l.length
  ·have:=(h2 i hi).1;omega
  ·rw [gL_far hi];simp
 ·show LfI (gL l i);by_cases hi:i<l.length
  ·exact(h2 i hi).2
  ·exact gL_fa hi
 ·show _<=(gR u i).2.2/\ (gR u i).2.2<=_;by_cases hi:i<u.length
  ·have:=h4 _ (gR_mem hi);omega
  ·rw [gR_far hi];exact⟨by decide,by decide⟩
theorem spS_gd {f:Nat ->Int}{n x:Nat}{S:Sx}(hS:Dr S)(hk:rk f n (rx n x)<256):Gd (spS f n x S):=by
 have hl:=hS.vd.2.1;have hu:=vd_srt hS.vd;have hn:=(ctxB_iff.1 hS.vd.1).2;have v8:∀i,i<S.l.length ->(gL S.l i).p.length<=9/\ LfI (gL S.l i):=fun i hi=>by
  obtain⟨_,a,b,c⟩:=vd_num hS.vd hi;exact⟨by omega,wfI (by omega) (by omega),wfI (by omega) (by omega)⟩
 have fl:=fS_len S;unfold spS;split
 ·obtain⟨a,b⟩:=spF_ok hk hu.br;exact mkS_gd (by omega) v8 (by omega) b
 ·rename_i h0;have hi:rk f n x/8%S.l.length<S.l.length:=Nat.mod_lt _ (by omega);unfold spL;generalize rk f n x=k at h0 hi ⊢;generalize k/8%S.l.length=i at hi ⊢;obtain⟨_,a,b,c⟩:=vd_num hS.vd hi;have hy:=spY_ok (k:=k) a b c;generalize spY k (gL S.l i)=y at hy ⊢;have e:∀l:List Lf,l.length<=1001 ->i<l.length ->(∀j,j<l.length ->(gL l j).p.length<=9/\ LfI (gL l j)) ->Gd (mkS (l.set i y) (fS S)):=fun l h1 h2 h3=>by
   refine mkS_gd (by simpa using h1) (fun j hj=> ?_) (by omega) hu.br.bs;rw [gL_set l h2 y j];split
   ·exact hy
   ·exact h3 j (by simpa using hj)
  split
  ·refine e _ (by simp;omega) (by simp;omega) (fun j hj=> ?_);by_cases h2:j<S.l.length
   ·rw [gL_pre _ _ h2];exact v8 j h2
   ·have e2:j=S.l.length:=by simp at hj;omega
    rw [e2,gL_end];exact v8 i hi
  ·exact e _ (by omega) hi v8
theorem lCp_set (l:List Lf)(P Q:Nat ->Nat){i:Nat}(hi:i<l.length)(y:Lf)(p pc:Nat):
  (((((((List.range (l.length*5)).map (lCp l P Q)).set (i*5) (.slice (some ⟨p,0,none⟩) y.p.length pc)).set (i*5+1) (.bool y.fl)).set (i*5+2) (.int .i64 y.r)).set (i*5+3) (.int .i64 y.q)).set (i*5+4) (.string y.v))=(List.range (l.length*5)).map (lCp (l.set i y) (fun t=>if t=i then p else P t) (fun t=>if t=i then pc else Q t)):=by
 refine List.ext_getElem (by simp) (fun j h1 h2=> ?_);have hj:j<l.length*5:=by simpa using h2
 obtain⟨e0,e1,e2,e3,e4⟩:=lCp0 (l.set i y) (fun t=>if t=i then p else P t) (fun t=>if t=i then pc else Q t) i;rw [gL_set l hi y i] at e0 e1 e2 e3 e4;simp only [if_pos] at e0 e1 e2 e3 e4;rw [List.getElem_map,List.getElem_range];by_cases hji:j/5=i
 ·obtain e|e|e|e|e:j=i*5 \/j=i*5+1 \/j=i*5+2 \/j=i*5+3 \/j=i*5+4:=by omega
  ·subst e;rw [e0];simp [List.getElem_set]
  ·subst e;rw [e1];simp [List.getElem_set]
  ·subst e;rw [e2];simp [List.getElem_set]
  ·subst e;rw [e3];simp [List.getElem_set]
  ·subst e;rw [e4];simp [List.getElem_set]
 ·rw [List.getElem_set_ne (by omega),List.getElem_set_ne (by omega),List.getElem_set_ne (by omega),List.getElem_set_ne (by omega),List.getElem_set_ne (by omega),List.getElem_map,List.getElem_range];unfold lCp;rw [gL_set l hi y,if_neg hji];simp only [if_neg hji]
theorem OffV.moveB {w w':World}{B size:Nat}{v:Value}{n:Nat}{xs:List Value}(h:OffV w B size v n xs)(hs:w.heap.size<=w'.heap.size)(hq:∀q,v.ownBlock=some q ->B<=q ->q<w.heap.size ->w'.heap[q]? =w.heap[q]?):OffV w' B size v n xs:=by
 obtain⟨g,off,c,rfl,hB,hlt,hn,hc,hl,h1,h2,h3⟩:=h;have e:w'.heap[g]? =w.heap[g]? :=hq g rfl hB hlt;exact⟨g,off,c,rfl,hB,Nat.lt_of_lt_of_le hlt hs,hn,hc,hl,fun j hj=>(World.cell?_of_block e).trans (h1 j hj),fun j hj=>by rw [World.cell?_of_block (a:=⟨g,off+j,none⟩) e];exact h2 j hj,fun j hj=>(World.frozen?_of_block (a:=⟨g,off+j,none⟩) e).trans (h3 j hj)⟩
theorem mk_off {w:World}{lo g c:Nat}{ra:Option Addr}{rc:Nat}{l:List Lf}{u:List Rn}{P Q:Nat ->Nat}(h:LC w lo (.slice (some ⟨g,0,none⟩) l.length c) l P Q)(ho:OffR w lo (.slice ra u.length rc) u):SNc w lo (some ⟨g,0,none⟩) ra (mkS l u):=fun w' h1 h2=>by
 have hL:=h.move h1 h2;have hO:OffR w' lo (.slice ra u.length rc) u:=OffV.moveB ho h1 (fun q _ a b=>h2 q a b);obtain⟨g',o',c',e,s,_⟩:=hO.fs;injection e with e1 e2 e3;subst e1;exact⟨hL.lcap rfl,s.rseg⟩
structure PtA (w wx:World)(g b7:Nat)(y:Lf)(p pc:Nat):Prop where
 lo:w.heap.size+2<=p
 lt:p<wx.heap.size
 ng:p≠g
 nb:p≠b7
 wr:Wr wx p 9 y.p.length (fun t=> .string (gS y.p t))
 c1:y.p.length<=pc
 c2:pc<=9223372036854775807
structure SpM (w wx:World)(B rb:Nat)(f:Nat ->Int)(n x b7 i:Nat)(l:List Lf)(y:Lf)(u:List Rn)(g c p pc gx cx:Nat)(P Q:Nat ->Nat):Prop where
 bs:Bx2 wx w.heap.size (.slice (some ⟨g,0,none⟩) l.length c) (.slice (some ⟨gx,0,none⟩) u.length cx)
 br:Bx2 wx (w.heap.size+1) (.slice none 0 0) (.slice none 0 0)
 row:wx.ownsRow (w.heap.size+2) 65 5 (.slice (some ⟨g,0,none⟩) l.length c) l.length ((List.range (l.length*5)).map (lCp l P Q))
 pts:∀j,j<l.length ->j≠i ->PtA w wx g b7 (gL l j) (P j) (Q j)
 pt:PtA w wx g b7 y p pc
 ru:OffR wx (w.heap.size+2) (.slice (some ⟨gx,0,none⟩) u.length cx) u
 gn:gx≠g/\ gx≠b7/\ g≠b7
 hb:w.heap.size+2<=b7
 rd:RdJ wx B rb f n x
 gr:w.grownBy wx (some rb)
 z:B<=w.heap.size
section
variable {w wx w1 : World} {B rb n x b7 i : Nat} {f : Nat -> Int} {l : List Lf} {y y' : Lf} {u : List Rn} {g c p pc gx cx p' pc' : Nat} {P Q : Nat -> Nat}
theorem PtA.same (h:PtA w wx g b7 y p pc)(hs:wx.heap.size<=w1.heap.size)(he:w1.heap[p]? =wx.heap[p]?):PtA w w1 g b7 y p pc:=⟨h.lo,Nat.lt_of_lt_of_le h.lt hs,h.ng,h.nb,h.wr.same he,h.c1,h.c2⟩
theorem SpM.glt (h:SpM w wx B rb f n x b7 i l y u g c p pc gx cx P Q):w.heap.size+2<=g/\ g<wx.heap.size:=h.row.lt g rfl
theorem SpM.chg (h:SpM w wx B rb f n x b7 i l y u g c p pc gx cx P Q){r:Nat}(hg:wx.grownBy w1 (some r))(hr:w.heap.size+2<=r/\ r≠g/\ r≠gx/\∀j,j<l.length ->j≠i ->P j≠r)(hpt:PtA w w1 g b7 y' p' pc'):SpM w w1 B rb f n x b7 i l y' u g c p' pc' gx cx P Q:=by
 obtain⟨r1,r2,r3,r4⟩:=hr;have bk:∀b,b<wx.heap.size ->b≠r ->w1.heap[b]? =wx.heap[b]? :=fun b h1 h2=>hg.block b h1 (fun e=>h2 (by injection e));have bl:Below (w.heap.size+2) wx w1:=(Below.refl _ _).grown hg (by have:=h.br.lt;omega) (fun k e=>by injection e with e;omega);refine⟨h.bs.grw hg (by omega),h.br.grw hg (by omega),own_at5 h.row (fun b hb=> ?_),fun j h1 h2=>(h.pts j h1 h2).same hg.size (bk _ (h.pts j h1 h2).lt (r4 j h1 h2)),hpt,OffV.gr h.ru hg (fun e=>by simp [Value.ownBlock] at e;omega),h.gn,h.hb,h.rd.below (bl.mono (by have:=h.z;omega)),grownBelow h.gr (bl.mono (Nat.le_add_right _ _)) (Nat.le_refl _),h.z⟩;have e:g=b:=by simpa [Value.ownBlock] using hb
 exact bk b (by have:=h.glt.2;omega) (by omega)
theorem SpM.below (h:SpM w wx B rb f n x b7 i l y u g c p pc gx cx P Q)(hb:Below wx.heap.size wx w1):SpM w w1 B rb f n x b7 i l y u g c p pc gx cx P Q:=
 h.chg (r:=b7) ⟨hb.os,hb.tape,hb.output,hb.size,fun k hk _=>hb.block k hk⟩ ⟨h.hb,h.gn.2.2.symm,h.gn.2.1.symm,fun j h1 h2=>(h.pts j h1 h2).nb⟩ (h.pt.same hb.size (hb.block _ h.pt.lt))
theorem SpM.setB (h:SpM w wx B rb f n x b7 i l y u g c p pc gx cx P Q)(t:Nat)(v:Value)(e:y'.p=y.p):SpM w (wx.setCell ⟨b7,t,none⟩ v) B rb f n x b7 i l y' u g c p pc gx cx P Q:=by
 have hh:∀q,q≠b7 ->(wx.setCell ⟨b7,t,none⟩ v).heap[q]? =wx.heap[q]? :=fun q hq=>Below.heap_setCell _ _ _ _ (by simpa using hq);refine h.chg (r:=b7) ⟨rfl,rfl,rfl,by simp [World.setCell],fun k hk hne=>hh k (fun e=>hne (by rw [e]))⟩ ⟨h.hb,h.gn.2.2.symm,h.gn.2.1.symm,fun j h1 h2=>(h.pts j h1 h2).nb⟩ ?_;have:=h.pt.same (w1:=wx.setCell ⟨b7,t,none⟩ v) (by simp [World.setCell]) (hh _ h.pt.nb);exact⟨this.lo,this.lt,this.ng,this.nb,by rw [e];exact this.wr,by rw [e];exact this.c1,this.c2⟩
theorem SpM.fin (h:SpM w wx B rb f n x b7 i l y u g c p pc gx cx P Q)(hi:i<l.length){W5:World}(h5:((((wx.setCell ⟨g,i*5,none⟩ (.slice (some ⟨p,0,none⟩) y.p.length pc)).setCell ⟨g,i*5+1,none⟩ (.bool y.fl)).setCell ⟨g,i*5+2,none⟩ (.int .i64 y.r)).setCell ⟨g,i*5+3,none⟩ (.int .i64 y.q)).setCell ⟨g,i*5+4,none⟩ (.string y.v)=W5):
  Bx2 W5 w.heap.size (.slice (some ⟨g,0,none⟩) l.length c) (.slice (some ⟨gx,0,none⟩) u.length cx)/\ Bx2 W5 (w.heap.size+1) (.slice none 0 0) (.slice none 0 0)/\
  ∀W7,(W5.setCell ⟨w.heap.size+1,0,none⟩ (.slice (some ⟨g,0,none⟩) l.length c)).setCell ⟨w.heap.size+1,1,none⟩ (.slice (some ⟨gx,0,none⟩) u.length cx)=W7 ->Bx2 W7 (w.heap.size+1) (.slice (some ⟨g,0,none⟩) l.length c) (.slice (some ⟨gx,0,none⟩) u.length cx)/\ SNc W7 w.heap.size (some ⟨g,0,none⟩) (some ⟨gx,0,none⟩) (mkS (l.set i y) u)/\ RdJ W7 B rb f n x/\ w.grownBy W7 (some rb):=by
 have hgl:=h.glt;have hz:=h.z;have s5:W5.heap.size=wx.heap.size:=by rw [<- h5];simp [World.setCell]
 have bk:∀b,b≠g ->W5.heap[b]? =wx.heap[b]? :=fun b hb=>by
  rw [<- h5];repeat rw [Below.heap_setCell _ _ _ _ (by simpa using hb)]
 have sg:∀(X:World) (o:Nat) (v:Value),X.grownBy (X.setCell ⟨g,o,none⟩ v) (some g):=fun X o v=>⟨rfl,rfl,rfl,by simp [World.setCell],fun k hk hne=>Below.heap_setCell _ _ _ _ (fun e=>hne (by rw [e]))⟩;have hg5:wx.grownBy W5 (some g):=by rw [<- h5];exact((((sg _ _ _).trans (sg _ _ _)).trans (sg _ _ _)).trans (sg _ _ _)).trans (sg _ _ _)
 have bs5:=h.bs.grw hg5 (by omega);have br5:=h.br.grw hg5 (by omega);have l5:Below (w.heap.size+1) wx W5:=(Below.refl _ _).grown hg5 (by have:=h.br.lt;omega) (fun k e=>by injection e with e;omega);have r5:W5.ownsRow (w.heap.size+2) 65 5 (.slice (some ⟨g,0,none⟩) l.length c) l.length ((List.range (l.length*5)).map (lCp (l.set i y) (fun t=>if t=i then p else P t) (fun t=>if t=i then pc else Q t))):=by
  rw [<- h5,<- lCp_set l P Q hi y p pc];exact(((((h.row.stored _ _).1.stored _ _).1.stored _ _).1.stored _ _).1.stored _ _).1
 have lc5:LC W5 (w.heap.size+2) (.slice (some ⟨g,0,none⟩) (l.set i y).length c) (l.set i y) (fun t=>if t=i then p else P t) (fun t=>if t=i then pc else Q t):=by
  have el:(l.set i y).length=l.length:=List.length_set;refine⟨by rw [el];exact r5,fun j hj=> ?_⟩;rw [el] at hj;rw [gL_set l hi y j];have key:∀{z:Lf} {a b:Nat},PtA w wx g b7 z a b ->w.heap.size+2<=a/\ a<W5.heap.size/\ some a≠(Value.slice (some ⟨g,0,none⟩) (l.set i y).length c).ownBlock/\ Wr W5 a 9 z.p.length (fun t=> .string (gS z.p t))/\ z.p.length<=b/\ b<=9223372036854775807:=fun{z a b} hp=>⟨hp.lo,by rw [s5];exact hp.lt,fun e=>hp.ng (by simpa [Value.ownBlock] using e),hp.wr.same (bk _ hp.ng),hp.c1,hp.c2⟩;by_cases e:j=i
  ·simp only [if_pos e];exact key h.pt
  ·simp only [if_neg e];exact key (h.pts j hj e)
 have o5:OffR W5 (w.heap.size+2) (.slice (some ⟨gx,0,none⟩) u.length cx) u:=OffV.gr h.ru hg5 (fun e=>h.gn.1 (by simpa [Value.ownBlock] using e));refine⟨bs5,br5,?_⟩;rintro W7 rfl;have b7:Below (w.heap.size+1) wx ((W5.setCell ⟨w.heap.size+1,0,none⟩ (.slice (some ⟨g,0,none⟩) l.length c)).setCell ⟨w.heap.size+1,1,none⟩ (.slice (some ⟨gx,0,none⟩) u.length cx)):=(l5.setCell (p:=⟨w.heap.size+1,0,none⟩) (Nat.le_refl _) _).setCell (p:=⟨w.heap.size+1,1,none⟩) (Nat.le_refl _) _;refine⟨br5.set _ _,?_,h.rd.below (b7.mono (by omega)),grownBelow h.gr (b7.mono (Nat.le_add_right _ _)) (Nat.le_refl _)⟩;have sn:=mk_off lc5 o5;refine sn.move (Nat.le_add_right _ _) (by simp [World.setCell]) (fun q h1 h2=> ?_);rw [Below.heap_setCell _ _ _ _ (by simp;omega),Below.heap_setCell _ _ _ _ (by simp;omega)]
end
theorem OffV.self {w:World}{B size g off n n' c:Nat}{xs:List Value}(h:OffV w B size (.slice (some ⟨g,off,none⟩) n' c) n xs):OffV w g size (.slice (some ⟨g,off,none⟩) n' c) n xs:=by
 obtain⟨g',off',c',e,hB,r⟩:=h;have e0:=e;injection e with e1 _ _;injection e1 with e1;injection e1 with e1 _ _;exact⟨g',off',c',e0,Nat.le_of_eq e1,r⟩
structure SpA (w wx:World)(B rb:Nat)(f:Nat ->Int)(n x:Nat)(S:Sx)(g c gx cx:Nat)(P Q:Nat ->Nat):Prop where
 bs:Bx2 wx w.heap.size (.slice (some ⟨g,0,none⟩) S.l.length c) (.slice (some ⟨gx,0,none⟩) S.n cx)
 br:Bx2 wx (w.heap.size+1) (.slice none 0 0) (.slice none 0 0)
 lc:LC wx (w.heap.size+2) (.slice (some ⟨g,0,none⟩) S.l.length c) S.l P Q
 ow:Ow wx (w.heap.size+2) S.l P Q
 sep:Sep P S.l.length
 ru:OffR wx (w.heap.size+2) (.slice (some ⟨gx,0,none⟩) S.n cx) (fS S)
 gn:g≠gx
 pn:∀i,i<S.l.length ->P i≠gx
 up:0<S.n ->g<gx/\∀i,i<S.l.length ->P i<gx
 rd:RdJ wx B rb f n x
 gr:w.grownBy wx (some rb)
 z:B<=w.heap.size
section
variable {w w1 w2 : World} {B rb n x : Nat} {f : Nat -> Int} {S : Sx} {g c gx cx : Nat} {P Q : Nat -> Nat}
theorem Cpd.spA {va vx:Value}(h:Cpd w1 w2 S g c gx cx P Q)(hA:Bx2 w1 w.heap.size va vx)(hR:Bx2 w1 (w.heap.size+1) (.slice none 0 0) (.slice none 0 0))(hr:RdJ w1 B rb f n x)(hg:w.grownBy w1 (some rb))(hB:B<=w.heap.size):
  Bx2 w2 w.heap.size va vx/\ SpA w ((w2.setCell ⟨w.heap.size,0,none⟩ (.slice (some ⟨g,0,none⟩) S.l.length c)).setCell ⟨w.heap.size,1,none⟩ (.slice (some ⟨gx,0,none⟩) S.n cx)) B rb f n x S g c gx cx P Q:=by
 have hz:=hR.lt;have A2:=hA.below h.low hA.lt;have bk:∀b,b≠w.heap.size ->((w2.setCell ⟨w.heap.size,0,none⟩ (.slice (some ⟨g,0,none⟩) S.l.length c)).setCell ⟨w.heap.size,1,none⟩ (.slice (some ⟨gx,0,none⟩) S.n cx)).heap[b]? =w2.heap[b]? :=fun b hb=>by
  rw [Below.heap_setCell _ _ _ _ (by simpa using hb),Below.heap_setCell _ _ _ _ (by simpa using hb)]
 have sz:((w2.setCell ⟨w.heap.size,0,none⟩ (.slice (some ⟨g,0,none⟩) S.l.length c)).setCell ⟨w.heap.size,1,none⟩ (.slice (some ⟨gx,0,none⟩) S.n cx)).heap.size=w2.heap.size:=by simp [World.setCell]
 have hbl:Below w.heap.size w1 ((w2.setCell ⟨w.heap.size,0,none⟩ (.slice (some ⟨g,0,none⟩) S.l.length c)).setCell ⟨w.heap.size,1,none⟩ (.slice (some ⟨gx,0,none⟩) S.n cx)):=((h.low.mono (show w.heap.size<=w1.heap.size by omega)).setCell (p:=⟨w.heap.size,0,none⟩) (Nat.le_refl _) _).setCell (p:=⟨w.heap.size,1,none⟩) (Nat.le_refl _) _;refine⟨A2,A2.set _ _,((hR.below h.low hR.lt).setAt _ _ (by simp)).setAt _ _ (by simp),(h.lc.move (Nat.le_of_eq sz.symm) (fun q h1 h2=>bk q (by omega))).low (by omega),fun i hi=>own_weak5 (own_at5 (h.ow i hi) (fun b hb=> ?_)) (by omega),h.sep,?_,h.gn,h.pn,h.up,hr.below (hbl.mono hB),grownBelow hg hbl (Nat.le_refl _),hB⟩
 ·exact bk b (by have:=((h.ow i hi).lt b hb).1;omega)
 ·have o:OffR w2 w1.heap.size (.slice (some ⟨gx,0,none⟩) S.n cx) (fS S):=off_of_row h.fr (by simp);exact OffV.weak (OffV.moveB o (Nat.le_of_eq sz.symm) (fun q _ h1 h2=>bk q (by omega))) (by omega)
theorem SpA.ctx {wx w4:World}{C gy oy cy x':Nat}{u:List Rn}(h:SpA w wx B rb f n x S g c gx cx P Q)(hC:w.heap.size+2<=C/\ g<C/\∀i,i<S.l.length ->P i<C)(hf:FrB wx w4 C rb)(ho:OffR w4 C (.slice (some ⟨gy,oy,none⟩) u.length cy) u)(hr:RdJ w4 B rb f n x')(hrb:rb<w.heap.size):
  (Bx2 w4 w.heap.size (.slice (some ⟨g,0,none⟩) S.l.length c) (.slice (some ⟨gx,0,none⟩) S.n cx)/\ Bx2 w4 (w.heap.size+1) (.slice none 0 0) (.slice none 0 0))/\∀W5,w4.setCell ⟨w.heap.size,1,none⟩ (.slice (some ⟨gy,oy,none⟩) u.length cy)=W5 ->(Bx2 W5 w.heap.size (.slice (some ⟨g,0,none⟩) S.l.length c) (.slice (some ⟨gy,oy,none⟩) u.length cy)/\ Bx2 W5 (w.heap.size+1) (.slice none 0 0) (.slice none 0 0))/\∀W7,(W5.setCell ⟨w.heap.size+1,0,none⟩ (.slice (some ⟨g,0,none⟩) S.l.length c)).setCell ⟨w.heap.size+1,1,none⟩ (.slice (some ⟨gy,oy,none⟩) u.length cy)=W7 ->
   Bx2 W7 (w.heap.size+1) (.slice (some ⟨g,0,none⟩) S.l.length c) (.slice (some ⟨gy,oy,none⟩) u.length cy)/\ SNc W7 w.heap.size (some ⟨g,0,none⟩) (some ⟨gy,oy,none⟩) (mkS S.l u)/\ RdJ W7 B rb f n x'/\ w.grownBy W7 (some rb):=by
 obtain⟨c1,c2,c3⟩:=hC;have hz:=h.br.lt;have at2:∀{b:Nat} {u0 u1:Value},Bx2 wx b u0 u1 ->b<C ->b≠rb ->Bx2 w4 b u0 u1:=fun{b u0 u1} hb h1 h2=>by
  have e:=hf.block b h1 h2;exact⟨(World.cell?_of_block (a:=⟨b,0,none⟩) e).trans hb.c0,(World.cell?_of_block (a:=⟨b,1,none⟩) e).trans hb.c1,fun i=>(World.frozen?_of_block (a:=⟨b,i,none⟩) e).trans (hb.f i),Nat.lt_of_lt_of_le hb.lt hf.size⟩
 have A4:=at2 h.bs (by omega) (by omega);have R4:=at2 h.br (by omega) (by omega);have lc4:LC w4 (w.heap.size+2) (.slice (some ⟨g,0,none⟩) S.l.length c) S.l P Q:=⟨own_at5 h.lc.row (fun b hb=>by
  have e:g=b:=by simpa [Value.ownBlock] using hb
  have:=(h.lc.lt g rfl).1;exact hf.block b (by omega) (by omega)),fun i hi=>by
  obtain⟨e1,e2,e3,e4⟩:=h.lc.pt i hi;exact⟨e1,Nat.lt_of_lt_of_le e2 hf.size,e3,e4.1.same (hf.block _ (c3 i hi) (by omega)),e4.2⟩⟩
 have g4:w.grownBy w4 (some rb):=by
  refine⟨hf.os.trans h.gr.os,hf.tape.trans h.gr.tape,hf.output.trans h.gr.output,Nat.le_trans h.gr.size hf.size,fun k hk hne=> ?_⟩;exact(hf.block k (by omega) (fun e=>hne (by rw [e]))).trans (h.gr.block k hk hne)
 refine⟨⟨A4,R4⟩,?_⟩;rintro W5 rfl;have A5:=A4.set1 (.slice (some ⟨gy,oy,none⟩) u.length cy);have R5:=R4.setAt ⟨w.heap.size,1,none⟩ (.slice (some ⟨gy,oy,none⟩) u.length cy) (by simp);refine⟨⟨A5,R5⟩,?_⟩;rintro W7 rfl;have b7:Below w.heap.size w4 (((w4.setCell ⟨w.heap.size,1,none⟩ (.slice (some ⟨gy,oy,none⟩) u.length cy)).setCell ⟨w.heap.size+1,0,none⟩ (.slice (some ⟨g,0,none⟩) S.l.length c)).setCell ⟨w.heap.size+1,1,none⟩ (.slice (some ⟨gy,oy,none⟩) u.length cy)):=(((Below.refl _ _).setCell (p:=⟨w.heap.size,1,none⟩) (Nat.le_refl _) _).setCell (p:=⟨w.heap.size+1,0,none⟩) (Nat.le_succ _) _).setCell (p:=⟨w.heap.size+1,1,none⟩) (Nat.le_succ _) _;refine⟨R5.set _ _,?_,hr.below (b7.mono h.z),grownBelow g4 b7 (Nat.le_refl _)⟩;refine(mk_off lc4 (OffV.weak ho c1)).move (Nat.le_add_right _ _) (by simp [World.setCell]) (fun q h1 h2=> ?_);rw [Below.heap_setCell _ _ _ _ (by simp;omega),Below.heap_setCell _ _ _ _ (by simp;omega),Below.heap_setCell _ _ _ _ (by simp;omega)]
theorem SpA.leaf {wx:World}(h:SpA w wx B rb f n x S g c gx cx P Q){i:Nat}(hi:i<S.l.length)(y:Lf)(hy:gL S.l i=y)(vs:Array Value){W4:World}(h4:wx.alloc (.cells vs 65)=W4):
  SpM w W4 B rb f n x wx.heap.size i S.l y (fS S) g c (P i) (Q i) gx cx P Q/\ LC W4 (w.heap.size+2) (.slice (some ⟨g,0,none⟩) S.l.length c) S.l P Q/\ W4.ownsRow (w.heap.size+2) 9 1 (.slice (some ⟨P i,0,none⟩) y.p.length (Q i)) y.p.length (sRow y.p):=by
 have b4:Below wx.heap.size wx W4:=by rw [<- h4];exact(Below.refl _ _).alloc (Nat.le_refl _) _
 have hgl:=h.lc.lt g rfl;have hz:=h.br.lt;obtain⟨gx',e1,hx1,hx2⟩:=OffV.lt h.ru;have e1:gx=gx':=by simpa [Value.ownBlock] using e1
 have lc4:=h.lc.below b4;have key:∀j,j<S.l.length ->PtA w W4 g wx.heap.size (gL S.l j) (P j) (Q j):=fun j hj=>by
  obtain⟨a1,a2,a3,a4,a5,a6⟩:=h.lc.pt j hj;exact⟨a1,Nat.lt_of_lt_of_le a2 b4.size,fun e=>a3 (by simp [Value.ownBlock,e]),by omega,a4.same (b4.block _ a2),a5,a6⟩
 subst hy;refine⟨⟨?_,h.br.below b4 h.br.lt,lc4.row,fun j h1 _=>key j h1,key i hi,?_,⟨h.gn.symm,by omega,by omega⟩,by omega,h.rd.below (b4.mono (by have:=h.z;omega)),grownBelow h.gr b4 (by have:=h.gr.size;omega),h.z⟩,lc4,own_at5 (h.ow i hi) (fun b hb=>b4.block b ((h.ow i hi).lt b hb).2)⟩
 ·rw [fS_len];exact h.bs.below b4 h.bs.lt
 ·rw [fS_len];exact OffV.below h.ru b4 (Nat.le_refl _)
theorem SpM.more {wx wy w3:World}{b7 i:Nat}{l:List Lf}{y:Lf}{u:List Rn}{p pc q' cap':Nat}{P' Q':Nat ->Nat}(h:SpM w wx B rb f n x b7 i l y u g c p pc gx cx P Q)(hb:Below wx.heap.size wx wy)(lc:LC w3 (w.heap.size+2) (.slice (some ⟨q',0,none⟩) (l.length+1) cap') (l++[y]) P' Q')(gr:Gr wy w3 (.slice (some ⟨g,0,none⟩) l.length c) (.slice (some ⟨q',0,none⟩) (l.length+1) cap'))(hP:∀j,j<l.length ->P' j≠b7)(hP2:P' l.length≠b7)(hbw:b7<wx.heap.size):
  (Bx2 w3 w.heap.size (.slice (some ⟨g,0,none⟩) l.length c) (.slice (some ⟨gx,0,none⟩) u.length cx))/\ SpM w (w3.setCell ⟨w.heap.size,0,none⟩ (.slice (some ⟨q',0,none⟩) (l.length+1) cap')) B rb f n x b7 i (l++[y]) y u q' cap' p pc gx cx P' Q':=by
 have h1:=h.below hb;have gg:wy.grownBy w3 (some g):=gr.g;have hgl:=h.glt;have hz:=h.br.lt;have hzy:=hb.size;have hz3:=gg.size;have hq:q'=g \/wy.heap.size<=q':=by
  rcases gr.l with e|⟨q,e,hq⟩
  ·exact .inl (by simpa [Value.ownBlock] using e)
  ·have e:q'=q:=by simpa [Value.ownBlock] using e
   exact .inr (by omega)
 have hl1:(l++[y]).length=l.length+1:=by simp
 have A3:=h1.bs.grw gg (by omega);have bk:∀b,b≠w.heap.size ->(w3.setCell ⟨w.heap.size,0,none⟩ (.slice (some ⟨q',0,none⟩) (l.length+1) cap')).heap[b]? =w3.heap[b]? :=fun b hb=>Below.heap_setCell _ _ _ _ (by simpa using hb);have b3:Below w.heap.size wy w3:=(Below.refl _ _).grown gg (by omega) (fun k e=>by injection e with e;omega);have hbl:Below w.heap.size wy (w3.setCell ⟨w.heap.size,0,none⟩ (.slice (some ⟨q',0,none⟩) (l.length+1) cap')):=b3.setCell (p:=⟨w.heap.size,0,none⟩) (Nat.le_refl _) _;obtain⟨gx',e1,hx1,hx2⟩:=OffV.lt h.ru;have e1:gx=gx':=by simpa [Value.ownBlock] using e1
 refine⟨A3,?_,((h1.br.grw gg (by omega)).setAt _ _ (by simp)),?_,fun j hj hne=> ?_,?_,?_,⟨?_,h.gn.2.1,?_⟩,h.hb,h1.rd.below (hbl.mono h.z),grownBelow h1.gr hbl (Nat.le_refl _),h.z⟩
 ·rw [hl1];exact A3.set0 _
 ·rw [hl1];have:=lc.row;rw [hl1] at this;exact own_at5 this (fun b hb=>bk b (by have:=(lc.lt b hb).1;omega))
 ·obtain⟨a1,a2,a3,a4,a5,a6⟩:=lc.pt j hj;refine⟨a1,by simpa [World.setCell] using a2,fun e=>a3 (by simp [Value.ownBlock,e]),?_,a4.same (bk _ (by omega)),a5,a6⟩;by_cases e:j<l.length
  ·exact hP j e
  ·rw [show j=l.length by rw [hl1] at hj;omega];exact hP2
 ·have:=h1.pt;refine⟨this.lo,by simp [World.setCell];have:=this.lt;omega,?_,this.nb,(this.wr.same (gg.block _ this.lt (fun e=>this.ng (by injection e)))).same (bk _ (by have:=this.lo;omega)),this.c1,this.c2⟩;rcases hq with e|e
  ·rw [e];exact this.ng
  ·have:=h.pt.lt;omega
 ·refine OffV.moveB (OffV.gr h1.ru gg (fun e=>h.gn.1 (by simpa [Value.ownBlock] using e))) (by simp [World.setCell]) (fun q _ a b=>bk q (by omega))
 ·rcases hq with e|e
  ·rw [e];exact h.gn.1
  ·omega
 ·rcases hq with e|e
  ·rw [e];exact h.gn.2.2
  ·omega
end
theorem heap_set0 {w:World}{g:Nat}{cur:Array Value}{t:TypeId}(h:w.heap[g]? =some (.cells cur t (0,0))){u:Value}:(w.setCell ⟨g,0,none⟩ u).heap[g]? =some (.cells (cur.setIfInBounds 0 u) t (0,0)):=by
 have hg:g<w.heap.size:=(Array.getElem?_eq_some_iff.1 h).1;have e:w.heap[g]=.cells cur t (0,0):=(Array.getElem?_eq_some_iff.1 h).2;simp [World.setCell,Array.getElem?_modify,h]
theorem spoilStJ (B rb lo:Nat)(f:Nat ->Int)(n x:Nat)(a xx:Option Addr)(c d:Nat)(S:Sx)(w:World)(h:RdJ w B rb f n x)(hB:B<=w.heap.size)(hS:Dr S)(hs:SNc w lo a xx S)(hlo:rb<lo):
  Calls Tryz.prog 26 #[.pointer (some ⟨rb,0,none⟩),.agg #[.slice a S.l.length c,.slice xx S.n d]] w fun e w'=>∃a' c' x' d',e=.returned (.agg #[.slice a' (spS f n x S).l.length c',.slice x' (spS f n x S).n d'])/\ SNc w' w.heap.size a' x' (spS f n x S)/\ RdJ w' B rb f n (spX f n x S)/\ w.grownBy w' (some rb):=by
 obtain⟨W,hW⟩:∃W,(w.alloc (.cells #[.slice a S.l.length c,.slice xx S.n d] 28)).alloc (.cells #[.slice none 0 0,.slice none 0 0] 28)=W:=⟨_,rfl⟩;have b0:Below w.heap.size w W:=by rw [<- hW];exact below2 _ _ _
 have A0:Bx2 W w.heap.size (.slice a S.l.length c) (.slice xx S.n d):=by rw [<- hW];exact(Bx2.made w _ _ _).allocs _
 have R0:Bx2 W (w.heap.size+1) (.slice none 0 0) (.slice none 0 0):=by rw [<- hW];simpa using Bx2.made (w.alloc (.cells #[.slice a S.l.length c,.slice xx S.n d] 28)) (.slice none 0 0) (.slice none 0 0) 28
 have hrb:=h.lt;have HR:=hid (h.below (b0.mono hB));have HN:=hid (rdNextJ B rb f n x W HR.out);have hk:=rk_lt HR.out;obtain⟨k,hkk⟩:∃k,rk f n x=k:=⟨_,rfl⟩;rw [hkk] at hk HN;have HKK:=hid hkk;have HB0:=hid b0;have HA0:=hid A0;have HR0:=hid R0;have HSN:=hid (hs.below b0);have HGD:=hid hS.gd;have HDR:=hid hS;have HSP:Hid (spS f n x S=(if k%8=0 \/S.l.length=0 then mkS S.l (spF (rk f n (rx n x)) (fS S)) else mkS (spL k S.l) (fS S))/\ spX f n x S=(if k%8=0 \/S.l.length=0 then rx n (rx n x) else rx n x)):=hid (by unfold spS spX;rw [hkk];exact⟨rfl,rfl⟩);obtain⟨Z,hZ⟩:∃Z,spS f n x S=Z:=⟨_,rfl⟩;obtain⟨ZX,hZX⟩:∃ZX,spX f n x S=ZX:=⟨_,rfl⟩;rw [hZ,hZX] at HSP ⊢;clear b0 A0 R0 h hs hS hkk hZ hZX;go_enter Tryz.func26,Tryz.ntmps26;go_wp2_with fail;try rw [hW]
 clear hW;refine HN.out.mono ?_;rintro e w1 ⟨rfl,r1,g1⟩;have hsz:w.heap.size+2<=W.heap.size:=HR0.out.lt;have A1:=HA0.out.grw g1 (by omega);have R1:=HR0.out.grw g1 (by omega);have HGR1:Hid (w.grownBy w1 (some rb)):=hid ⟨g1.os.trans HB0.out.os,g1.tape.trans HB0.out.tape,g1.output.trans HB0.out.output,Nat.le_trans HB0.out.size g1.size,fun q hq hne=>(g1.block q (by omega) hne).trans (HB0.out.block q hq)⟩;have sn1:=HSN.out.gr g1 hlo;have HC:=hid (l3CopyO a xx c d S w1 HGD.out.sm (fun i hi=>(vd_num HDR.out.vd hi).1) ⟨sn1.at.1,sn1.at.2⟩);have HA1:=hid A1;have HR1:=hid R1;have HRD1:=hid r1;have a0:=A1.c0;have a1:=A1.c1;clear A1 R1 g1 r1 sn1 HN HR HA0 HR0 HSN;go_wp2_with fail;refine HC.out.mono ?_;rintro e w2 ⟨g,cg,gx,cx,P,Q,rfl,hcp⟩;obtain⟨A2,hsp⟩:=hcp.spA HA1.out HR1.out HRD1.out HGR1.out hB;have s0:=A2.c0;have s1:=A2.c1;have sf:=A2.f;obtain⟨W3,hW3⟩:∃W3,(w2.setCell ⟨w.heap.size,0,none⟩ (.slice (some ⟨g,0,none⟩) S.l.length cg)).setCell ⟨w.heap.size,1,none⟩ (.slice (some ⟨gx,0,none⟩) S.n cx)=W3:=⟨_,rfl⟩;rw [hW3] at hsp;have HA:=hid hsp;have t0:=hsp.bs.c0;have t1:=hsp.bs.c1;have hln:S.l.length<=1000:=HDR.out.vd.2.1;clear a0 a1 A2 hcp hsp HC;have key:Hid (∃C,B<=C/\ C<=W3.heap.size/\ (w.heap.size+2<=C/\ g<C/\∀i,i<S.l.length ->P i<C)/\ ((fS S).length=0 \/gx=C)):=hid (by
  have hz:=HA.out.br.lt;have hgl:=HA.out.lc.lt g rfl;obtain⟨gx',e1,hx1,hx2⟩:=OffV.lt HA.out.ru;have e1:gx=gx':=by simpa [Value.ownBlock] using e1
  by_cases h0:0<S.n
  ·obtain⟨u1,u2⟩:=HA.out.up h0;exact⟨gx,by omega,by omega,⟨by omega,u1,u2⟩,.inr rfl⟩
  ·exact⟨W3.heap.size,by omega,Nat.le_refl _,⟨by omega,hgl.2,fun i hi=>(HA.out.lc.pt i hi).2.1⟩,.inl (by rw [fS_len];omega)⟩)
 obtain⟨C,hC1,hC2,hC3,hC4⟩:=key.out;have HBX:Hid (B<=gx):=hid (by
  obtain⟨gx',e1,hx1,hx2⟩:=OffV.lt HA.out.ru;have e1:gx=gx':=by simpa [Value.ownBlock] using e1
  omega)
 have HSC:=hid (spoilJ B rb C f n (rx n x) (.slice (some ⟨gx,0,none⟩) S.n cx) (fS S) W3 HA.out.rd hC1 hC2 gx (OffV.self HA.out.ru) hC4 HBX.out (by rw [fS_len];have:=(ctxB_iff.1 HDR.out.vd.1).2;omega) (vd_srt HDR.out.vd).br);have HC3:=hid hC3;clear hC1 hC2 hC3 hC4 key;obtain⟨u,hu⟩:∃u,spF (rk f n (rx n x)) (fS S)=u:=⟨_,rfl⟩;rw [hu] at HSC HSP;clear hu;by_cases e0:k%8=0
 ·have d0:((k:Int)%8==0)=true:=by rw [beq_iff_eq];omega
  have HE:Hid (k%8=0 \/S.l.length=0):=hid (.inl e0);clear e0;go_wp2_with fail;try rw [hW3]
  clear hW3;refine HSC.out.mono ?_;rintro e w4 ⟨v4,rfl,o4,r4,f4⟩;obtain⟨gy,oy,cy,rfl,_⟩:=o4.fs;obtain⟨⟨A4,R4⟩,h5⟩:=HA.out.ctx HC3.out f4 o4 r4 (by omega);obtain⟨W5,hW5⟩:∃W5,w4.setCell ⟨w.heap.size,1,none⟩ (.slice (some ⟨gy,oy,none⟩) u.length cy)=W5:=⟨_,rfl⟩;obtain⟨⟨A5,R5⟩,h7⟩:=h5 W5 hW5;have q0:=A4.c0;have q1:=A4.c1;have qf:=A4.f;have v0:=A5.c0;have v1:=A5.c1;have o0:=R5.c0;have o1:=R5.c1;have of:=R5.f;have HF:=hid (h7 _ rfl);clear o4 r4 f4 A4 R4 A5 R5 h5 h7 s0 s1 sf t0 t1 HSC HA HC3;go_wp2_with fail;obtain⟨X7,sn7,r7,g7⟩:=HF.out;have y0:=X7.c0;have y1:=X7.c1;have E:Z=mkS S.l u/\ ZX=rx n (rx n x):=⟨by rw [HSP.out.1,if_pos HE.out],by rw [HSP.out.2,if_pos HE.out]⟩;obtain⟨rfl,rfl⟩:=E;refine bodyPost_ret (v:=.agg #[.slice (some ⟨g,0,none⟩) S.l.length cg,.slice (some ⟨gy,oy,none⟩) u.length cy]) (by simp [results,Tryz.results26,go_sem,y0,y1]) rfl ?_;exact⟨_,cg,_,cy,rfl,sn7,r7,g7⟩
 ·have d0:((k:Int)%8==0)=false:=by rw [beq_eq_false_iff_ne];omega
  by_cases hl0:S.l.length=0
  ·have d1:((S.l.length:Int)==0)=true:=by rw [hl0];rfl
   have HE:Hid (k%8=0 \/S.l.length=0):=hid (.inr hl0);clear e0 hl0;go_wp2_with fail;try rw [hW3]
   clear hW3;refine HSC.out.mono ?_;rintro e w4 ⟨v4,rfl,o4,r4,f4⟩;obtain⟨gy,oy,cy,rfl,_⟩:=o4.fs;obtain⟨⟨A4,R4⟩,h5⟩:=HA.out.ctx HC3.out f4 o4 r4 (by omega);obtain⟨W5,hW5⟩:∃W5,w4.setCell ⟨w.heap.size,1,none⟩ (.slice (some ⟨gy,oy,none⟩) u.length cy)=W5:=⟨_,rfl⟩;obtain⟨⟨A5,R5⟩,h7⟩:=h5 W5 hW5;have q0:=A4.c0;have q1:=A4.c1;have qf:=A4.f;have v0:=A5.c0;have v1:=A5.c1;have o0:=R5.c0;have o1:=R5.c1;have of:=R5.f;have HF:=hid (h7 _ rfl);clear o4 r4 f4 A4 R4 A5 R5 h5 h7 s0 s1 sf t0 t1 HSC HA HC3;go_wp2_with fail;obtain⟨X7,sn7,r7,g7⟩:=HF.out;have y0:=X7.c0;have y1:=X7.c1;have E:Z=mkS S.l u/\ ZX=rx n (rx n x):=⟨by rw [HSP.out.1,if_pos HE.out],by rw [HSP.out.2,if_pos HE.out]⟩;obtain⟨rfl,rfl⟩:=E;refine bodyPost_ret (v:=.agg #[.slice (some ⟨g,0,none⟩) S.l.length cg,.slice (some ⟨gy,oy,none⟩) u.length cy]) (by simp [results,Tryz.results26,go_sem,y0,y1]) rfl ?_;exact⟨_,cg,_,cy,rfl,sn7,r7,g7⟩
  ·have d1:((S.l.length:Int)==0)=false:=by rw [beq_eq_false_iff_ne];omega
   clear HSC HC3;obtain⟨mm,hii⟩:∃mm:Int,(k:Int)/8%(S.l.length:Int)=mm:=⟨_,rfl⟩;have hm0:0<=mm:=by rw [<- hii];exact Int.emod_nonneg _ (by omega)
   have hm1:mm<(S.l.length:Int):=by rw [<- hii];exact Int.emod_lt_of_pos _ (by omega)
   obtain⟨ii,rfl⟩:∃ii:Nat,mm=(ii:Int):=⟨mm.toNat,by omega⟩;have hil:ii<S.l.length:=by omega
   have HI:Hid (k/8%S.l.length=ii):=hid (by exact_mod_cast hii);obtain⟨c0,c1,c2,c3,c4⟩:=HA.out.lc.cell rfl hil;obtain⟨y,hy⟩:∃y,gL S.l ii=y:=⟨_,rfl⟩;have HYN:=vd_num HDR.out.vd hil;rw [hy] at c0 c1 c2 c3 c4 HYN;obtain⟨p,hp⟩:∃p,P ii=p:=⟨_,rfl⟩;obtain⟨pc,hpc⟩:∃pc,Q ii=pc:=⟨_,rfl⟩;rw [hp,hpc] at c0;obtain⟨W4,hW4⟩:∃W4,W3.alloc (.cells #[.slice (some ⟨p,0,none⟩) y.p.length pc,.bool y.fl,.int .i64 y.r,.int .i64 y.q,.string y.v] 65)=W4:=⟨_,rfl⟩;have hM:=HA.out.leaf hil y hy _ hW4;have X4:Bx5 W4 W3.heap.size (.slice (some ⟨p,0,none⟩) y.p.length pc) (.bool y.fl) (.int .i64 y.r) (.int .i64 y.q) (.string y.v):=by rw [<- hW4];exact Bx5.new _ _ _ _ _ _ _
   rw [hp,hpc] at hM;have HSEP:Hid (∀j,j<S.l.length ->j≠ii ->P j≠p):=hid (fun j h1 h2 e=>HA.out.sep j ii h1 hil h2 (by rw [e,hp]));have HPI:Hid (P ii=p):=hid hp;have HPN:Hid (p≠gx):=hid (by rw [<- hp];exact HA.out.pn ii hil);have HEZ:Hid (Z=mkS (spL k S.l) (fS S)/\ ZX=rx n x):=hid (by
    have hn:¬(k%8=0 \/S.l.length=0):=by omega
    exact⟨by rw [HSP.out.1,if_neg hn],by rw [HSP.out.2,if_neg hn]⟩)
   have HSL:Hid (∀(l':List Lf) (y':Lf),l'=(if k%8=5 then S.l++[y] else S.l) ->y'=spY k y ->l'.set ii y'=spL k S.l):=hid (fun l' y' e1 e2=>by unfold spL;rw [HI.out,hy,<- e1,<- e2]);have HYE:=hid hy;have HM:=hid hM.1;have HLC:=hid hM.2.1;have HOW:=hid hM.2.2;have HX4:=hid X4;have i1:(0:Int)<=(ii:Int):=Int.natCast_nonneg _;have i2:(ii:Int)<(S.l.length:Int):=by omega
   have nz':¬(S.l.length:Int)=0:=by omega
   have r1':Int.tmod ((k:Int)/8) (S.l.length:Int)=(ii:Int):=by rw [Int.tmod_eq_emod_of_nonneg (by omega)];exact hii
   have wii:IntKind.i64.wrap (ii:Int)=(ii:Int):=by rw [IntKind.wrap_i64];omega
   obtain⟨yp,yf,yr,yq,yv⟩:=y;dsimp only at c0 c1 c2 c3 c4 HX4 HYN hW4 X4;clear hM X4 hy hp hpc HSP HA hm0 hm1;go_upto_if 40 with fail;try rw [hW4]
   clear hW4 c0 c1 c2 c3 c4 s0 s1 sf t0 t1 hW3;obtain⟨b7,hb7⟩:∃b7,W3.heap.size=b7:=⟨_,rfl⟩;rw [hb7] at HM HX4 ⊢;clear hb7;go_cut [] from 8 to 87 (fun wx=>∃(l':List Lf) (y':Lf) (g' c' p' pc':Nat) (P' Q':Nat ->Nat),Hid (SpM w wx B rb f n (rx n x) b7 ii l' y' (fS S) g' c' p' pc' gx cx P' Q'/\ Bx5 wx b7 (.slice (some ⟨p',0,none⟩) y'.p.length pc') (.bool y'.fl) (.int .i64 y'.r) (.int .i64 y'.q) (.string y'.v)/\ ii<l'.length/\ l'.length<=1001/\ l'.set ii y'=spL k S.l));case first=>
    obtain⟨k8,hk8⟩:∃k8:Nat,(k:Int)%8=(k8:Int):=⟨k%8,by omega⟩;have hk87:k8<8:=by omega
    have HK:Hid (k%8=k8):=hid (by omega);have x0:=HX4.out.c0;have x1:=HX4.out.c1;have x2:=HX4.out.c2;have x3:=HX4.out.c3;have x4:=HX4.out.c4;have xf:=HX4.out.f;match k8,hk87 with
    | 0,_=>exact absurd HK.out e0
    | 1,_=>
     obtain⟨W5,hW5⟩:∃W5,W4.alloc (.cells #[.string ⟨#[]⟩] 9)=W5:=⟨_,rfl⟩;have b5:Below W4.heap.size W4 W5:=by rw [<- hW5];exact(Below.refl _ _).alloc (Nat.le_refl _) _
     have z5:W5.cell? ⟨W4.heap.size,0,none⟩=some (.string ⟨#[]⟩):=by rw [<- hW5];simp
     have ow5:=own_at5 HOW.out (fun b hb=>b5.block b (HOW.out.lt b hb).2);have hz4:=HM.out.br.lt;obtain⟨q,cap,w6,happ,ow6,g6,q1,q2⟩:=pthAppL ow5 (by have:=b5.size;omega) (by have:=HYN.2.1;omega) ⟨#[]⟩ W4.heap.size z5;have g46:W4.grownBy w6 (some p):=⟨g6.os.trans b5.os,g6.tape.trans b5.tape,g6.output.trans b5.output,Nat.le_trans b5.size g6.size,fun b hb hne=>(g6.block b (Nat.lt_of_lt_of_le hb b5.size) hne).trans (b5.block b hb)⟩;have hpt:=HM.out.pt;have X6:Bx5 w6 b7 (.slice (some ⟨p,0,none⟩) yp.length pc) (.bool yf) (.int .i64 yr) (.int .i64 yq) (.string yv):=by
      have e:w6.heap[b7]? =W4.heap[b7]? :=g46.block b7 HX4.out.lt (fun e=>hpt.nb (by injection e with e;exact e.symm));have q:=fun o=>World.cell?_of_block (w:=W4) (w':=w6) (a:=⟨b7,o,none⟩) e;exact⟨(q 0).trans HX4.out.c0,(q 1).trans HX4.out.c1,(q 2).trans HX4.out.c2,(q 3).trans HX4.out.c3,(q 4).trans HX4.out.c4,fun i=>(World.frozen?_of_block (a:=⟨b7,i,none⟩) e).trans (HX4.out.f i),Nat.lt_of_lt_of_le HX4.out.lt g46.size⟩
     have hq:q=p \/q=W5.heap.size:=by
      rcases q2 with e|e
      ·exact .inl (by simpa [Value.ownBlock] using e.symm)
      ·exact .inr e
     have hql:=(ow6.lt q rfl).2;have HN4:Hid (SpM w (w6.setCell ⟨b7,0,none⟩ (.slice (some ⟨q,0,none⟩) (yp.length+1) cap)) B rb f n (rx n x) b7 ii S.l ⟨yp++[⟨#[]⟩],yf,yr,yq,yv⟩ (fS S) g cg q cap gx cx P Q/\ Bx5 (w6.setCell ⟨b7,0,none⟩ (.slice (some ⟨q,0,none⟩) (yp.length+1) cap)) b7 (.slice (some ⟨q,0,none⟩) (yp++[(⟨#[]⟩:ByteArray)]).length cap) (.bool yf) (.int .i64 yr) (.int .i64 yq) (.string yv)):=hid (by
      have hgl:=HM.out.glt;have hbl:=HX4.out.lt;have h5s:=b5.size;have M6:SpM w w6 B rb f n (rx n x) b7 ii S.l ⟨yp++[⟨#[]⟩],yf,yr,yq,yv⟩ (fS S) g cg q cap gx cx P Q:=by
       refine HM.out.chg (r:=p) g46 ⟨hpt.lo,hpt.ng,HPN.out,HSEP.out⟩ ⟨?_,hql,?_,?_,?_,?_,?_⟩
       ·rcases hq with e|e
        ·rw [e];exact hpt.lo
        ·omega
       ·rcases hq with e|e
        ·rw [e];exact hpt.ng
        ·omega
       ·rcases hq with e|e
        ·rw [e];exact hpt.nb
        ·omega
       ·have:=(own_way ow6 (by simp)).2;simpa using this
       ·rcases ow6.2 with ⟨e,_⟩|⟨g',cap',cur,hv,_,_,e1,e2,_⟩
        ·cases e
        ·injection hv with _ _ e3;simp;omega
       ·rcases ow6.2 with ⟨e,_⟩|⟨g',cap',cur,hv,_,_,e1,e2,_⟩
        ·cases e
        ·injection hv with _ _ e3;unfold maxLen at e2;omega
      exact⟨M6.setB _ _ rfl,by simpa using X6.set0 (.slice (some ⟨q,0,none⟩) (yp.length+1) cap)⟩)
     have u0:=X6.c0;have uf:=X6.f;clear b5 z5 ow5 ow6 g6 g46 hpt X6 hq hql q1 q2;go_wp2_with (at_builtin;refine wpList_app2 rfl _ _ _ _ rfl happ (by rfl) (by rfl) rfl ?_;clear happ);go_meet;exact⟨S.l,⟨yp++[⟨#[]⟩],yf,yr,yq,yv⟩,g,cg,q,cap,P,Q,hid ⟨HN4.out.1,HN4.out.2,hil,by omega,HSL.out _ _ (by rw [if_neg (by rw [HK.out];decide)]) (by unfold spY;rw [if_pos HK.out])⟩⟩
    | 2,_=>
     have HN4:Hid (SpM w (W4.setCell ⟨b7,1,none⟩ (.bool !yf)) B rb f n (rx n x) b7 ii S.l ⟨yp, !yf,yr,yq,yv⟩ (fS S) g cg p pc gx cx P Q/\ Bx5 (W4.setCell ⟨b7,1,none⟩ (.bool !yf)) b7 (.slice (some ⟨p,0,none⟩) (⟨yp, !yf,yr,yq,yv⟩:Lf).p.length pc) (.bool (⟨yp, !yf,yr,yq,yv⟩:Lf).fl) (.int .i64 (⟨yp, !yf,yr,yq,yv⟩:Lf).r) (.int .i64 (⟨yp, !yf,yr,yq,yv⟩:Lf).q) (.string (⟨yp, !yf,yr,yq,yv⟩:Lf).v)):=hid ⟨HM.out.setB _ _ rfl,HX4.out.set1 _⟩;go_wp2_with fail;go_meet;exact⟨S.l,⟨yp, !yf,yr,yq,yv⟩,g,cg,p,pc,P,Q,hid ⟨HN4.out.1,HN4.out.2,hil,by omega,HSL.out _ _ (by rw [if_neg (by rw [HK.out];decide)]) (by unfold spY;rw [if_neg (by rw [HK.out];decide)];rw [if_pos HK.out])⟩⟩
    | 3,_=>
     have wq:IntKind.i64.wrap (yq+1)=yq+1:=wrapIn _ (by omega) (by omega);have HN4:Hid (SpM w (W4.setCell ⟨b7,3,none⟩ (.int .i64 (yq+1))) B rb f n (rx n x) b7 ii S.l ⟨yp,yf,yr,yq+1,yv⟩ (fS S) g cg p pc gx cx P Q/\ Bx5 (W4.setCell ⟨b7,3,none⟩ (.int .i64 (yq+1))) b7 (.slice (some ⟨p,0,none⟩) (⟨yp,yf,yr,yq+1,yv⟩:Lf).p.length pc) (.bool (⟨yp,yf,yr,yq+1,yv⟩:Lf).fl) (.int .i64 (⟨yp,yf,yr,yq+1,yv⟩:Lf).r) (.int .i64 (⟨yp,yf,yr,yq+1,yv⟩:Lf).q) (.string (⟨yp,yf,yr,yq+1,yv⟩:Lf).v)):=hid ⟨HM.out.setB _ _ rfl,HX4.out.set3 _⟩;go_wp2_with fail;go_meet;exact⟨S.l,⟨yp,yf,yr,yq+1,yv⟩,g,cg,p,pc,P,Q,hid ⟨HN4.out.1,HN4.out.2,hil,by omega,HSL.out _ _ (by rw [if_neg (by rw [HK.out];decide)]) (by unfold spY;rw [if_neg (by rw [HK.out];decide)];rw [if_neg (by rw [HK.out];decide)];rw [if_pos HK.out])⟩⟩
    | 4,_=>
     obtain⟨n4,hn4⟩:∃n4:Nat,200+k/128=n4:=⟨_,rfl⟩;have wn:IntKind.i64.wrap (200+(k:Int)/128)=(n4:Int):=by rw [show 200+(k:Int)/128=(n4:Int) by omega];exact wrapIn _ (by omega) (by omega)
     have HRP:=hid (rdRepeatJ ⟨#[118]⟩ n4 W4 (by decide) (by omega));have HN4':=hid hn4;clear hn4;obtain⟨tx,htx⟩:∃tx,txJ (rpt ⟨#[118]⟩ n4)=tx:=⟨_,rfl⟩;rw [htx] at HRP;have HTX:=hid htx;clear htx;go_wp2_with fail;refine HRP.out.mono ?_;rintro e w5 ⟨rfl,b5⟩;have X5:=HX4.out.below b5 HX4.out.lt;have HN4:Hid (SpM w (w5.setCell ⟨b7,4,none⟩ (.string tx)) B rb f n (rx n x) b7 ii S.l ⟨yp,yf,yr,yq,tx⟩ (fS S) g cg p pc gx cx P Q/\ Bx5 (w5.setCell ⟨b7,4,none⟩ (.string tx)) b7 (.slice (some ⟨p,0,none⟩) yp.length pc) (.bool yf) (.int .i64 yr) (.int .i64 yq) (.string tx)):=hid ⟨(HM.out.below b5).setB _ _ rfl,X5.set4 _⟩;have u4:=X5.c4;have uf:=X5.f;clear X5 b5 x0 x1 x2 x3 x4 xf HRP;go_wp2_with fail;go_meet;exact⟨S.l,⟨yp,yf,yr,yq,tx⟩,g,cg,p,pc,P,Q,hid ⟨HN4.out.1,HN4.out.2,hil,by omega,HSL.out _ _ (by rw [if_neg (by rw [HK.out];decide)]) (by unfold spY;rw [if_neg (by rw [HK.out];decide)];rw [if_neg (by rw [HK.out];decide)];rw [if_neg (by rw [HK.out];decide)];rw [if_pos HK.out,HN4'.out,HTX.out])⟩⟩
    | 5,_=>
     have hpt:=HM.out.pt;have hz4:=HM.out.br.lt;have HLF:Hid (∀w1,Below W4.heap.size W4 w1 ->Calls Tryz.prog 35 #[.agg #[.slice (some ⟨p,0,none⟩) yp.length pc,.bool yf,.int .i64 yr,.int .i64 yq,.string yv]] w1 fun e w'=>∃q cap,e=.returned (.agg #[.slice (some ⟨q,0,none⟩) yp.length cap,.bool yf,.int .i64 yr,.int .i64 yq,.string yv])/\ Below w1.heap.size w1 w'/\ w1.heap.size<=q/\ q<w'.heap.size/\ Wr w' q 9 yp.length (fun t=> .string (gS yp t))/\ yp.length<=cap/\ cap<=9223372036854775807/\ w'.ownsRow w1.heap.size 9 1 (.slice (some ⟨q,0,none⟩) yp.length cap) yp.length (sRow yp)):=hid (fun w1 hb=>by
      exact l3LeafK p 0 yp.length pc ⟨yp,yf,yr,yq,yv⟩ w1 rfl (by have:=HYN.2.1;omega) (Nat.lt_of_lt_of_le hpt.lt hb.size) (fun t ht=>by rw [Nat.zero_add];exact(hb.cell (p:=⟨p,t,none⟩) hpt.lt).trans (hpt.wr.cell ht)))
     have HCS:Hid (∀w',Below W4.heap.size W4 w' ->(w'.cell? ⟨b7,0,none⟩=some (.slice (some ⟨p,0,none⟩) yp.length pc)/\ w'.cell? ⟨b7,1,none⟩=some (.bool yf)/\ w'.cell? ⟨b7,2,none⟩=some (.int .i64 yr)/\ w'.cell? ⟨b7,3,none⟩=some (.int .i64 yq)/\ w'.cell? ⟨b7,4,none⟩=some (.string yv))):=hid (fun w' hb=>⟨(hb.cell (p:=⟨b7,0,none⟩) HX4.out.lt).trans HX4.out.c0,(hb.cell (p:=⟨b7,1,none⟩) HX4.out.lt).trans HX4.out.c1,(hb.cell (p:=⟨b7,2,none⟩) HX4.out.lt).trans HX4.out.c2,(hb.cell (p:=⟨b7,3,none⟩) HX4.out.lt).trans HX4.out.c3,(hb.cell (p:=⟨b7,4,none⟩) HX4.out.lt).trans HX4.out.c4⟩);have HST:Hid (∀w5 q qc,Below W4.heap.size W4 w5 ->W4.heap.size<=q ->q<w5.heap.size ->Wr w5 q 9 yp.length (fun t=> .string (gS yp t)) ->(yp.length<=qc/\ qc<=9223372036854775807) ->∃q' cap' w7,(Builtin.append_ #[23,23] 23 #[.slice (some ⟨g,0,none⟩) S.l.length cg,.slice (some ⟨w5.heap.size,0,none⟩) 1 1]).run Tryz.prog (w5.alloc (.cells #[.slice (some ⟨q,0,none⟩) yp.length qc,.bool yf,.int .i64 yr,.int .i64 yq,.string yv] 65))=.ok (.slice (some ⟨q',0,none⟩) (S.l.length+1) cap') w7/\
       Bx2 w7 w.heap.size (.slice (some ⟨g,0,none⟩) S.l.length cg) (.slice (some ⟨gx,0,none⟩) (fS S).length cx)/\ (∃P' Q',SpM w (w7.setCell ⟨w.heap.size,0,none⟩ (.slice (some ⟨q',0,none⟩) (S.l.length+1) cap')) B rb f n (rx n x) b7 ii (S.l++[⟨yp,yf,yr,yq,yv⟩]) ⟨yp,yf,yr,yq,yv⟩ (fS S) q' cap' p pc gx cx P' Q'/\ Bx5 (w7.setCell ⟨w.heap.size,0,none⟩ (.slice (some ⟨q',0,none⟩) (S.l.length+1) cap')) b7 (.slice (some ⟨p,0,none⟩) yp.length pc) (.bool yf) (.int .i64 yr) (.int .i64 yq) (.string yv))/\ (w7.cell? ⟨b7,0,none⟩=some (.slice (some ⟨p,0,none⟩) yp.length pc)/\ w7.cell? ⟨b7,1,none⟩=some (.bool yf)/\ w7.cell? ⟨b7,2,none⟩=some (.int .i64 yr)/\ w7.cell? ⟨b7,3,none⟩=some (.int .i64 yq)/\ w7.cell? ⟨b7,4,none⟩=some (.string yv))/\ ((w7.setCell ⟨w.heap.size,0,none⟩ (.slice (some ⟨q',0,none⟩) (S.l.length+1) cap')).cell? ⟨b7,0,none⟩=some (.slice (some ⟨p,0,none⟩) yp.length pc)/\ (w7.setCell ⟨w.heap.size,0,none⟩ (.slice (some ⟨q',0,none⟩) (S.l.length+1) cap')).cell? ⟨b7,1,none⟩=some (.bool yf)/\ (w7.setCell ⟨w.heap.size,0,none⟩ (.slice (some ⟨q',0,none⟩) (S.l.length+1) cap')).cell? ⟨b7,2,none⟩=some (.int .i64 yr)/\ (w7.setCell ⟨w.heap.size,0,none⟩ (.slice (some ⟨q',0,none⟩) (S.l.length+1) cap')).cell? ⟨b7,3,none⟩=some (.int .i64 yq)/\ (w7.setCell ⟨w.heap.size,0,none⟩ (.slice (some ⟨q',0,none⟩) (S.l.length+1) cap')).cell? ⟨b7,4,none⟩=some (.string yv))):=hid (fun w5 q qc hb h1 h2 h3 h4=>by
      obtain⟨q',cap',w7,hr,lc7,gr7⟩:=HLC.out.app hb (by omega) (by omega) ⟨yp,yf,yr,yq,yv⟩ q qc (by omega) h2 (fun e=>by have:=(HLC.out.lt q e.symm).2;omega) h3 h4;have hbl:=HX4.out.lt;have hbg:=HM.out.gn.2.2;obtain⟨A7,M7⟩:=HM.out.more hb lc7 gr7 (fun j hj=>by
       (try dsimp only)
       rw [if_neg (by omega)];by_cases e:j=ii
       ·rw [e,HPI.out];exact hpt.nb
       ·exact(HM.out.pts j hj e).nb) (by(try dsimp only);rw [if_pos rfl];omega) hbl
      have gg:w5.grownBy w7 (some g):=gr7.g;have e7:w7.heap[b7]? =W4.heap[b7]? :=(gg.block b7 (Nat.lt_of_lt_of_le hbl hb.size) (fun e=>hbg (by injection e with e;exact e.symm))).trans (hb.block b7 hbl);have e8:(w7.setCell ⟨w.heap.size,0,none⟩ (.slice (some ⟨q',0,none⟩) (S.l.length+1) cap')).heap[b7]? =W4.heap[b7]? :=(Below.heap_setCell _ _ _ _ (by have:=HM.out.hb;simp;omega)).trans e7;have cc:∀{w8:World},w8.heap[b7]? =W4.heap[b7]? ->W4.heap.size<=w8.heap.size ->Bx5 w8 b7 (.slice (some ⟨p,0,none⟩) yp.length pc) (.bool yf) (.int .i64 yr) (.int .i64 yq) (.string yv):=fun{w8} e hs=>by
       have q:=fun o=>World.cell?_of_block (w:=W4) (w':=w8) (a:=⟨b7,o,none⟩) e;exact⟨(q 0).trans HX4.out.c0,(q 1).trans HX4.out.c1,(q 2).trans HX4.out.c2,(q 3).trans HX4.out.c3,(q 4).trans HX4.out.c4,fun i=>(World.frozen?_of_block (a:=⟨b7,i,none⟩) e).trans (HX4.out.f i),Nat.lt_of_lt_of_le HX4.out.lt hs⟩
      have s7:W4.heap.size<=w7.heap.size:=Nat.le_trans hb.size gg.size;have X7:=cc e7 s7;have X8:=cc e8 (by simpa [World.setCell] using s7);exact⟨q',cap',w7,hr,A7,⟨_,_,M7,X8⟩,⟨X7.c0,X7.c1,X7.c2,X7.c3,X7.c4⟩,⟨X8.c0,X8.c1,X8.c2,X8.c3,X8.c4⟩⟩)
     have HBS:=hid HM.out.bs;have HBU:Hid (∀w',Below W4.heap.size W4 w' ->w'.cell? ⟨w.heap.size,0,none⟩=some (.slice (some ⟨g,0,none⟩) S.l.length cg)):=hid (fun w' hb=>(hb.cell (p:=⟨w.heap.size,0,none⟩) HBS.out.lt).trans HBS.out.c0);clear hpt;have t0:=HBS.out.c0;go_wp2_with fail;clear t0;refine wp_region_held_drew (S:=fun w'=>w'.cell? ⟨b7,0,none⟩=some (.slice (some ⟨p,0,none⟩) yp.length pc)/\ w'.cell? ⟨b7,1,none⟩=some (.bool yf)/\ w'.cell? ⟨b7,2,none⟩=some (.int .i64 yr)/\ w'.cell? ⟨b7,3,none⟩=some (.int .i64 yq)/\ w'.cell? ⟨b7,4,none⟩=some (.string yv)) (by kernel_rfl) (HCS.out _ (Below.refl _ _).drew) (fun hHeld=> ?_);clear x0 x1 x2 x3 x4 xf;refine tZ 0 73 ?_;refine tZ 2 75 ?_;refine ready2t (i:=1) (j:=3) (d:=some 74) (d':=some 76) (by kernel_rfl) (by kernel_rfl) (by kernel_rfl) ?_ ?_
     ·
      have t0:=HBU.out _ (Below.refl _ _).drew;intro o ho hod K hK;simp only [gZa,gZb,gZc,gZd] at ho;subst ho;go_simp;refine hK.out _ _ (HCS.out _ (Below.refl _ _).drew) (fun hHeld=> ?_);clear hK K;try simp only [Act.put,sZa,sZb,sZc]
      clear t0;refine cZ 3 ?_;intro K hK;go_simp;refine(HLF.out _ (Below.refl _ _).drew).mono ?_;rintro e w5 ⟨q,qc,rfl,b5,p1,p2,hwr,q1,q2,how⟩;have b5':Below W4.heap.size W4 w5:=⟨b5.os,b5.tape,b5.output,b5.size,b5.block⟩;have b6':Below W4.heap.size W4 (w5.alloc (.cells #[.slice (some ⟨q,0,none⟩) yp.length qc,.bool yf,.int .i64 yr,.int .i64 yq,.string yv] 65)):=b5'.alloc b5'.size _;obtain⟨q',cap',w7,happ,A7,M7,c7,l7⟩:=HST.out w5 q qc b5' p1 p2 hwr ⟨q1,q2⟩;have HM7:=hid M7;refine hK.out _ _ (HCS.out _ b5') (fun hHeld=> ?_);clear hK K;try simp only [Act.put,sZa,sZb,sZc]
      refine cZ 4 ?_;intro K hK;go_simp;refine hK.out _ _ (HCS.out _ b6') (fun hHeld=> ?_);clear hK K;try simp only [Act.put,sZa,sZb,sZc]
      refine cZ 5 ?_;intro K hK;refine wp_app2 _ _ _ _ rfl happ (by rfl) (by rfl) rfl ?_;refine hK.out _ _ c7 (fun hHeld=> ?_);clear hK K;try simp only [Act.put,sZa,sZb,sZc]
      refine tZ 6 79 ?_;have t0:=A7.c0;have tf:=A7.f;refine cZ 7 ?_;intro K hK;go_simp;refine hK.out _ _ l7 (fun hHeld=> ?_);clear hK K;try simp only [Act.put,sZa,sZb,sZc]
      refine wpAnyH_done (by kernel_rfl) ?_ _;clear hHeld b5 b5' b6' happ A7 M7 c7 l7 t0 tf hwr p1 p2 HST HLF HCS q1 q2 how;go_wp2_with fail;go_meet;obtain⟨P',Q',M8,X8⟩:=HM7.out;exact⟨S.l++[⟨yp,yf,yr,yq,yv⟩],⟨yp,yf,yr,yq,yv⟩,q',cap',p,pc,P',Q',hid ⟨M8,X8,by simp;omega,by simp;omega,HSL.out _ _ (by rw [if_pos HK.out]) (by unfold spY;rw [if_neg (by rw [HK.out];decide)];rw [if_neg (by rw [HK.out];decide)];rw [if_neg (by rw [HK.out];decide)];rw [if_neg (by rw [HK.out];decide)];rw [if_pos HK.out])⟩⟩
     ·
      intro o ho hod K hK;simp only [gZa,gZb,gZc,gZd] at ho;subst ho;go_simp;refine(HLF.out _ (Below.refl _ _).drew).mono ?_;rintro e w5 ⟨q,qc,rfl,b5,p1,p2,hwr,q1,q2,how⟩;have b5':Below W4.heap.size W4 w5:=⟨b5.os,b5.tape,b5.output,b5.size,b5.block⟩;have b6':Below W4.heap.size W4 (w5.alloc (.cells #[.slice (some ⟨q,0,none⟩) yp.length qc,.bool yf,.int .i64 yr,.int .i64 yq,.string yv] 65)):=b5'.alloc b5'.size _;obtain⟨q',cap',w7,happ,A7,M7,c7,l7⟩:=HST.out w5 q qc b5' p1 p2 hwr ⟨q1,q2⟩;have HM7:=hid M7;refine hK.out _ _ (HCS.out _ b5') (fun hHeld=> ?_);clear hK K;try simp only [Act.put,sZa,sZb,sZc]
      refine ready2t (i:=1) (j:=4) (d:=some 74) (d':=some 77) (by kernel_rfl) (by kernel_rfl) (by kernel_rfl) ?_ ?_
      ·
       have t0:=HBU.out _ b5';intro o ho hod K hK;simp only [gZa,gZb,gZc,gZd] at ho;subst ho;go_simp;refine hK.out _ _ (HCS.out _ b5') (fun hHeld=> ?_);clear hK K;try simp only [Act.put,sZa,sZb,sZc]
       clear t0;refine cZ 4 ?_;intro K hK;go_simp;refine hK.out _ _ (HCS.out _ b6') (fun hHeld=> ?_);clear hK K;try simp only [Act.put,sZa,sZb,sZc]
       refine cZ 5 ?_;intro K hK;refine wp_app2 _ _ _ _ rfl happ (by rfl) (by rfl) rfl ?_;refine hK.out _ _ c7 (fun hHeld=> ?_);clear hK K;try simp only [Act.put,sZa,sZb,sZc]
       refine tZ 6 79 ?_;have t0:=A7.c0;have tf:=A7.f;refine cZ 7 ?_;intro K hK;go_simp;refine hK.out _ _ l7 (fun hHeld=> ?_);clear hK K;try simp only [Act.put,sZa,sZb,sZc]
       refine wpAnyH_done (by kernel_rfl) ?_ _;clear hHeld b5 b5' b6' happ A7 M7 c7 l7 t0 tf hwr p1 p2 HST HLF HCS q1 q2 how;go_wp2_with fail;go_meet;obtain⟨P',Q',M8,X8⟩:=HM7.out;exact⟨S.l++[⟨yp,yf,yr,yq,yv⟩],⟨yp,yf,yr,yq,yv⟩,q',cap',p,pc,P',Q',hid ⟨M8,X8,by simp;omega,by simp;omega,HSL.out _ _ (by rw [if_pos HK.out]) (by unfold spY;rw [if_neg (by rw [HK.out];decide)];rw [if_neg (by rw [HK.out];decide)];rw [if_neg (by rw [HK.out];decide)];rw [if_neg (by rw [HK.out];decide)];rw [if_pos HK.out])⟩⟩
      ·
       intro o ho hod K hK;simp only [gZa,gZb,gZc,gZd] at ho;subst ho;go_simp;refine hK.out _ _ (HCS.out _ b6') (fun hHeld=> ?_);clear hK K;try simp only [Act.put,sZa,sZb,sZc]
       have t0:=HBU.out _ b6';refine cZ 1 ?_;intro K hK;go_simp;refine hK.out _ _ (HCS.out _ b6') (fun hHeld=> ?_);clear hK K;try simp only [Act.put,sZa,sZb,sZc]
       clear t0;refine cZ 5 ?_;intro K hK;refine wp_app2 _ _ _ _ rfl happ (by rfl) (by rfl) rfl ?_;refine hK.out _ _ c7 (fun hHeld=> ?_);clear hK K;try simp only [Act.put,sZa,sZb,sZc]
       refine tZ 6 79 ?_;have t0:=A7.c0;have tf:=A7.f;refine cZ 7 ?_;intro K hK;go_simp;refine hK.out _ _ l7 (fun hHeld=> ?_);clear hK K;try simp only [Act.put,sZa,sZb,sZc]
       refine wpAnyH_done (by kernel_rfl) ?_ _;clear hHeld b5 b5' b6' happ A7 M7 c7 l7 t0 tf hwr p1 p2 HST HLF HCS q1 q2 how;go_wp2_with fail;go_meet;obtain⟨P',Q',M8,X8⟩:=HM7.out;exact⟨S.l++[⟨yp,yf,yr,yq,yv⟩],⟨yp,yf,yr,yq,yv⟩,q',cap',p,pc,P',Q',hid ⟨M8,X8,by simp;omega,by simp;omega,HSL.out _ _ (by rw [if_pos HK.out]) (by unfold spY;rw [if_neg (by rw [HK.out];decide)];rw [if_neg (by rw [HK.out];decide)];rw [if_neg (by rw [HK.out];decide)];rw [if_neg (by rw [HK.out];decide)];rw [if_pos HK.out])⟩⟩
    | 6,_=>
     have HN4:Hid (SpM w (W4.setCell ⟨b7,2,none⟩ (.int .i64 7)) B rb f n (rx n x) b7 ii S.l ⟨yp,yf,7,yq,yv⟩ (fS S) g cg p pc gx cx P Q/\ Bx5 (W4.setCell ⟨b7,2,none⟩ (.int .i64 7)) b7 (.slice (some ⟨p,0,none⟩) (⟨yp,yf,7,yq,yv⟩:Lf).p.length pc) (.bool (⟨yp,yf,7,yq,yv⟩:Lf).fl) (.int .i64 (⟨yp,yf,7,yq,yv⟩:Lf).r) (.int .i64 (⟨yp,yf,7,yq,yv⟩:Lf).q) (.string (⟨yp,yf,7,yq,yv⟩:Lf).v)):=hid ⟨HM.out.setB _ _ rfl,HX4.out.set2 _⟩;go_wp2_with fail;go_meet;exact⟨S.l,⟨yp,yf,7,yq,yv⟩,g,cg,p,pc,P,Q,hid ⟨HN4.out.1,HN4.out.2,hil,by omega,HSL.out _ _ (by rw [if_neg (by rw [HK.out];decide)]) (by unfold spY;rw [if_neg (by rw [HK.out];decide)];rw [if_neg (by rw [HK.out];decide)];rw [if_neg (by rw [HK.out];decide)];rw [if_neg (by rw [HK.out];decide)];rw [if_neg (by rw [HK.out];decide)];rw [if_pos HK.out])⟩⟩
    | 7,_=>
     have hwr:=HM.out.pt.wr;have hl0':0<yp.length:=by have:=HYN.1;omega
     have i5:(0:Int)<(yp.length:Int):=by omega
     have j0:=hwr.cell (i:=0) hl0';have jf:=hwr.frozen 0;have HN4:Hid (SpM w (W4.setCell ⟨p,0,none⟩ (.string ⟨#[99]⟩)) B rb f n (rx n x) b7 ii S.l ⟨yp.set 0 ⟨#[99]⟩,yf,yr,yq,yv⟩ (fS S) g cg p pc gx cx P Q/\ Bx5 (W4.setCell ⟨p,0,none⟩ (.string ⟨#[99]⟩)) b7 (.slice (some ⟨p,0,none⟩) yp.length pc) (.bool yf) (.int .i64 yr) (.int .i64 yq) (.string yv)):=hid (by
      have hp:=HM.out.pt;refine⟨HM.out.chg (r:=p) ⟨rfl,rfl,rfl,by simp [World.setCell],fun q hq hne=>Below.heap_setCell _ _ _ _ (fun e=>hne (by rw [e]))⟩ ⟨hp.lo,hp.ng,HPN.out,HSEP.out⟩ ⟨hp.lo,by simpa [World.setCell] using hp.lt,hp.ng,hp.nb,?_,by simpa using hp.c1,hp.c2⟩,HX4.out.setAt _ _ hp.nb⟩;obtain⟨cur,q1,q2,q3⟩:=hp.wr;have q2:yp.length<=cur.size:=q2;have q3:∀i,i<yp.length ->cur[i]? =some (.string (gS yp i)):=q3;have qz:0<cur.size:=by omega
      refine⟨cur.setIfInBounds 0 (.string ⟨#[99]⟩),?_,by simpa using q2,fun t ht=> ?_⟩
      ·exact heap_set0 q1
      ·simp only [List.length_set] at ht;by_cases e:t=0
       ·subst e;simp [gS,List.getD,hl0',Array.getElem?_setIfInBounds,qz]
       ·rw [show (cur.setIfInBounds 0 (.string ⟨#[99]⟩))[t]? =cur[t]? by simp [Array.getElem?_setIfInBounds,Ne.symm e],q3 t ht];simp [gS,List.getD,List.getElem?_set_ne (Ne.symm e)])
     clear hwr;go_wp2_with fail;go_meet;have hle:(yp.set 0 (⟨#[99]⟩:ByteArray)).length=yp.length:=List.length_set;exact⟨S.l,⟨yp.set 0 ⟨#[99]⟩,yf,yr,yq,yv⟩,g,cg,p,pc,P,Q,hid ⟨HN4.out.1,by(try dsimp only);rw [hle];exact HN4.out.2,hil,by omega,HSL.out _ _ (by rw [if_neg (by rw [HK.out];decide)]) (by unfold spY;rw [if_neg (by rw [HK.out];decide)];rw [if_neg (by rw [HK.out];decide)];rw [if_neg (by rw [HK.out];decide)];rw [if_neg (by rw [HK.out];decide)];rw [if_neg (by rw [HK.out];decide)];rw [if_neg (by rw [HK.out];decide)])⟩⟩
   case rest=>
    obtain⟨l',y',g',c',p',pc',P',Q',HH⟩:=hcut;obtain⟨m1,m2,m3,m4,m5⟩:=HH.out;obtain⟨W5,hW5⟩:∃W5,((((wc.setCell ⟨g',ii*5,none⟩ (.slice (some ⟨p',0,none⟩) y'.p.length pc')).setCell ⟨g',ii*5+1,none⟩ (.bool y'.fl)).setCell ⟨g',ii*5+2,none⟩ (.int .i64 y'.r)).setCell ⟨g',ii*5+3,none⟩ (.int .i64 y'.q)).setCell ⟨g',ii*5+4,none⟩ (.string y'.v)=W5:=⟨_,rfl⟩;obtain⟨A5,R5,h7⟩:=m1.fin m3 hW5;have HF:=hid (h7 _ rfl);have q0:=m1.bs.c0;have q1:=m1.bs.c1;have x0:=m2.c0;have x1:=m2.c1;have x2:=m2.c2;have x3:=m2.c3;have x4:=m2.c4;have hw:=own_wrF m1.row;obtain⟨e0',e1',e2',e3',e4'⟩:=lCp0 l' P' Q' ii;have z0:=(hw.cell (i:=ii*5) (by omega)).trans (congrArg some e0');have z1:=(hw.cell (i:=ii*5+1) (by omega)).trans (congrArg some e1');have z2:=(hw.cell (i:=ii*5+2) (by omega)).trans (congrArg some e2');have z3:=(hw.cell (i:=ii*5+3) (by omega)).trans (congrArg some e3');have z4:=(hw.cell (i:=ii*5+4) (by omega)).trans (congrArg some e4');have zf:=fun t=>hw.frozen t;have v0:=A5.c0;have v1:=A5.c1;have o0:=R5.c0;have o1:=R5.c1;have of:=R5.f;have i4:(ii:Int)<(l'.length:Int):=by omega
    have HE:=hid m5;clear A5 R5 h7 m1 m2 m5 hw e0' e1' e2' e3' e4' HH HM HLC HOW HX4 hii r1' i2 nz' d0 d1;go_wp2_with fail;obtain⟨X7,sn7,r7,g7⟩:=HF.out;have y0:=X7.c0;have y1:=X7.c1;rw [HE.out] at sn7;have hll:(spL k S.l).length=l'.length:=by rw [<- HE.out];simp
    obtain⟨rfl,rfl⟩:=HEZ.out;refine bodyPost_ret (v:=.agg #[.slice (some ⟨g',0,none⟩) l'.length c',.slice (some ⟨gx,0,none⟩) (fS S).length cx]) (by simp [results,Tryz.results26,go_sem,y0,y1]) rfl ?_;have G0:Ending.returned (.agg #[.slice (some ⟨g',0,none⟩) l'.length c',.slice (some ⟨gx,0,none⟩) (fS S).length cx])=.returned (.agg #[.slice (some ⟨g',0,none⟩) (mkS (spL k S.l) (fS S)).l.length c',.slice (some ⟨gx,0,none⟩) (mkS (spL k S.l) (fS S)).n cx]):=by
     rw [show (mkS (spL k S.l) (fS S)).l.length=l'.length from hll];rfl
    first
     | exact⟨_,c',_,cx,G0,sn7,r7,g7⟩
     | exact⟨_,c',_,⟨cx,G0⟩,sn7,r7,g7⟩
theorem SNc.drew {w:World}{lo:Nat}{a x:Option Addr}{S:Sx}(h:SNc w lo a x S):SNc w.drew lo a x S:=h.move (Nat.le_refl _) (Nat.le_refl _) (fun _ _ _=>rfl)
structure AcS (w w4:World)(B rb:Nat)(f:Nat ->Int)(n x lo r b:Nat)(va vx vb vy:Value):Prop where
 s0:Bx2 w4 r va vx
 r1:Bx2 w4 (r+1) (.slice none 0 0) (.slice none 0 0)
 r2:Bx2 w4 (r+1+1) (.slice none 0 0) (.slice none 0 0)
 t1:Bx2 w4 b va vx
 t2:Bx2 w4 (b+1) (.slice none 0 0) (.slice none 0 0)
 rd:RdJ w4 B rb f n x
 gr:w.grownBy w4 (some rb)
 z1:w.heap.size=r
 z2:r+1+1<b
 z3:b+1<lo
 z4:lo<=w4.heap.size
 z5:B<=w.heap.size
theorem AcS.below {w w4 w5:World}{B rb n x lo r b:Nat}{f:Nat ->Int}{va vx vb vy:Value}(h:AcS w w4 B rb f n x lo r b va vx vb vy)(hb:Below lo w4 w5):AcS w w5 B rb f n x lo r b va vx vb vy:=by
 have z1:=h.z1;have z2:=h.z2;have z3:=h.z3;have z5:=h.z5;exact⟨h.s0.below hb (by omega),h.r1.below hb (by omega),h.r2.below hb (by omega),h.t1.below hb (by omega),h.t2.below hb (by omega),h.rd.below (hb.mono (by omega)),grownBelow h.gr hb (by omega),h.z1,h.z2,h.z3,Nat.le_trans h.z4 hb.size,h.z5⟩
theorem AcS.gro {w w4 w5:World}{B rb n x x' lo r b:Nat}{f:Nat ->Int}{va vx vb vy:Value}(h:AcS w w4 B rb f n x lo r b va vx vb vy)(hg:w4.grownBy w5 (some rb))(hr:RdJ w5 B rb f n x'):AcS w w5 B rb f n x' lo r b va vx vb vy:=by
 have z1:=h.z1;have z2:=h.z2;have z5:=h.z5;have hb:=h.rd.lt.2;have hn:∀b,r<=b ->∀k,some rb=some k ->k≠b:=fun b hb k e=>by injection e with e;omega
 exact⟨h.s0.gr hg (hn _ (Nat.le_refl _)),h.r1.gr hg (hn _ (by omega)),h.r2.gr hg (hn _ (by omega)),h.t1.gr hg (hn _ (by omega)),h.t2.gr hg (hn _ (by omega)),hr,grown_transJ h.gr hg,h.z1,h.z2,h.z3,Nat.le_trans h.z4 hg.size,h.z5⟩
theorem PtN.gr {w w1:World}{lo rb:Nat}{pa:Option Addr}{pc:Nat}{p:List ByteArray}(h:PtN w lo pa pc p)(hg:w.grownBy w1 (some rb))(hr:rb<lo):PtN w1 lo pa pc p:=h.move (Nat.le_refl _) hg.size (fun q h1 h2=>hg.block q h2 (fun e=>by injection e with e;omega))
theorem AcS.fill {w w4:World}{B rb n x lo r b:Nat}{f:Nat ->Int}{va vx vb vy:Value}(h:AcS w w4 B rb f n x lo r b va vx vb vy)(v0 v1 v2 v3:Value):
  (Bx2 ((w4.setCell ⟨b,0,none⟩ v0).setCell ⟨b,1,none⟩ v1) (b+1) (.slice none 0 0) (.slice none 0 0))/\∃w5,((((w4.setCell ⟨b,0,none⟩ v0).setCell ⟨b,1,none⟩ v1).setCell ⟨b+1,0,none⟩ v2).setCell ⟨b+1,1,none⟩ v3)=w5/\ Bx2 w5 r va vx/\ Bx2 w5 (r+1) (.slice none 0 0) (.slice none 0 0)/\ Bx2 w5 (r+1+1) (.slice none 0 0) (.slice none 0 0)/\ Bx2 w5 b v0 v1/\ Bx2 w5 (b+1) v2 v3/\ RdJ w5 B rb f n x/\ w.grownBy w5 (some rb):=by
 have z1:=h.z1;have z2:=h.z2;have z5:=h.z5;have TB:=twoB h.t1 h.t2 (show b≠b+1 by omega) v0 v1 v2 v3;have hb:Below b w4 ((((w4.setCell ⟨b,0,none⟩ v0).setCell ⟨b,1,none⟩ v1).setCell ⟨b+1,0,none⟩ v2).setCell ⟨b+1,1,none⟩ v3):=below4 (Below.refl _ _) (Nat.le_refl _) (by omega) _ _ _ _;exact⟨TB.1,_,rfl,h.s0.below hb (by omega),h.r1.below hb (by omega),h.r2.below hb (by omega),TB.2.1,TB.2.2,h.rd.below (hb.mono (by omega)),grownBelow h.gr hb (by omega)⟩
theorem act_end {w w5:World}{B rb n x r:Nat}{f:Nat ->Int}(rd:RdJ w5 B rb f n x)(gr:w.grownBy w5 (some rb))(z1:w.heap.size=r)(z5:B<=w.heap.size)(v0 v1 v2 v3:Value):RdJ ((((w5.setCell ⟨r+1,0,none⟩ v0).setCell ⟨r+1,1,none⟩ v1).setCell ⟨r+1+1,0,none⟩ v2).setCell ⟨r+1+1,1,none⟩ v3) B rb f n x/\ w.grownBy ((((w5.setCell ⟨r+1,0,none⟩ v0).setCell ⟨r+1,1,none⟩ v1).setCell ⟨r+1+1,0,none⟩ v2).setCell ⟨r+1+1,1,none⟩ v3) (some rb):=by
 have hb:Below w.heap.size w5 ((((w5.setCell ⟨r+1,0,none⟩ v0).setCell ⟨r+1,1,none⟩ v1).setCell ⟨r+1+1,0,none⟩ v2).setCell ⟨r+1+1,1,none⟩ v3):=below4 (Below.refl _ _) (by omega) (by omega) _ _ _ _;exact⟨rd.below (hb.mono z5),grownBelow gr hb (Nat.le_refl _)⟩
theorem actR (f:Nat ->Int)(n x:Nat)(S:Sx)(rep k:Nat)(hk:rk f n x=k)(h8:k%8=7)(hS:Dr S)(hrep:rep<8):∃S1 S2 x',AcP f n x S rep S1 S2 x':=by
 obtain⟨p,hpl,hp⟩:=pathJ f n (rx n x);obtain⟨X,hX⟩:∃X,rmX S p=X:=⟨_,rfl⟩;obtain⟨Y,hY⟩:∃Y,rmY S p=Y:=⟨_,rfl⟩;obtain⟨C,hC⟩:∃C,rmC S p=C:=⟨_,rfl⟩;have HDR:Hid (C=0 ->Dr X/\ Dr Y):=hid (by rw [<- hX,<- hY,<- hC];exact dr_rm hS.vd);have HCH:Hid (∀(w:World) (a xa pa:Option Addr) (c d pc:Nat),(LCap w a S.l/\ RSeg w xa S.n S.R S.F S.T) ->(p.length<=pc/\ pc<=9223372036854775807) ->SSeg w pa p ->Calls Tryz.prog 80 #[.agg #[.slice a S.l.length c,.slice xa S.n d],.slice pa p.length pc] w (ChP w X Y C)):=hid (fun w a xa pa c d pc h hpc hseg=>by
  rw [<- hX,<- hY,<- hC];exact specRemove a c xa d pa pc S p w (vd_sm hS.vd) h.1 h.2 (by omega) hpc hseg)
 obtain⟨S1,hS1⟩:∃S1,(if C=0 then X else S)=S1:=⟨_,rfl⟩;obtain⟨S2,hS2⟩:∃S2,(if C=0 then Y else Sx.mt)=S2:=⟨_,rfl⟩;have HS1:Hid (C=0 ->S1=X/\ S2=Y):=hid (fun e=>⟨by rw [<- hS1,if_pos e],by rw [<- hS2,if_pos e]⟩);have HS2:Hid (C≠0 ->S1=S/\ S2=Sx.mt):=hid (fun e=>⟨by rw [<- hS1,if_neg e],by rw [<- hS2,if_neg e]⟩);refine⟨S1,S2,rx n (rx n x),?_,fun B lo rb a xa c d w hBl hlo h hs=> ?_⟩
 ·by_cases e:C=0
  ·rw [(HS1.out e).1,(HS1.out e).2];exact HDR.out e
  ·rw [(HS2.out e).1,(HS2.out e).2];exact⟨hS,Dr.mt⟩
 have hB:B<=w.heap.size:=Nat.le_trans hBl hlo;have HLO:Hid (lo<=w.heap.size/\ rb<lo):=hid ⟨hlo,Nat.lt_of_lt_of_le h.lt.2 hBl⟩;clear hBl hlo;have HPP:=hid hp;clear hX hY hC hS1 hS2 HDR hp;obtain⟨W,hW⟩:∃W,((w.alloc (.cells #[.slice a S.l.length c,.slice xa S.n d] 28)).alloc (.cells #[.slice none 0 0,.slice none 0 0] 28)).alloc (.cells #[.slice none 0 0,.slice none 0 0] 28)=W:=⟨_,rfl⟩;have b0:Below w.heap.size w W:=by rw [<- hW];exact(below2 _ _ _).alloc (by simp;omega) _
 have A0:Bx2 W w.heap.size (.slice a S.l.length c) (.slice xa S.n d):=by rw [<- hW];exact((Bx2.made w _ _ _).allocs _).allocs _
 have R0:Bx2 W (w.heap.size+1) (.slice none 0 0) (.slice none 0 0):=by
  rw [<- hW];have:=Bx2.made (w.alloc (.cells #[.slice a S.l.length c,.slice xa S.n d] 28)) (.slice none 0 0) (.slice none 0 0) 28;exact(by simpa using this:Bx2 _ (w.heap.size+1) _ _).allocs _
 have Q0:Bx2 W (w.heap.size+1+1) (.slice none 0 0) (.slice none 0 0):=by
  rw [<- hW];simpa using Bx2.made ((w.alloc (.cells #[.slice a S.l.length c,.slice xa S.n d] 28)).alloc (.cells #[.slice none 0 0,.slice none 0 0] 28)) (.slice none 0 0) (.slice none 0 0) 28
 have zW:W.heap.size=w.heap.size+3:=by rw [<- hW];simp
 have hrb:=h.lt;have HN:=hid (rdNextJ B rb f n x W (h.below (b0.mono hB)));rw [hk] at HN;have HA0:=hid A0;have HR0:=hid R0;have HQ0:=hid Q0;have HB0:=hid b0;have HZW:=hid zW;have HSS:=hid hs;have HRB:=hid hrb;have HBB:=hid hB;have d0:¬(k:Int)%8<4:=by omega
 have d1:((k:Int)%8==4)=false:=by simp;omega
 have d2:((k:Int)%8==5)=false:=by simp;omega
 have d3:((k:Int)%8==6)=false:=by simp;omega
 clear hk h hs hrb b0 A0 R0 Q0 zW hrep h8;go_enter Tryz.func52,Tryz.ntmps52;go_wp2_with fail;try rw [hW]
 clear hW;refine HN.out.mono ?_;rintro e w1 ⟨rfl,r1,g1⟩;have HPT:=hid (HPP.out B rb w1 (by have:=HBB.out;have:=HB0.out.size;have:=g1.size;omega) r1);have HG1:=hid g1;clear r1 g1 HN HPP;go_wp2_with fail;refine HPT.out.mono ?_;rintro e w2 ⟨pa,pc,rfl,p2,r2,g2⟩;have HGG:Hid (W.grownBy w2 (some rb)):=hid (grown_transJ HG1.out g2);have HNE:Hid (∀b,w.heap.size<=b ->∀k,some rb=some k ->k≠b):=hid (fun b hb k e=>by injection e with e;have:=HRB.out;have:=HBB.out;omega);have HA2:=hid (HA0.out.gr HGG.out (HNE.out _ (Nat.le_refl _)));have HR2:=hid (HR0.out.gr HGG.out (HNE.out _ (Nat.le_succ _)));have HQ2:=hid (HQ0.out.gr HGG.out (HNE.out _ (by omega)));have HP2:=hid p2;have HD2:=hid r2;have HW2:Hid (w.grownBy w2 (some rb)):=hid ⟨HGG.out.os.trans HB0.out.os,HGG.out.tape.trans HB0.out.tape,HGG.out.output.trans HB0.out.output,Nat.le_trans HB0.out.size HGG.out.size,fun k hk hne=>(HGG.out.block k (Nat.lt_of_lt_of_le hk HB0.out.size) hne).trans (HB0.out.block k hk)⟩;have HZ2:Hid (w.heap.size+3<=w2.heap.size/\ w1.heap.size<=w2.heap.size):=hid (by have:=HGG.out.size;have:=HZW.out;have:=g2.size;omega);have k0:=HA2.out.c0;have k1:=HA2.out.c1;have b3:Below w2.heap.size w2 ((w2.alloc (.cells #[.slice a S.l.length c,.slice xa S.n d] 28)).alloc (.cells #[.slice none 0 0,.slice none 0 0] 28)):=below2 _ _ _;have HT3:Hid (AcS w ((w2.alloc (.cells #[.slice a S.l.length c,.slice xa S.n d] 28)).alloc (.cells #[.slice none 0 0,.slice none 0 0] 28)) B rb f n (rx n (rx n x)) (w2.heap.size+2) w.heap.size w2.heap.size (.slice a S.l.length c) (.slice xa S.n d) (.slice none 0 0) (.slice none 0 0)):=hid (by
  have z2:=HZ2.out;refine⟨HA2.out.below b3 HA2.out.lt,HR2.out.below b3 HR2.out.lt,HQ2.out.below b3 HQ2.out.lt,(Bx2.made w2 _ _ _).allocs _,?_,HD2.out.below (b3.mono (by have:=HBB.out;omega)),grownBelow HW2.out b3 (by omega),rfl,by omega,by omega,by simp,HBB.out⟩;simpa using Bx2.made (w2.alloc (.cells #[.slice a S.l.length c,.slice xa S.n d] 28)) (.slice none 0 0) (.slice none 0 0) 28)
 have HPQ:=hid (p2.below b3);have HSC:Hid (SNc ((w2.alloc (.cells #[.slice a S.l.length c,.slice xa S.n d] 28)).alloc (.cells #[.slice none 0 0,.slice none 0 0] 28)) lo a xa S):=hid (HSS.out.gr (grownBelow HW2.out b3 (by have:=HZ2.out;omega)) HLO.out.2);have kk0:=HT3.out.s0.c0;have kk1:=HT3.out.s0.c1;clear p2 r2 g2 HPT b3;go_wp2_with fail;obtain⟨W3,hW3⟩:∃W3,((w2.alloc (.cells #[.slice a S.l.length c,.slice xa S.n d] 28)).alloc (.cells #[.slice none 0 0,.slice none 0 0] 28))=W3:=⟨_,rfl⟩;have HZ3:Hid (W3.heap.size=w2.heap.size+2):=hid (by rw [<- hW3];simp);rw [hW3] at HT3 HPQ HSC;clear kk0 kk1;try rw [hW3]
 clear hW3;refine(HCH.out W3 a xa pa c d pc HSC.out.at HPQ.out.cap HPQ.out.at).mono ?_;rintro e w4 ⟨a5,c5,x5,d5,a6,c6,x6,d6,rfl,ox,oy,b4⟩;rw [HZ3.out] at ox oy b4;have HX4:=hid ox;have HY4:=hid oy;have HT4:=hid (HT3.out.below b4);clear ox oy b4 HT3 HPQ HSC HCH k0 k1;have t0:=HT4.out.t1.c0;have t1:=HT4.out.t1.c1;have tf:=HT4.out.t1.f;have TF:=(HT4.out.fill (.slice a5 X.l.length c5) (.slice x5 X.n d5) (.slice a6 Y.l.length c6) (.slice x6 Y.n d6)).1;have u0:=TF.c0;have u1:=TF.c1;have uf:=TF.f;clear TF;obtain⟨_,w5,hw5,f0,f1,f2,f3,f4,f5,f6⟩:=HT4.out.fill (.slice a5 X.l.length c5) (.slice x5 X.n d5) (.slice a6 Y.l.length c6) (.slice x6 Y.n d6);have HX5:Hid (SNc w5 (w2.heap.size+2) a5 x5 X):=hid (by rw [<- hw5];exact snc4 (r1:=w2.heap.size) (r2:=w2.heap.size+1) HX4.out (Nat.le_refl _) (by omega) (by omega) _ _ _ _);have HY5:Hid (SNc w5 (w2.heap.size+2) a6 x6 Y):=hid (by rw [<- hw5];exact snc4 (r1:=w2.heap.size) (r2:=w2.heap.size+1) HY4.out (Nat.le_refl _) (by omega) (by omega) _ _ _ _);have HF5:=hid f5;have HF6:=hid f6;by_cases hC:C=0
 ·subst hC;have HE:=hid (HS1.out rfl);clear HS1 HS2;have HTB:=hid (twoB f1 f2 (show w.heap.size+1≠w.heap.size+1+1 by omega) (.slice a5 X.l.length c5) (.slice x5 X.n d5) (.slice a6 Y.l.length c6) (.slice x6 Y.n d6));have o0:=f1.c0;have o1:=f1.c1;have of:=f1.f;have i0:=f3.c0;have i1:=f3.c1;have i2:=f4.c0;have i3:=f4.c1;have HQT:=hid HTB.out.1;have hn0:¬w.heap.size=w2.heap.size:=by have:=HZ2.out;omega
  have hn1:¬w.heap.size+1=w2.heap.size:=by have:=HZ2.out;omega
  have hn2:¬w.heap.size+1+1=w2.heap.size:=by have:=HZ2.out;omega
  clear f0 f1 f2 f3 f4 f5 f6;go_wp2_with fail;try rw [hw5]
  clear hw5;have q0:=HQT.out.c0;have q1:=HQT.out.c1;have qf:=HQT.out.f;go_region;try go_wp2_with fail
  all_goals
   obtain⟨X1,X2⟩:=HTB.out.2
   refine bodyPost_ret (v:=.tuple #[.agg #[.slice a5 X.l.length c5,.slice x5 X.n d5],.agg #[.slice a6 Y.l.length c6,.slice x6 Y.n d6]]) (by simp [results,Tryz.results52,go_sem,X1.c0,X1.c1,X2.c0,X2.c1]) rfl ?_
   rw [HE.out.1,HE.out.2]
   have z2:=HZ2.out
   have z5:=HBB.out
   have z6:=HLO.out.1
   obtain⟨E1,E2⟩:=act_end HF5.out HF6.out rfl z5 (.slice a5 X.l.length c5) (.slice x5 X.n d5) (.slice a6 Y.l.length c6) (.slice x6 Y.n d6)
   first
    | exact⟨a5,c5,x5,d5,a6,c6,x6,d6,rfl,(snc4 (r1:=w.heap.size+1) (r2:=w.heap.size+1+1) HX5.out (by omega) (by omega) (by omega) _ _ _ _).drew,(snc4 (r1:=w.heap.size+1) (r2:=w.heap.size+1+1) HY5.out (by omega) (by omega) (by omega) _ _ _ _).drew,E1.below (Below.refl _ _).drew,⟨E2.os,E2.tape,E2.output,E2.size,E2.block⟩⟩
    | exact⟨a5,c5,x5,d5,a6,c6,x6,⟨d6,rfl⟩,(snc4 (r1:=w.heap.size+1) (r2:=w.heap.size+1+1) HX5.out (by omega) (by omega) (by omega) _ _ _ _).drew,(snc4 (r1:=w.heap.size+1) (r2:=w.heap.size+1+1) HY5.out (by omega) (by omega) (by omega) _ _ _ _).drew,E1.below (Below.refl _ _).drew,⟨E2.os,E2.tape,E2.output,E2.size,E2.block⟩⟩
 ·have HTB:=hid (twoB f1 f2 (show w.heap.size+1≠w.heap.size+1+1 by omega) (.slice a S.l.length c) (.slice xa S.n d) (.slice none 0 0) (.slice none 0 0));have o0:=f1.c0;have o1:=f1.c1;have of:=f1.f;have i0:=f0.c0;have i1:=f0.c1;have q0:=HTB.out.1.c0;have q1:=HTB.out.1.c1;have qf:=HTB.out.1.f;clear f0 f1 f2 f3 f4 f5 f6;go_wp2_with fail;obtain⟨X1,X2⟩:=HTB.out.2;refine bodyPost_ret (v:=.tuple #[.agg #[.slice a S.l.length c,.slice xa S.n d],.agg #[.slice none 0 0,.slice none 0 0]]) (by simp [results,Tryz.results52,go_sem,X1.c0,X1.c1,X2.c0,X2.c1]) rfl ?_;rw [(HS2.out hC).1,(HS2.out hC).2];have z5:=HBB.out;obtain⟨E1,E2⟩:=act_end HF5.out HF6.out rfl z5 (.slice a S.l.length c) (.slice xa S.n d) (.slice none 0 0) (.slice none 0 0);first
   | exact⟨a,c,xa,d,none,0,none,0,rfl,HSS.out.gr E2 HLO.out.2,SNc.mt _ _ _ _,E1,E2⟩
   | exact⟨a,c,xa,d,none,0,none,⟨0,rfl⟩,HSS.out.gr E2 HLO.out.2,SNc.mt _ _ _ _,E1,E2⟩
theorem actF (f:Nat ->Int)(n x:Nat)(S:Sx)(rep k:Nat)(hk:rk f n x=k)(h8:k%8=6)(hS:Dr S)(hrep:rep<8):∃S1 S2 x',AcP f n x S rep S1 S2 x':=by
 obtain⟨p,hpl,hp⟩:=pathJ f n (rx n x);obtain⟨X,hX⟩:∃X,seX S rep p true false ⟨#[]⟩=X:=⟨_,rfl⟩;obtain⟨Y,hY⟩:∃Y,seY S rep p true false ⟨#[]⟩=Y:=⟨_,rfl⟩;obtain⟨C,hC⟩:∃C,seC S rep p true false ⟨#[]⟩=C:=⟨_,rfl⟩;have HDR:Hid (C=0 ->Dr X/\ Dr Y):=hid (by rw [<- hX,<- hY,<- hC];exact dr_se hS.vd (fun _=>by simp [emB]));have HCH:Hid (∀(w:World) (a xa pa:Option Addr) (c d pc:Nat),(LCap w a S.l/\ RSeg w xa S.n S.R S.F S.T) ->(p.length<=pc/\ pc<=9223372036854775807) ->SSeg w pa p ->Calls Tryz.prog 79 #[.agg #[.slice a S.l.length c,.slice xa S.n d],.int .i64 (rep:Int),.slice pa p.length pc,.bool false] w (ChP w X Y C)):=hid (fun w a xa pa c d pc h hpc hseg=>by
  rw [<- hX,<- hY,<- hC];exact specSetFlag a c xa d pa pc S rep p false w (vd_sm hS.vd) hS.t h.1 h.2 (by omega) hpc hseg)
 obtain⟨S1,hS1⟩:∃S1,(if C=0 then X else S)=S1:=⟨_,rfl⟩;obtain⟨S2,hS2⟩:∃S2,(if C=0 then Y else Sx.mt)=S2:=⟨_,rfl⟩;have HS1:Hid (C=0 ->S1=X/\ S2=Y):=hid (fun e=>⟨by rw [<- hS1,if_pos e],by rw [<- hS2,if_pos e]⟩);have HS2:Hid (C≠0 ->S1=S/\ S2=Sx.mt):=hid (fun e=>⟨by rw [<- hS1,if_neg e],by rw [<- hS2,if_neg e]⟩);refine⟨S1,S2,rx n (rx n x),?_,fun B lo rb a xa c d w hBl hlo h hs=> ?_⟩
 ·by_cases e:C=0
  ·rw [(HS1.out e).1,(HS1.out e).2];exact HDR.out e
  ·rw [(HS2.out e).1,(HS2.out e).2];exact⟨hS,Dr.mt⟩
 have hB:B<=w.heap.size:=Nat.le_trans hBl hlo;have HLO:Hid (lo<=w.heap.size/\ rb<lo):=hid ⟨hlo,Nat.lt_of_lt_of_le h.lt.2 hBl⟩;clear hBl hlo;have HPP:=hid hp;clear hX hY hC hS1 hS2 HDR hp;obtain⟨W,hW⟩:∃W,((w.alloc (.cells #[.slice a S.l.length c,.slice xa S.n d] 28)).alloc (.cells #[.slice none 0 0,.slice none 0 0] 28)).alloc (.cells #[.slice none 0 0,.slice none 0 0] 28)=W:=⟨_,rfl⟩;have b0:Below w.heap.size w W:=by rw [<- hW];exact(below2 _ _ _).alloc (by simp;omega) _
 have A0:Bx2 W w.heap.size (.slice a S.l.length c) (.slice xa S.n d):=by rw [<- hW];exact((Bx2.made w _ _ _).allocs _).allocs _
 have R0:Bx2 W (w.heap.size+1) (.slice none 0 0) (.slice none 0 0):=by
  rw [<- hW];have:=Bx2.made (w.alloc (.cells #[.slice a S.l.length c,.slice xa S.n d] 28)) (.slice none 0 0) (.slice none 0 0) 28;exact(by simpa using this:Bx2 _ (w.heap.size+1) _ _).allocs _
 have Q0:Bx2 W (w.heap.size+1+1) (.slice none 0 0) (.slice none 0 0):=by
  rw [<- hW];simpa using Bx2.made ((w.alloc (.cells #[.slice a S.l.length c,.slice xa S.n d] 28)).alloc (.cells #[.slice none 0 0,.slice none 0 0] 28)) (.slice none 0 0) (.slice none 0 0) 28
 have zW:W.heap.size=w.heap.size+3:=by rw [<- hW];simp
 have hrb:=h.lt;have HN:=hid (rdNextJ B rb f n x W (h.below (b0.mono hB)));rw [hk] at HN;have HA0:=hid A0;have HR0:=hid R0;have HQ0:=hid Q0;have HB0:=hid b0;have HZW:=hid zW;have HSS:=hid hs;have HRB:=hid hrb;have HBB:=hid hB;have d0:¬(k:Int)%8<4:=by omega
 have d1:((k:Int)%8==4)=false:=by simp;omega
 have d2:((k:Int)%8==5)=false:=by simp;omega
 have d3:((k:Int)%8==6)=true:=by simp;omega
 clear hk h hs hrb b0 A0 R0 Q0 zW hrep h8;go_enter Tryz.func52,Tryz.ntmps52;go_wp2_with fail;try rw [hW]
 clear hW;refine HN.out.mono ?_;rintro e w1 ⟨rfl,r1,g1⟩;have HPT:=hid (HPP.out B rb w1 (by have:=HBB.out;have:=HB0.out.size;have:=g1.size;omega) r1);have HG1:=hid g1;clear r1 g1 HN HPP;go_wp2_with fail;refine HPT.out.mono ?_;rintro e w2 ⟨pa,pc,rfl,p2,r2,g2⟩;have HGG:Hid (W.grownBy w2 (some rb)):=hid (grown_transJ HG1.out g2);have HNE:Hid (∀b,w.heap.size<=b ->∀k,some rb=some k ->k≠b):=hid (fun b hb k e=>by injection e with e;have:=HRB.out;have:=HBB.out;omega);have HA2:=hid (HA0.out.gr HGG.out (HNE.out _ (Nat.le_refl _)));have HR2:=hid (HR0.out.gr HGG.out (HNE.out _ (Nat.le_succ _)));have HQ2:=hid (HQ0.out.gr HGG.out (HNE.out _ (by omega)));have HP2:=hid p2;have HD2:=hid r2;have HW2:Hid (w.grownBy w2 (some rb)):=hid ⟨HGG.out.os.trans HB0.out.os,HGG.out.tape.trans HB0.out.tape,HGG.out.output.trans HB0.out.output,Nat.le_trans HB0.out.size HGG.out.size,fun k hk hne=>(HGG.out.block k (Nat.lt_of_lt_of_le hk HB0.out.size) hne).trans (HB0.out.block k hk)⟩;have HZ2:Hid (w.heap.size+3<=w2.heap.size/\ w1.heap.size<=w2.heap.size):=hid (by have:=HGG.out.size;have:=HZW.out;have:=g2.size;omega);have k0:=HA2.out.c0;have k1:=HA2.out.c1;have b3:Below w2.heap.size w2 ((w2.alloc (.cells #[.slice a S.l.length c,.slice xa S.n d] 28)).alloc (.cells #[.slice none 0 0,.slice none 0 0] 28)):=below2 _ _ _;have HT3:Hid (AcS w ((w2.alloc (.cells #[.slice a S.l.length c,.slice xa S.n d] 28)).alloc (.cells #[.slice none 0 0,.slice none 0 0] 28)) B rb f n (rx n (rx n x)) (w2.heap.size+2) w.heap.size w2.heap.size (.slice a S.l.length c) (.slice xa S.n d) (.slice none 0 0) (.slice none 0 0)):=hid (by
  have z2:=HZ2.out;refine⟨HA2.out.below b3 HA2.out.lt,HR2.out.below b3 HR2.out.lt,HQ2.out.below b3 HQ2.out.lt,(Bx2.made w2 _ _ _).allocs _,?_,HD2.out.below (b3.mono (by have:=HBB.out;omega)),grownBelow HW2.out b3 (by omega),rfl,by omega,by omega,by simp,HBB.out⟩;simpa using Bx2.made (w2.alloc (.cells #[.slice a S.l.length c,.slice xa S.n d] 28)) (.slice none 0 0) (.slice none 0 0) 28)
 have HPQ:=hid (p2.below b3);have HSC:Hid (SNc ((w2.alloc (.cells #[.slice a S.l.length c,.slice xa S.n d] 28)).alloc (.cells #[.slice none 0 0,.slice none 0 0] 28)) lo a xa S):=hid (HSS.out.gr (grownBelow HW2.out b3 (by have:=HZ2.out;omega)) HLO.out.2);have kk0:=HT3.out.s0.c0;have kk1:=HT3.out.s0.c1;clear p2 r2 g2 HPT b3;go_wp2_with fail;obtain⟨W3,hW3⟩:∃W3,((w2.alloc (.cells #[.slice a S.l.length c,.slice xa S.n d] 28)).alloc (.cells #[.slice none 0 0,.slice none 0 0] 28))=W3:=⟨_,rfl⟩;have HZ3:Hid (W3.heap.size=w2.heap.size+2):=hid (by rw [<- hW3];simp);rw [hW3] at HT3 HPQ HSC;clear kk0 kk1;try rw [hW3]
 clear hW3;refine(HCH.out W3 a xa pa c d pc HSC.out.at HPQ.out.cap HPQ.out.at).mono ?_;rintro e w4 ⟨a5,c5,x5,d5,a6,c6,x6,d6,rfl,ox,oy,b4⟩;rw [HZ3.out] at ox oy b4;have HX4:=hid ox;have HY4:=hid oy;have HT4:=hid (HT3.out.below b4);clear ox oy b4 HT3 HPQ HSC HCH k0 k1;have t0:=HT4.out.t1.c0;have t1:=HT4.out.t1.c1;have tf:=HT4.out.t1.f;have TF:=(HT4.out.fill (.slice a5 X.l.length c5) (.slice x5 X.n d5) (.slice a6 Y.l.length c6) (.slice x6 Y.n d6)).1;have u0:=TF.c0;have u1:=TF.c1;have uf:=TF.f;clear TF;obtain⟨_,w5,hw5,f0,f1,f2,f3,f4,f5,f6⟩:=HT4.out.fill (.slice a5 X.l.length c5) (.slice x5 X.n d5) (.slice a6 Y.l.length c6) (.slice x6 Y.n d6);have HX5:Hid (SNc w5 (w2.heap.size+2) a5 x5 X):=hid (by rw [<- hw5];exact snc4 (r1:=w2.heap.size) (r2:=w2.heap.size+1) HX4.out (Nat.le_refl _) (by omega) (by omega) _ _ _ _);have HY5:Hid (SNc w5 (w2.heap.size+2) a6 x6 Y):=hid (by rw [<- hw5];exact snc4 (r1:=w2.heap.size) (r2:=w2.heap.size+1) HY4.out (Nat.le_refl _) (by omega) (by omega) _ _ _ _);have HF5:=hid f5;have HF6:=hid f6;by_cases hC:C=0
 ·subst hC;have HE:=hid (HS1.out rfl);clear HS1 HS2;have HTB:=hid (twoB f1 f2 (show w.heap.size+1≠w.heap.size+1+1 by omega) (.slice a5 X.l.length c5) (.slice x5 X.n d5) (.slice a6 Y.l.length c6) (.slice x6 Y.n d6));have o0:=f1.c0;have o1:=f1.c1;have of:=f1.f;have i0:=f3.c0;have i1:=f3.c1;have i2:=f4.c0;have i3:=f4.c1;have HQT:=hid HTB.out.1;have hn0:¬w.heap.size=w2.heap.size:=by have:=HZ2.out;omega
  have hn1:¬w.heap.size+1=w2.heap.size:=by have:=HZ2.out;omega
  have hn2:¬w.heap.size+1+1=w2.heap.size:=by have:=HZ2.out;omega
  clear f0 f1 f2 f3 f4 f5 f6;go_wp2_with fail;try rw [hw5]
  clear hw5;have q0:=HQT.out.c0;have q1:=HQT.out.c1;have qf:=HQT.out.f;go_region;try go_wp2_with fail
  all_goals
   obtain⟨X1,X2⟩:=HTB.out.2
   refine bodyPost_ret (v:=.tuple #[.agg #[.slice a5 X.l.length c5,.slice x5 X.n d5],.agg #[.slice a6 Y.l.length c6,.slice x6 Y.n d6]]) (by simp [results,Tryz.results52,go_sem,X1.c0,X1.c1,X2.c0,X2.c1]) rfl ?_
   rw [HE.out.1,HE.out.2]
   have z2:=HZ2.out
   have z5:=HBB.out
   have z6:=HLO.out.1
   obtain⟨E1,E2⟩:=act_end HF5.out HF6.out rfl z5 (.slice a5 X.l.length c5) (.slice x5 X.n d5) (.slice a6 Y.l.length c6) (.slice x6 Y.n d6)
   first
    | exact⟨a5,c5,x5,d5,a6,c6,x6,d6,rfl,(snc4 (r1:=w.heap.size+1) (r2:=w.heap.size+1+1) HX5.out (by omega) (by omega) (by omega) _ _ _ _).drew,(snc4 (r1:=w.heap.size+1) (r2:=w.heap.size+1+1) HY5.out (by omega) (by omega) (by omega) _ _ _ _).drew,E1.below (Below.refl _ _).drew,⟨E2.os,E2.tape,E2.output,E2.size,E2.block⟩⟩
    | exact⟨a5,c5,x5,d5,a6,c6,x6,⟨d6,rfl⟩,(snc4 (r1:=w.heap.size+1) (r2:=w.heap.size+1+1) HX5.out (by omega) (by omega) (by omega) _ _ _ _).drew,(snc4 (r1:=w.heap.size+1) (r2:=w.heap.size+1+1) HY5.out (by omega) (by omega) (by omega) _ _ _ _).drew,E1.below (Below.refl _ _).drew,⟨E2.os,E2.tape,E2.output,E2.size,E2.block⟩⟩
 ·have HTB:=hid (twoB f1 f2 (show w.heap.size+1≠w.heap.size+1+1 by omega) (.slice a S.l.length c) (.slice xa S.n d) (.slice none 0 0) (.slice none 0 0));have o0:=f1.c0;have o1:=f1.c1;have of:=f1.f;have i0:=f0.c0;have i1:=f0.c1;have q0:=HTB.out.1.c0;have q1:=HTB.out.1.c1;have qf:=HTB.out.1.f;clear f0 f1 f2 f3 f4 f5 f6;go_wp2_with fail;obtain⟨X1,X2⟩:=HTB.out.2;refine bodyPost_ret (v:=.tuple #[.agg #[.slice a S.l.length c,.slice xa S.n d],.agg #[.slice none 0 0,.slice none 0 0]]) (by simp [results,Tryz.results52,go_sem,X1.c0,X1.c1,X2.c0,X2.c1]) rfl ?_;rw [(HS2.out hC).1,(HS2.out hC).2];have z5:=HBB.out;obtain⟨E1,E2⟩:=act_end HF5.out HF6.out rfl z5 (.slice a S.l.length c) (.slice xa S.n d) (.slice none 0 0) (.slice none 0 0);first
   | exact⟨a,c,xa,d,none,0,none,0,rfl,HSS.out.gr E2 HLO.out.2,SNc.mt _ _ _ _,E1,E2⟩
   | exact⟨a,c,xa,d,none,0,none,⟨0,rfl⟩,HSS.out.gr E2 HLO.out.2,SNc.mt _ _ _ _,E1,E2⟩
theorem actT (f:Nat ->Int)(n x:Nat)(S:Sx)(rep k:Nat)(hk:rk f n x=k)(h8:k%8=4 \/k%8=5)(hS:Dr S)(hrep:rep<8):∃S1 S2 x',AcP f n x S rep S1 S2 x':=by
 obtain⟨p,hpl,hp⟩:=pathJ f n (rx n x);obtain⟨X,hX⟩:∃X,seX S rep p true true ⟨#[]⟩=X:=⟨_,rfl⟩;obtain⟨Y,hY⟩:∃Y,seY S rep p true true ⟨#[]⟩=Y:=⟨_,rfl⟩;obtain⟨C,hC⟩:∃C,seC S rep p true true ⟨#[]⟩=C:=⟨_,rfl⟩;have HDR:Hid (C=0 ->Dr X/\ Dr Y):=hid (by rw [<- hX,<- hY,<- hC];exact dr_se hS.vd (fun _=>by simp [emB]));have HCH:Hid (∀(w:World) (a xa pa:Option Addr) (c d pc:Nat),(LCap w a S.l/\ RSeg w xa S.n S.R S.F S.T) ->(p.length<=pc/\ pc<=9223372036854775807) ->SSeg w pa p ->Calls Tryz.prog 79 #[.agg #[.slice a S.l.length c,.slice xa S.n d],.int .i64 (rep:Int),.slice pa p.length pc,.bool true] w (ChP w X Y C)):=hid (fun w a xa pa c d pc h hpc hseg=>by
  rw [<- hX,<- hY,<- hC];exact specSetFlag a c xa d pa pc S rep p true w (vd_sm hS.vd) hS.t h.1 h.2 (by omega) hpc hseg)
 obtain⟨S1,hS1⟩:∃S1,(if C=0 then X else S)=S1:=⟨_,rfl⟩;obtain⟨S2,hS2⟩:∃S2,(if C=0 then Y else Sx.mt)=S2:=⟨_,rfl⟩;have HS1:Hid (C=0 ->S1=X/\ S2=Y):=hid (fun e=>⟨by rw [<- hS1,if_pos e],by rw [<- hS2,if_pos e]⟩);have HS2:Hid (C≠0 ->S1=S/\ S2=Sx.mt):=hid (fun e=>⟨by rw [<- hS1,if_neg e],by rw [<- hS2,if_neg e]⟩);refine⟨S1,S2,rx n (rx n x),?_,fun B lo rb a xa c d w hBl hlo h hs=> ?_⟩
 ·by_cases e:C=0
  ·rw [(HS1.out e).1,(HS1.out e).2];exact HDR.out e
  ·rw [(HS2.out e).1,(HS2.out e).2];exact⟨hS,Dr.mt⟩
 have hB:B<=w.heap.size:=Nat.le_trans hBl hlo;have HLO:Hid (lo<=w.heap.size/\ rb<lo):=hid ⟨hlo,Nat.lt_of_lt_of_le h.lt.2 hBl⟩;clear hBl hlo;have HPP:=hid hp;clear hX hY hC hS1 hS2 HDR hp;obtain⟨W,hW⟩:∃W,((w.alloc (.cells #[.slice a S.l.length c,.slice xa S.n d] 28)).alloc (.cells #[.slice none 0 0,.slice none 0 0] 28)).alloc (.cells #[.slice none 0 0,.slice none 0 0] 28)=W:=⟨_,rfl⟩;have b0:Below w.heap.size w W:=by rw [<- hW];exact(below2 _ _ _).alloc (by simp;omega) _
 have A0:Bx2 W w.heap.size (.slice a S.l.length c) (.slice xa S.n d):=by rw [<- hW];exact((Bx2.made w _ _ _).allocs _).allocs _
 have R0:Bx2 W (w.heap.size+1) (.slice none 0 0) (.slice none 0 0):=by
  rw [<- hW];have:=Bx2.made (w.alloc (.cells #[.slice a S.l.length c,.slice xa S.n d] 28)) (.slice none 0 0) (.slice none 0 0) 28;exact(by simpa using this:Bx2 _ (w.heap.size+1) _ _).allocs _
 have Q0:Bx2 W (w.heap.size+1+1) (.slice none 0 0) (.slice none 0 0):=by
  rw [<- hW];simpa using Bx2.made ((w.alloc (.cells #[.slice a S.l.length c,.slice xa S.n d] 28)).alloc (.cells #[.slice none 0 0,.slice none 0 0] 28)) (.slice none 0 0) (.slice none 0 0) 28
 have zW:W.heap.size=w.heap.size+3:=by rw [<- hW];simp
 have hrb:=h.lt;have HN:=hid (rdNextJ B rb f n x W (h.below (b0.mono hB)));rw [hk] at HN;have HA0:=hid A0;have HR0:=hid R0;have HQ0:=hid Q0;have HB0:=hid b0;have HZW:=hid zW;have HSS:=hid hs;have HRB:=hid hrb;have HBB:=hid hB;have d0:¬(k:Int)%8<4:=by omega
 obtain⟨B4,d1⟩:∃B4,((k:Int)%8==4)=B4:=⟨_,rfl⟩;have d2:B4=false ->((k:Int)%8==5)=true:=fun e=>by rw [<- d1] at e;simp at e ⊢;omega
 clear hk h hs hrb b0 A0 R0 Q0 zW hrep h8;go_enter Tryz.func52,Tryz.ntmps52;go_wp2_with fail;try rw [hW]
 clear hW;refine HN.out.mono ?_;rintro e w1 ⟨rfl,r1,g1⟩;have HPT:=hid (HPP.out B rb w1 (by have:=HBB.out;have:=HB0.out.size;have:=g1.size;omega) r1);have HG1:=hid g1;clear r1 g1 HN HPP;go_wp2_with fail;refine HPT.out.mono ?_;rintro e w2 ⟨pa,pc,rfl,p2,r2,g2⟩;have HGG:Hid (W.grownBy w2 (some rb)):=hid (grown_transJ HG1.out g2);have HNE:Hid (∀b,w.heap.size<=b ->∀k,some rb=some k ->k≠b):=hid (fun b hb k e=>by injection e with e;have:=HRB.out;have:=HBB.out;omega);have HA2:=hid (HA0.out.gr HGG.out (HNE.out _ (Nat.le_refl _)));have HR2:=hid (HR0.out.gr HGG.out (HNE.out _ (Nat.le_succ _)));have HQ2:=hid (HQ0.out.gr HGG.out (HNE.out _ (by omega)));have HP2:=hid p2;have HD2:=hid r2;have HW2:Hid (w.grownBy w2 (some rb)):=hid ⟨HGG.out.os.trans HB0.out.os,HGG.out.tape.trans HB0.out.tape,HGG.out.output.trans HB0.out.output,Nat.le_trans HB0.out.size HGG.out.size,fun k hk hne=>(HGG.out.block k (Nat.lt_of_lt_of_le hk HB0.out.size) hne).trans (HB0.out.block k hk)⟩;have HZ2:Hid (w.heap.size+3<=w2.heap.size/\ w1.heap.size<=w2.heap.size):=hid (by have:=HGG.out.size;have:=HZW.out;have:=g2.size;omega);have k0:=HA2.out.c0;have k1:=HA2.out.c1;have b3:Below w2.heap.size w2 ((w2.alloc (.cells #[.slice a S.l.length c,.slice xa S.n d] 28)).alloc (.cells #[.slice none 0 0,.slice none 0 0] 28)):=below2 _ _ _;have HT3:Hid (AcS w ((w2.alloc (.cells #[.slice a S.l.length c,.slice xa S.n d] 28)).alloc (.cells #[.slice none 0 0,.slice none 0 0] 28)) B rb f n (rx n (rx n x)) (w2.heap.size+2) w.heap.size w2.heap.size (.slice a S.l.length c) (.slice xa S.n d) (.slice none 0 0) (.slice none 0 0)):=hid (by
  have z2:=HZ2.out;refine⟨HA2.out.below b3 HA2.out.lt,HR2.out.below b3 HR2.out.lt,HQ2.out.below b3 HQ2.out.lt,(Bx2.made w2 _ _ _).allocs _,?_,HD2.out.below (b3.mono (by have:=HBB.out;omega)),grownBelow HW2.out b3 (by omega),rfl,by omega,by omega,by simp,HBB.out⟩;simpa using Bx2.made (w2.alloc (.cells #[.slice a S.l.length c,.slice xa S.n d] 28)) (.slice none 0 0) (.slice none 0 0) 28)
 have HPQ:=hid (p2.below b3);have HSC:Hid (SNc ((w2.alloc (.cells #[.slice a S.l.length c,.slice xa S.n d] 28)).alloc (.cells #[.slice none 0 0,.slice none 0 0] 28)) lo a xa S):=hid (HSS.out.gr (grownBelow HW2.out b3 (by have:=HZ2.out;omega)) HLO.out.2);have kk0:=HT3.out.s0.c0;have kk1:=HT3.out.s0.c1;clear p2 r2 g2 HPT b3;cases B4 with
 | true=>
  clear d2;go_wp2_with fail;obtain⟨W3,hW3⟩:∃W3,((w2.alloc (.cells #[.slice a S.l.length c,.slice xa S.n d] 28)).alloc (.cells #[.slice none 0 0,.slice none 0 0] 28))=W3:=⟨_,rfl⟩;have HZ3:Hid (W3.heap.size=w2.heap.size+2):=hid (by rw [<- hW3];simp);rw [hW3] at HT3 HPQ HSC;clear kk0 kk1;try rw [hW3]
  clear hW3;refine(HCH.out W3 a xa pa c d pc HSC.out.at HPQ.out.cap HPQ.out.at).mono ?_;rintro e w4 ⟨a5,c5,x5,d5,a6,c6,x6,d6,rfl,ox,oy,b4⟩;rw [HZ3.out] at ox oy b4;have HX4:=hid ox;have HY4:=hid oy;have HT4:=hid (HT3.out.below b4);clear ox oy b4 HT3 HPQ HSC HCH k0 k1;have t0:=HT4.out.t1.c0;have t1:=HT4.out.t1.c1;have tf:=HT4.out.t1.f;have TF:=(HT4.out.fill (.slice a5 X.l.length c5) (.slice x5 X.n d5) (.slice a6 Y.l.length c6) (.slice x6 Y.n d6)).1;have u0:=TF.c0;have u1:=TF.c1;have uf:=TF.f;clear TF;obtain⟨_,w5,hw5,f0,f1,f2,f3,f4,f5,f6⟩:=HT4.out.fill (.slice a5 X.l.length c5) (.slice x5 X.n d5) (.slice a6 Y.l.length c6) (.slice x6 Y.n d6);have HX5:Hid (SNc w5 (w2.heap.size+2) a5 x5 X):=hid (by rw [<- hw5];exact snc4 (r1:=w2.heap.size) (r2:=w2.heap.size+1) HX4.out (Nat.le_refl _) (by omega) (by omega) _ _ _ _);have HY5:Hid (SNc w5 (w2.heap.size+2) a6 x6 Y):=hid (by rw [<- hw5];exact snc4 (r1:=w2.heap.size) (r2:=w2.heap.size+1) HY4.out (Nat.le_refl _) (by omega) (by omega) _ _ _ _);have HF5:=hid f5;have HF6:=hid f6;by_cases hC:C=0
  ·subst hC;have HE:=hid (HS1.out rfl);clear HS1 HS2;have HTB:=hid (twoB f1 f2 (show w.heap.size+1≠w.heap.size+1+1 by omega) (.slice a5 X.l.length c5) (.slice x5 X.n d5) (.slice a6 Y.l.length c6) (.slice x6 Y.n d6));have o0:=f1.c0;have o1:=f1.c1;have of:=f1.f;have i0:=f3.c0;have i1:=f3.c1;have i2:=f4.c0;have i3:=f4.c1;have HQT:=hid HTB.out.1;have hn0:¬w.heap.size=w2.heap.size:=by have:=HZ2.out;omega
   have hn1:¬w.heap.size+1=w2.heap.size:=by have:=HZ2.out;omega
   have hn2:¬w.heap.size+1+1=w2.heap.size:=by have:=HZ2.out;omega
   clear f0 f1 f2 f3 f4 f5 f6;go_wp2_with fail;try rw [hw5]
   clear hw5;have q0:=HQT.out.c0;have q1:=HQT.out.c1;have qf:=HQT.out.f;go_region;try go_wp2_with fail
   all_goals
    obtain⟨X1,X2⟩:=HTB.out.2
    refine bodyPost_ret (v:=.tuple #[.agg #[.slice a5 X.l.length c5,.slice x5 X.n d5],.agg #[.slice a6 Y.l.length c6,.slice x6 Y.n d6]]) (by simp [results,Tryz.results52,go_sem,X1.c0,X1.c1,X2.c0,X2.c1]) rfl ?_
    rw [HE.out.1,HE.out.2]
    have z2:=HZ2.out
    have z5:=HBB.out
    have z6:=HLO.out.1
    obtain⟨E1,E2⟩:=act_end HF5.out HF6.out rfl z5 (.slice a5 X.l.length c5) (.slice x5 X.n d5) (.slice a6 Y.l.length c6) (.slice x6 Y.n d6)
    first
     | exact⟨a5,c5,x5,d5,a6,c6,x6,d6,rfl,(snc4 (r1:=w.heap.size+1) (r2:=w.heap.size+1+1) HX5.out (by omega) (by omega) (by omega) _ _ _ _).drew,(snc4 (r1:=w.heap.size+1) (r2:=w.heap.size+1+1) HY5.out (by omega) (by omega) (by omega) _ _ _ _).drew,E1.below (Below.refl _ _).drew,⟨E2.os,E2.tape,E2.output,E2.size,E2.block⟩⟩
     | exact⟨a5,c5,x5,d5,a6,c6,x6,⟨d6,rfl⟩,(snc4 (r1:=w.heap.size+1) (r2:=w.heap.size+1+1) HX5.out (by omega) (by omega) (by omega) _ _ _ _).drew,(snc4 (r1:=w.heap.size+1) (r2:=w.heap.size+1+1) HY5.out (by omega) (by omega) (by omega) _ _ _ _).drew,E1.below (Below.refl _ _).drew,⟨E2.os,E2.tape,E2.output,E2.size,E2.block⟩⟩
  ·have HTB:=hid (twoB f1 f2 (show w.heap.size+1≠w.heap.size+1+1 by omega) (.slice a S.l.length c) (.slice xa S.n d) (.slice none 0 0) (.slice none 0 0));have o0:=f1.c0;have o1:=f1.c1;have of:=f1.f;have i0:=f0.c0;have i1:=f0.c1;have q0:=HTB.out.1.c0;have q1:=HTB.out.1.c1;have qf:=HTB.out.1.f;clear f0 f1 f2 f3 f4 f5 f6;go_wp2_with fail;obtain⟨X1,X2⟩:=HTB.out.2;refine bodyPost_ret (v:=.tuple #[.agg #[.slice a S.l.length c,.slice xa S.n d],.agg #[.slice none 0 0,.slice none 0 0]]) (by simp [results,Tryz.results52,go_sem,X1.c0,X1.c1,X2.c0,X2.c1]) rfl ?_;rw [(HS2.out hC).1,(HS2.out hC).2];have z5:=HBB.out;obtain⟨E1,E2⟩:=act_end HF5.out HF6.out rfl z5 (.slice a S.l.length c) (.slice xa S.n d) (.slice none 0 0) (.slice none 0 0);first
    | exact⟨a,c,xa,d,none,0,none,0,rfl,HSS.out.gr E2 HLO.out.2,SNc.mt _ _ _ _,E1,E2⟩
    | exact⟨a,c,xa,d,none,0,none,⟨0,rfl⟩,HSS.out.gr E2 HLO.out.2,SNc.mt _ _ _ _,E1,E2⟩
 | false=>
  have d3:=d2 rfl;clear d2;go_wp2_with fail;obtain⟨W3,hW3⟩:∃W3,((w2.alloc (.cells #[.slice a S.l.length c,.slice xa S.n d] 28)).alloc (.cells #[.slice none 0 0,.slice none 0 0] 28))=W3:=⟨_,rfl⟩;have HZ3:Hid (W3.heap.size=w2.heap.size+2):=hid (by rw [<- hW3];simp);rw [hW3] at HT3 HPQ HSC;clear kk0 kk1;try rw [hW3]
  clear hW3;refine(HCH.out W3 a xa pa c d pc HSC.out.at HPQ.out.cap HPQ.out.at).mono ?_;rintro e w4 ⟨a5,c5,x5,d5,a6,c6,x6,d6,rfl,ox,oy,b4⟩;rw [HZ3.out] at ox oy b4;have HX4:=hid ox;have HY4:=hid oy;have HT4:=hid (HT3.out.below b4);clear ox oy b4 HT3 HPQ HSC HCH k0 k1;have t0:=HT4.out.t1.c0;have t1:=HT4.out.t1.c1;have tf:=HT4.out.t1.f;have TF:=(HT4.out.fill (.slice a5 X.l.length c5) (.slice x5 X.n d5) (.slice a6 Y.l.length c6) (.slice x6 Y.n d6)).1;have u0:=TF.c0;have u1:=TF.c1;have uf:=TF.f;clear TF;obtain⟨_,w5,hw5,f0,f1,f2,f3,f4,f5,f6⟩:=HT4.out.fill (.slice a5 X.l.length c5) (.slice x5 X.n d5) (.slice a6 Y.l.length c6) (.slice x6 Y.n d6);have HX5:Hid (SNc w5 (w2.heap.size+2) a5 x5 X):=hid (by rw [<- hw5];exact snc4 (r1:=w2.heap.size) (r2:=w2.heap.size+1) HX4.out (Nat.le_refl _) (by omega) (by omega) _ _ _ _);have HY5:Hid (SNc w5 (w2.heap.size+2) a6 x6 Y):=hid (by rw [<- hw5];exact snc4 (r1:=w2.heap.size) (r2:=w2.heap.size+1) HY4.out (Nat.le_refl _) (by omega) (by omega) _ _ _ _);have HF5:=hid f5;have HF6:=hid f6;by_cases hC:C=0
  ·subst hC;have HE:=hid (HS1.out rfl);clear HS1 HS2;have HTB:=hid (twoB f1 f2 (show w.heap.size+1≠w.heap.size+1+1 by omega) (.slice a5 X.l.length c5) (.slice x5 X.n d5) (.slice a6 Y.l.length c6) (.slice x6 Y.n d6));have o0:=f1.c0;have o1:=f1.c1;have of:=f1.f;have i0:=f3.c0;have i1:=f3.c1;have i2:=f4.c0;have i3:=f4.c1;have HQT:=hid HTB.out.1;have hn0:¬w.heap.size=w2.heap.size:=by have:=HZ2.out;omega
   have hn1:¬w.heap.size+1=w2.heap.size:=by have:=HZ2.out;omega
   have hn2:¬w.heap.size+1+1=w2.heap.size:=by have:=HZ2.out;omega
   clear f0 f1 f2 f3 f4 f5 f6;go_wp2_with fail;try rw [hw5]
   clear hw5;have q0:=HQT.out.c0;have q1:=HQT.out.c1;have qf:=HQT.out.f;go_region;try go_wp2_with fail
   all_goals
    obtain⟨X1,X2⟩:=HTB.out.2
    refine bodyPost_ret (v:=.tuple #[.agg #[.slice a5 X.l.length c5,.slice x5 X.n d5],.agg #[.slice a6 Y.l.length c6,.slice x6 Y.n d6]]) (by simp [results,Tryz.results52,go_sem,X1.c0,X1.c1,X2.c0,X2.c1]) rfl ?_
    rw [HE.out.1,HE.out.2]
    have z2:=HZ2.out
    have z5:=HBB.out
    have z6:=HLO.out.1
    obtain⟨E1,E2⟩:=act_end HF5.out HF6.out rfl z5 (.slice a5 X.l.length c5) (.slice x5 X.n d5) (.slice a6 Y.l.length c6) (.slice x6 Y.n d6)
    first
     | exact⟨a5,c5,x5,d5,a6,c6,x6,d6,rfl,(snc4 (r1:=w.heap.size+1) (r2:=w.heap.size+1+1) HX5.out (by omega) (by omega) (by omega) _ _ _ _).drew,(snc4 (r1:=w.heap.size+1) (r2:=w.heap.size+1+1) HY5.out (by omega) (by omega) (by omega) _ _ _ _).drew,E1.below (Below.refl _ _).drew,⟨E2.os,E2.tape,E2.output,E2.size,E2.block⟩⟩
     | exact⟨a5,c5,x5,d5,a6,c6,x6,⟨d6,rfl⟩,(snc4 (r1:=w.heap.size+1) (r2:=w.heap.size+1+1) HX5.out (by omega) (by omega) (by omega) _ _ _ _).drew,(snc4 (r1:=w.heap.size+1) (r2:=w.heap.size+1+1) HY5.out (by omega) (by omega) (by omega) _ _ _ _).drew,E1.below (Below.refl _ _).drew,⟨E2.os,E2.tape,E2.output,E2.size,E2.block⟩⟩
  ·have HTB:=hid (twoB f1 f2 (show w.heap.size+1≠w.heap.size+1+1 by omega) (.slice a S.l.length c) (.slice xa S.n d) (.slice none 0 0) (.slice none 0 0));have o0:=f1.c0;have o1:=f1.c1;have of:=f1.f;have i0:=f0.c0;have i1:=f0.c1;have q0:=HTB.out.1.c0;have q1:=HTB.out.1.c1;have qf:=HTB.out.1.f;clear f0 f1 f2 f3 f4 f5 f6;go_wp2_with fail;obtain⟨X1,X2⟩:=HTB.out.2;refine bodyPost_ret (v:=.tuple #[.agg #[.slice a S.l.length c,.slice xa S.n d],.agg #[.slice none 0 0,.slice none 0 0]]) (by simp [results,Tryz.results52,go_sem,X1.c0,X1.c1,X2.c0,X2.c1]) rfl ?_;rw [(HS2.out hC).1,(HS2.out hC).2];have z5:=HBB.out;obtain⟨E1,E2⟩:=act_end HF5.out HF6.out rfl z5 (.slice a S.l.length c) (.slice xa S.n d) (.slice none 0 0) (.slice none 0 0);first
    | exact⟨a,c,xa,d,none,0,none,0,rfl,HSS.out.gr E2 HLO.out.2,SNc.mt _ _ _ _,E1,E2⟩
    | exact⟨a,c,xa,d,none,0,none,⟨0,rfl⟩,HSS.out.gr E2 HLO.out.2,SNc.mt _ _ _ _,E1,E2⟩
theorem actW (f:Nat ->Int)(n x:Nat)(S:Sx)(rep k:Nat)(hk:rk f n x=k)(h8:k%8<4)(hS:Dr S)(hrep:rep<8):∃S1 S2 x',AcP f n x S rep S1 S2 x':=by
 obtain⟨p,hpl,hp⟩:=pathJ f n (rx n x);obtain⟨v,hvs,hv⟩:=valueJ f n (rx n (rx n x));obtain⟨X,hX⟩:∃X,seX S rep p false true v=X:=⟨_,rfl⟩;obtain⟨Y,hY⟩:∃Y,seY S rep p false true v=Y:=⟨_,rfl⟩;obtain⟨C,hC⟩:∃C,seC S rep p false true v=C:=⟨_,rfl⟩;have HDR:Hid (C=0 ->Dr X/\ Dr Y):=hid (by rw [<- hX,<- hY,<- hC];exact dr_se hS.vd (fun h=>by cases h));have HCH:Hid (∀(w:World) (a xa pa:Option Addr) (c d pc:Nat),(LCap w a S.l/\ RSeg w xa S.n S.R S.F S.T) ->(p.length<=pc/\ pc<=9223372036854775807) ->SSeg w pa p ->Calls Tryz.prog 77 #[.agg #[.slice a S.l.length c,.slice xa S.n d],.int .i64 (rep:Int),.slice pa p.length pc,.string v] w (ChP w X Y C)):=hid (fun w a xa pa c d pc h hpc hseg=>by
  rw [<- hX,<- hY,<- hC];exact specWriteReg a c xa d pa pc S rep p v w (vd_sm hS.vd) hS.t h.1 h.2 (by omega) hpc hseg (by omega))
 obtain⟨S1,hS1⟩:∃S1,(if C=0 then X else S)=S1:=⟨_,rfl⟩;obtain⟨S2,hS2⟩:∃S2,(if C=0 then Y else Sx.mt)=S2:=⟨_,rfl⟩;have HS1:Hid (C=0 ->S1=X/\ S2=Y):=hid (fun e=>⟨by rw [<- hS1,if_pos e],by rw [<- hS2,if_pos e]⟩);have HS2:Hid (C≠0 ->S1=S/\ S2=Sx.mt):=hid (fun e=>⟨by rw [<- hS1,if_neg e],by rw [<- hS2,if_neg e]⟩);refine⟨S1,S2,rx n (rx n (rx n x)),?_,fun B lo rb a xa c d w hBl hlo h hs=> ?_⟩
 ·by_cases e:C=0
  ·rw [(HS1.out e).1,(HS1.out e).2];exact HDR.out e
  ·rw [(HS2.out e).1,(HS2.out e).2];exact⟨hS,Dr.mt⟩
 have hB:B<=w.heap.size:=Nat.le_trans hBl hlo;have HLO:Hid (lo<=w.heap.size/\ rb<lo):=hid ⟨hlo,Nat.lt_of_lt_of_le h.lt.2 hBl⟩;clear hBl hlo;have HPP:=hid hp;have HVV:=hid hv;clear hX hY hC hS1 hS2 HDR hp hv;obtain⟨W,hW⟩:∃W,((w.alloc (.cells #[.slice a S.l.length c,.slice xa S.n d] 28)).alloc (.cells #[.slice none 0 0,.slice none 0 0] 28)).alloc (.cells #[.slice none 0 0,.slice none 0 0] 28)=W:=⟨_,rfl⟩;have b0:Below w.heap.size w W:=by rw [<- hW];exact(below2 _ _ _).alloc (by simp;omega) _
 have A0:Bx2 W w.heap.size (.slice a S.l.length c) (.slice xa S.n d):=by rw [<- hW];exact((Bx2.made w _ _ _).allocs _).allocs _
 have R0:Bx2 W (w.heap.size+1) (.slice none 0 0) (.slice none 0 0):=by
  rw [<- hW];have:=Bx2.made (w.alloc (.cells #[.slice a S.l.length c,.slice xa S.n d] 28)) (.slice none 0 0) (.slice none 0 0) 28;exact(by simpa using this:Bx2 _ (w.heap.size+1) _ _).allocs _
 have Q0:Bx2 W (w.heap.size+1+1) (.slice none 0 0) (.slice none 0 0):=by
  rw [<- hW];simpa using Bx2.made ((w.alloc (.cells #[.slice a S.l.length c,.slice xa S.n d] 28)).alloc (.cells #[.slice none 0 0,.slice none 0 0] 28)) (.slice none 0 0) (.slice none 0 0) 28
 have zW:W.heap.size=w.heap.size+3:=by rw [<- hW];simp
 have hrb:=h.lt;have HN:=hid (rdNextJ B rb f n x W (h.below (b0.mono hB)));rw [hk] at HN;have HA0:=hid A0;have HR0:=hid R0;have HQ0:=hid Q0;have HB0:=hid b0;have HZW:=hid zW;have HSS:=hid hs;have HRB:=hid hrb;have HBB:=hid hB;have d0:(k:Int)%8<4:=by omega
 clear hk h hs hrb b0 A0 R0 Q0 zW hrep h8;go_enter Tryz.func52,Tryz.ntmps52;go_wp2_with fail;try rw [hW]
 clear hW;refine HN.out.mono ?_;rintro e w1 ⟨rfl,r1,g1⟩;have HPT:=hid (HPP.out B rb w1 (by have:=HBB.out;have:=HB0.out.size;have:=g1.size;omega) r1);have HG1:=hid g1;clear r1 g1 HN HPP;go_wp2_with fail;refine HPT.out.mono ?_;rintro e w2 ⟨pa,pc,rfl,p2,r2,g2⟩;have HGG:Hid (W.grownBy w2 (some rb)):=hid (grown_transJ HG1.out g2);have HNE:Hid (∀b,w.heap.size<=b ->∀k,some rb=some k ->k≠b):=hid (fun b hb k e=>by injection e with e;have:=HRB.out;have:=HBB.out;omega);have HA2:=hid (HA0.out.gr HGG.out (HNE.out _ (Nat.le_refl _)));have HR2:=hid (HR0.out.gr HGG.out (HNE.out _ (Nat.le_succ _)));have HQ2:=hid (HQ0.out.gr HGG.out (HNE.out _ (by omega)));have HP2:=hid p2;have HD2:=hid r2;have HW2:Hid (w.grownBy w2 (some rb)):=hid ⟨HGG.out.os.trans HB0.out.os,HGG.out.tape.trans HB0.out.tape,HGG.out.output.trans HB0.out.output,Nat.le_trans HB0.out.size HGG.out.size,fun k hk hne=>(HGG.out.block k (Nat.lt_of_lt_of_le hk HB0.out.size) hne).trans (HB0.out.block k hk)⟩;have HZ2:Hid (w.heap.size+3<=w2.heap.size/\ w1.heap.size<=w2.heap.size):=hid (by have:=HGG.out.size;have:=HZW.out;have:=g2.size;omega);have k0:=HA2.out.c0;have k1:=HA2.out.c1;have b3:Below w2.heap.size w2 ((w2.alloc (.cells #[.slice a S.l.length c,.slice xa S.n d] 28)).alloc (.cells #[.slice none 0 0,.slice none 0 0] 28)):=below2 _ _ _;have HT3:Hid (AcS w ((w2.alloc (.cells #[.slice a S.l.length c,.slice xa S.n d] 28)).alloc (.cells #[.slice none 0 0,.slice none 0 0] 28)) B rb f n (rx n (rx n x)) (w2.heap.size+2) w.heap.size w2.heap.size (.slice a S.l.length c) (.slice xa S.n d) (.slice none 0 0) (.slice none 0 0)):=hid (by
  have z2:=HZ2.out;refine⟨HA2.out.below b3 HA2.out.lt,HR2.out.below b3 HR2.out.lt,HQ2.out.below b3 HQ2.out.lt,(Bx2.made w2 _ _ _).allocs _,?_,HD2.out.below (b3.mono (by have:=HBB.out;omega)),grownBelow HW2.out b3 (by omega),rfl,by omega,by omega,by simp,HBB.out⟩;simpa using Bx2.made (w2.alloc (.cells #[.slice a S.l.length c,.slice xa S.n d] 28)) (.slice none 0 0) (.slice none 0 0) 28)
 have HPQ:=hid (p2.below b3);have HSC:Hid (SNc ((w2.alloc (.cells #[.slice a S.l.length c,.slice xa S.n d] 28)).alloc (.cells #[.slice none 0 0,.slice none 0 0] 28)) lo a xa S):=hid (HSS.out.gr (grownBelow HW2.out b3 (by have:=HZ2.out;omega)) HLO.out.2);have kk0:=HT3.out.s0.c0;have kk1:=HT3.out.s0.c1;clear p2 r2 g2 HPT b3;go_wp2_with fail;obtain⟨W3,hW3⟩:∃W3,((w2.alloc (.cells #[.slice a S.l.length c,.slice xa S.n d] 28)).alloc (.cells #[.slice none 0 0,.slice none 0 0] 28))=W3:=⟨_,rfl⟩;have HZ3:Hid (W3.heap.size=w2.heap.size+2):=hid (by rw [<- hW3];simp);rw [hW3] at HT3 HPQ HSC;clear kk0 kk1;try rw [hW3]
 clear hW3;have HSE:Hid (∀w',Bx2 w' w.heap.size (.slice a S.l.length c) (.slice xa S.n d) ->(w'.cell? ⟨w.heap.size,0,none⟩=some (.slice a S.l.length c)/\ w'.cell? ⟨w.heap.size,1,none⟩=some (.slice xa S.n d))):=hid (fun w' b=>⟨b.c0,b.c1⟩);have HTD:=hid (HT3.out.below ((Below.refl (w2.heap.size+2) W3).drew));have HVC:=hid (HVV.out B rb W3.drew (by have h1:=HBB.out;have h2:=HZ2.out;have h3:=HZ3.out;show B<=W3.heap.size;omega) HTD.out.rd);clear k0 k1 HVV;refine wp_region_held_drew (S:=fun w'=>w'.cell? ⟨w.heap.size,0,none⟩=some (.slice a S.l.length c)/\ w'.cell? ⟨w.heap.size,1,none⟩=some (.slice xa S.n d)) (by kernel_rfl) (HSE.out _ HTD.out.s0) (fun hHeld=> ?_);refine tZ 1 24 ?_;refine tZ 2 25 ?_;refine tZ 3 26 ?_;refine ready2t (i:=0) (j:=4) (d:=some 23) (d':=some 27) (by kernel_rfl) (by kernel_rfl) (by kernel_rfl) ?_ ?_
 ·
  intro o ho hod K hK;simp only [gZa,gZb,gZc,gZd] at ho;subst ho;go_simp;refine hK.out _ _ (HSE.out _ HTD.out.s0) (fun hHeld=> ?_);clear hK K;try simp only [Act.put,sZa,sZb,sZc]
  refine cZ 4 ?_;intro K hK;go_simp;refine HVC.out.mono ?_;rintro e w7 ⟨rfl,r7,g7⟩;have HT7:=hid (HTD.out.gro g7 r7);have HS7:Hid (SNc w7 lo a xa S):=hid (SNc.gr (HSC.out.drew) g7 HLO.out.2);have HP7:Hid (PtN w7 w1.heap.size pa pc p):=hid (PtN.gr (HPQ.out.below ((Below.refl _ _).drew)) g7 (by have h1:=HRB.out;have h2:=HB0.out.size;have h3:=HG1.out.size;omega));clear r7 g7 HVC HT3 HPQ HSC HTD;refine hK.out _ _ (HSE.out _ HT7.out.s0) (fun hHeld=> ?_);clear hK K;try simp only [Act.put,sZa,sZb,sZc]
  have HCP:=hid (HCH.out w7 a xa pa c d pc HS7.out.at HP7.out.cap HP7.out.at);refine cZ 5 ?_;intro K hK;go_simp;refine HCP.out.mono ?_;rintro e w4 ⟨a5,c5,x5,d5,a6,c6,x6,d6,rfl,ox,oy,b4⟩;have z7:=HT7.out.z4;have HX4:Hid (SNc w4 (w2.heap.size+2) a5 x5 X):=hid (ox.move z7 (Nat.le_refl _) (fun _ _ _=>rfl));have HY4:Hid (SNc w4 (w2.heap.size+2) a6 x6 Y):=hid (oy.move z7 (Nat.le_refl _) (fun _ _ _=>rfl));have HT4:=hid (HT7.out.below (b4.mono z7));clear ox oy b4 HS7 HP7 HCP HCH HT7;refine hK.out _ _ (HSE.out _ HT4.out.s0) (fun hHeld=> ?_);clear hK K;try simp only [Act.put,sZa,sZb,sZc]
  refine tZ 6 22 ?_;refine tZ 7 29 ?_;refine tZ 8 30 ?_;refine tZ 9 31 ?_;have t0:=HT4.out.t1.c0;have t1:=HT4.out.t1.c1;have tf:=HT4.out.t1.f;have HFL:=hid (HT4.out.fill (.slice a5 X.l.length c5) (.slice x5 X.n d5) (.slice a6 Y.l.length c6) (.slice x6 Y.n d6));have hb0:w2.heap.size≠w.heap.size:=by have:=HZ2.out;omega
  have hb1:w2.heap.size+1≠w.heap.size:=by have:=HZ2.out;omega
  have HS5:=hid ((HT4.out.s0.setAt ⟨w2.heap.size,0,none⟩ (.slice a5 X.l.length c5) hb0).setAt ⟨w2.heap.size,1,none⟩ (.slice x5 X.n d5) hb0);have HS6:=hid ((HS5.out.setAt ⟨w2.heap.size+1,0,none⟩ (.slice a6 Y.l.length c6) hb1).setAt ⟨w2.heap.size+1,1,none⟩ (.slice x6 Y.n d6) hb1);clear hb0 hb1;refine cZ 10 ?_;intro K hK;go_simp;refine hK.out _ _ (HSE.out _ HS5.out) (fun hHeld=> ?_);clear hK K;try simp only [Act.put,sZa,sZb,sZc]
  clear t0 t1 tf;have u0:=HFL.out.1.c0;have u1:=HFL.out.1.c1;have uf:=HFL.out.1.f;refine cZ 11 ?_;intro K hK;go_simp;refine hK.out _ _ (HSE.out _ HS6.out) (fun hHeld=> ?_);clear hK K;try simp only [Act.put,sZa,sZb,sZc]
  clear u0 u1 uf;refine tZ 12 12 ?_;refine wpAnyH_done (by kernel_rfl) ?_ _;clear hHeld HS5 HS6 HFL HSE;obtain⟨_,w5,hw5,f0,f1,f2,f3,f4,f5,f6⟩:=HT4.out.fill (.slice a5 X.l.length c5) (.slice x5 X.n d5) (.slice a6 Y.l.length c6) (.slice x6 Y.n d6);have HX5:Hid (SNc w5 (w2.heap.size+2) a5 x5 X):=hid (by rw [<- hw5];exact snc4 (r1:=w2.heap.size) (r2:=w2.heap.size+1) HX4.out (Nat.le_refl _) (by omega) (by omega) _ _ _ _);have HY5:Hid (SNc w5 (w2.heap.size+2) a6 x6 Y):=hid (by rw [<- hw5];exact snc4 (r1:=w2.heap.size) (r2:=w2.heap.size+1) HY4.out (Nat.le_refl _) (by omega) (by omega) _ _ _ _);have HF5:=hid f5;have HF6:=hid f6;by_cases hC:C=0
  ·subst hC;have HE:=hid (HS1.out rfl);clear HS1 HS2;have HTB:=hid (twoB f1 f2 (show w.heap.size+1≠w.heap.size+1+1 by omega) (.slice a5 X.l.length c5) (.slice x5 X.n d5) (.slice a6 Y.l.length c6) (.slice x6 Y.n d6));have o0:=f1.c0;have o1:=f1.c1;have of:=f1.f;have i0:=f3.c0;have i1:=f3.c1;have i2:=f4.c0;have i3:=f4.c1;have HQT:=hid HTB.out.1;have hn0:¬w.heap.size=w2.heap.size:=by have:=HZ2.out;omega
   have hn1:¬w.heap.size+1=w2.heap.size:=by have:=HZ2.out;omega
   have hn2:¬w.heap.size+1+1=w2.heap.size:=by have:=HZ2.out;omega
   clear f0 f1 f2 f3 f4 f5 f6;go_wp2_with fail;try rw [hw5]
   clear hw5;have q0:=HQT.out.c0;have q1:=HQT.out.c1;have qf:=HQT.out.f;go_region;try go_wp2_with fail
   all_goals
    obtain⟨X1,X2⟩:=HTB.out.2
    refine bodyPost_ret (v:=.tuple #[.agg #[.slice a5 X.l.length c5,.slice x5 X.n d5],.agg #[.slice a6 Y.l.length c6,.slice x6 Y.n d6]]) (by simp [results,Tryz.results52,go_sem,X1.c0,X1.c1,X2.c0,X2.c1]) rfl ?_
    rw [HE.out.1,HE.out.2]
    have z2:=HZ2.out
    have z5:=HBB.out
    have z6:=HLO.out.1
    obtain⟨E1,E2⟩:=act_end HF5.out HF6.out rfl z5 (.slice a5 X.l.length c5) (.slice x5 X.n d5) (.slice a6 Y.l.length c6) (.slice x6 Y.n d6)
    first
     | exact⟨a5,c5,x5,d5,a6,c6,x6,d6,rfl,(snc4 (r1:=w.heap.size+1) (r2:=w.heap.size+1+1) HX5.out (by omega) (by omega) (by omega) _ _ _ _).drew,(snc4 (r1:=w.heap.size+1) (r2:=w.heap.size+1+1) HY5.out (by omega) (by omega) (by omega) _ _ _ _).drew,E1.below (Below.refl _ _).drew,⟨E2.os,E2.tape,E2.output,E2.size,E2.block⟩⟩
     | exact⟨a5,c5,x5,d5,a6,c6,x6,⟨d6,rfl⟩,(snc4 (r1:=w.heap.size+1) (r2:=w.heap.size+1+1) HX5.out (by omega) (by omega) (by omega) _ _ _ _).drew,(snc4 (r1:=w.heap.size+1) (r2:=w.heap.size+1+1) HY5.out (by omega) (by omega) (by omega) _ _ _ _).drew,E1.below (Below.refl _ _).drew,⟨E2.os,E2.tape,E2.output,E2.size,E2.block⟩⟩
  ·have HTB:=hid (twoB f1 f2 (show w.heap.size+1≠w.heap.size+1+1 by omega) (.slice a S.l.length c) (.slice xa S.n d) (.slice none 0 0) (.slice none 0 0));have o0:=f1.c0;have o1:=f1.c1;have of:=f1.f;have i0:=f0.c0;have i1:=f0.c1;have q0:=HTB.out.1.c0;have q1:=HTB.out.1.c1;have qf:=HTB.out.1.f;clear f0 f1 f2 f3 f4 f5 f6;go_wp2_with fail;obtain⟨X1,X2⟩:=HTB.out.2;refine bodyPost_ret (v:=.tuple #[.agg #[.slice a S.l.length c,.slice xa S.n d],.agg #[.slice none 0 0,.slice none 0 0]]) (by simp [results,Tryz.results52,go_sem,X1.c0,X1.c1,X2.c0,X2.c1]) rfl ?_;rw [(HS2.out hC).1,(HS2.out hC).2];have z5:=HBB.out;obtain⟨E1,E2⟩:=act_end HF5.out HF6.out rfl z5 (.slice a S.l.length c) (.slice xa S.n d) (.slice none 0 0) (.slice none 0 0);first
    | exact⟨a,c,xa,d,none,0,none,0,rfl,HSS.out.gr E2 HLO.out.2,SNc.mt _ _ _ _,E1,E2⟩
    | exact⟨a,c,xa,d,none,0,none,⟨0,rfl⟩,HSS.out.gr E2 HLO.out.2,SNc.mt _ _ _ _,E1,E2⟩
 ·
  intro o ho hod K hK;simp only [gZa,gZb,gZc,gZd] at ho;subst ho;go_simp;refine HVC.out.mono ?_;rintro e w7 ⟨rfl,r7,g7⟩;have HT7:=hid (HTD.out.gro g7 r7);have HS7:Hid (SNc w7 lo a xa S):=hid (SNc.gr (HSC.out.drew) g7 HLO.out.2);have HP7:Hid (PtN w7 w1.heap.size pa pc p):=hid (PtN.gr (HPQ.out.below ((Below.refl _ _).drew)) g7 (by have h1:=HRB.out;have h2:=HB0.out.size;have h3:=HG1.out.size;omega));clear r7 g7 HVC HT3 HPQ HSC HTD;refine hK.out _ _ (HSE.out _ HT7.out.s0) (fun hHeld=> ?_);clear hK K;try simp only [Act.put,sZa,sZb,sZc]
  have t0:=HT7.out.s0.c0;have t1:=HT7.out.s0.c1;refine cZ 0 ?_;intro K hK;go_simp;refine hK.out _ _ (HSE.out _ HT7.out.s0) (fun hHeld=> ?_);clear hK K;try simp only [Act.put,sZa,sZb,sZc]
  clear t0 t1;have HCP:=hid (HCH.out w7 a xa pa c d pc HS7.out.at HP7.out.cap HP7.out.at);refine cZ 5 ?_;intro K hK;go_simp;refine HCP.out.mono ?_;rintro e w4 ⟨a5,c5,x5,d5,a6,c6,x6,d6,rfl,ox,oy,b4⟩;have z7:=HT7.out.z4;have HX4:Hid (SNc w4 (w2.heap.size+2) a5 x5 X):=hid (ox.move z7 (Nat.le_refl _) (fun _ _ _=>rfl));have HY4:Hid (SNc w4 (w2.heap.size+2) a6 x6 Y):=hid (oy.move z7 (Nat.le_refl _) (fun _ _ _=>rfl));have HT4:=hid (HT7.out.below (b4.mono z7));clear ox oy b4 HS7 HP7 HCP HCH HT7;refine hK.out _ _ (HSE.out _ HT4.out.s0) (fun hHeld=> ?_);clear hK K;try simp only [Act.put,sZa,sZb,sZc]
  refine tZ 6 22 ?_;refine tZ 7 29 ?_;refine tZ 8 30 ?_;refine tZ 9 31 ?_;have t0:=HT4.out.t1.c0;have t1:=HT4.out.t1.c1;have tf:=HT4.out.t1.f;have HFL:=hid (HT4.out.fill (.slice a5 X.l.length c5) (.slice x5 X.n d5) (.slice a6 Y.l.length c6) (.slice x6 Y.n d6));have hb0:w2.heap.size≠w.heap.size:=by have:=HZ2.out;omega
  have hb1:w2.heap.size+1≠w.heap.size:=by have:=HZ2.out;omega
  have HS5:=hid ((HT4.out.s0.setAt ⟨w2.heap.size,0,none⟩ (.slice a5 X.l.length c5) hb0).setAt ⟨w2.heap.size,1,none⟩ (.slice x5 X.n d5) hb0);have HS6:=hid ((HS5.out.setAt ⟨w2.heap.size+1,0,none⟩ (.slice a6 Y.l.length c6) hb1).setAt ⟨w2.heap.size+1,1,none⟩ (.slice x6 Y.n d6) hb1);clear hb0 hb1;refine cZ 10 ?_;intro K hK;go_simp;refine hK.out _ _ (HSE.out _ HS5.out) (fun hHeld=> ?_);clear hK K;try simp only [Act.put,sZa,sZb,sZc]
  clear t0 t1 tf;have u0:=HFL.out.1.c0;have u1:=HFL.out.1.c1;have uf:=HFL.out.1.f;refine cZ 11 ?_;intro K hK;go_simp;refine hK.out _ _ (HSE.out _ HS6.out) (fun hHeld=> ?_);clear hK K;try simp only [Act.put,sZa,sZb,sZc]
  clear u0 u1 uf;refine tZ 12 12 ?_;refine wpAnyH_done (by kernel_rfl) ?_ _;clear hHeld HS5 HS6 HFL HSE;obtain⟨_,w5,hw5,f0,f1,f2,f3,f4,f5,f6⟩:=HT4.out.fill (.slice a5 X.l.length c5) (.slice x5 X.n d5) (.slice a6 Y.l.length c6) (.slice x6 Y.n d6);have HX5:Hid (SNc w5 (w2.heap.size+2) a5 x5 X):=hid (by rw [<- hw5];exact snc4 (r1:=w2.heap.size) (r2:=w2.heap.size+1) HX4.out (Nat.le_refl _) (by omega) (by omega) _ _ _ _);have HY5:Hid (SNc w5 (w2.heap.size+2) a6 x6 Y):=hid (by rw [<- hw5];exact snc4 (r1:=w2.heap.size) (r2:=w2.heap.size+1) HY4.out (Nat.le_refl _) (by omega) (by omega) _ _ _ _);have HF5:=hid f5;have HF6:=hid f6;by_cases hC:C=0
  ·subst hC;have HE:=hid (HS1.out rfl);clear HS1 HS2;have HTB:=hid (twoB f1 f2 (show w.heap.size+1≠w.heap.size+1+1 by omega) (.slice a5 X.l.length c5) (.slice x5 X.n d5) (.slice a6 Y.l.length c6) (.slice x6 Y.n d6));have o0:=f1.c0;have o1:=f1.c1;have of:=f1.f;have i0:=f3.c0;have i1:=f3.c1;have i2:=f4.c0;have i3:=f4.c1;have HQT:=hid HTB.out.1;have hn0:¬w.heap.size=w2.heap.size:=by have:=HZ2.out;omega
   have hn1:¬w.heap.size+1=w2.heap.size:=by have:=HZ2.out;omega
   have hn2:¬w.heap.size+1+1=w2.heap.size:=by have:=HZ2.out;omega
   clear f0 f1 f2 f3 f4 f5 f6;go_wp2_with fail;try rw [hw5]
   clear hw5;have q0:=HQT.out.c0;have q1:=HQT.out.c1;have qf:=HQT.out.f;go_region;try go_wp2_with fail
   all_goals
    obtain⟨X1,X2⟩:=HTB.out.2
    refine bodyPost_ret (v:=.tuple #[.agg #[.slice a5 X.l.length c5,.slice x5 X.n d5],.agg #[.slice a6 Y.l.length c6,.slice x6 Y.n d6]]) (by simp [results,Tryz.results52,go_sem,X1.c0,X1.c1,X2.c0,X2.c1]) rfl ?_
    rw [HE.out.1,HE.out.2]
    have z2:=HZ2.out
    have z5:=HBB.out
    have z6:=HLO.out.1
    obtain⟨E1,E2⟩:=act_end HF5.out HF6.out rfl z5 (.slice a5 X.l.length c5) (.slice x5 X.n d5) (.slice a6 Y.l.length c6) (.slice x6 Y.n d6)
    first
     | exact⟨a5,c5,x5,d5,a6,c6,x6,d6,rfl,(snc4 (r1:=w.heap.size+1) (r2:=w.heap.size+1+1) HX5.out (by omega) (by omega) (by omega) _ _ _ _).drew,(snc4 (r1:=w.heap.size+1) (r2:=w.heap.size+1+1) HY5.out (by omega) (by omega) (by omega) _ _ _ _).drew,E1.below (Below.refl _ _).drew,⟨E2.os,E2.tape,E2.output,E2.size,E2.block⟩⟩
     | exact⟨a5,c5,x5,d5,a6,c6,x6,⟨d6,rfl⟩,(snc4 (r1:=w.heap.size+1) (r2:=w.heap.size+1+1) HX5.out (by omega) (by omega) (by omega) _ _ _ _).drew,(snc4 (r1:=w.heap.size+1) (r2:=w.heap.size+1+1) HY5.out (by omega) (by omega) (by omega) _ _ _ _).drew,E1.below (Below.refl _ _).drew,⟨E2.os,E2.tape,E2.output,E2.size,E2.block⟩⟩
  ·have HTB:=hid (twoB f1 f2 (show w.heap.size+1≠w.heap.size+1+1 by omega) (.slice a S.l.length c) (.slice xa S.n d) (.slice none 0 0) (.slice none 0 0));have o0:=f1.c0;have o1:=f1.c1;have of:=f1.f;have i0:=f0.c0;have i1:=f0.c1;have q0:=HTB.out.1.c0;have q1:=HTB.out.1.c1;have qf:=HTB.out.1.f;clear f0 f1 f2 f3 f4 f5 f6;go_wp2_with fail;obtain⟨X1,X2⟩:=HTB.out.2;refine bodyPost_ret (v:=.tuple #[.agg #[.slice a S.l.length c,.slice xa S.n d],.agg #[.slice none 0 0,.slice none 0 0]]) (by simp [results,Tryz.results52,go_sem,X1.c0,X1.c1,X2.c0,X2.c1]) rfl ?_;rw [(HS2.out hC).1,(HS2.out hC).2];have z5:=HBB.out;obtain⟨E1,E2⟩:=act_end HF5.out HF6.out rfl z5 (.slice a S.l.length c) (.slice xa S.n d) (.slice none 0 0) (.slice none 0 0);first
    | exact⟨a,c,xa,d,none,0,none,0,rfl,HSS.out.gr E2 HLO.out.2,SNc.mt _ _ _ _,E1,E2⟩
    | exact⟨a,c,xa,d,none,0,none,⟨0,rfl⟩,HSS.out.gr E2 HLO.out.2,SNc.mt _ _ _ _,E1,E2⟩
theorem actJ (f:Nat ->Int)(n x:Nat)(S:Sx)(rep:Nat)(hS:Dr S)(hrep:rep<8):∃S1 S2 x',AcP f n x S rep S1 S2 x':=by
 obtain⟨k,hk⟩:∃k,rk f n x=k:=⟨_,rfl⟩;by_cases h1:k%8<4
 ·exact actW f n x S rep k hk h1 hS hrep
 ·by_cases h2:k%8=6
  ·exact actF f n x S rep k hk h2 hS hrep
  ·by_cases h3:k%8=7
   ·exact actR f n x S rep k hk h3 hS hrep
   ·exact actT f n x S rep k hk (by omega) hS hrep
noncomputable def acR (f:Nat ->Int)(n x:Nat)(S:Sx)(rep:Nat):Sx×Sx×Nat:=by
 classical exact if h:∃q:Sx×Sx×Nat,AcP f n x S rep q.1 q.2.1 q.2.2 then Classical.choose h else(Sx.mt,Sx.mt,0)
theorem acR_ok (f:Nat ->Int)(n x:Nat){S:Sx}{rep:Nat}(hS:Dr S)(hrep:rep<8):AcP f n x S rep (acR f n x S rep).1 (acR f n x S rep).2.1 (acR f n x S rep).2.2:=by
 have h:∃q:Sx×Sx×Nat,AcP f n x S rep q.1 q.2.1 q.2.2:=by
  obtain⟨S1,S2,x',h⟩:=actJ f n x S rep hS hrep;exact⟨(S1,S2,x'),h⟩
 unfold acR;rw [dif_pos h];exact Classical.choose_spec h
def upA (A:Nat ->Sx)(j:Nat)(S:Sx):Nat ->Sx:=fun i=>if i=j then S else A i
theorem upA_at (A:Nat ->Sx)(j:Nat)(S:Sx):upA A j S j=S:=by unfold upA;rw [if_pos rfl]
theorem upA_ne {A:Nat ->Sx}{i j:Nat}{S:Sx}(h:i≠j):upA A j S i=A i:=by unfold upA;rw [if_neg h]
noncomputable def jnT (A:Nat ->Sx)(t:Nat)(T D:Sx):Nat ->Sx:=if jnB T D=true then upA A t (jnS T D) else A
structure DSt where
 A:Nat ->Sx
 L:Sx
 x:Nat
structure DSt.Ok (s:DSt):Prop where
 a:∀j,Dr (s.A j)
 l:Dr s.L
noncomputable def dstep (f:Nat ->Int)(n:Nat)(s:DSt):DSt:=
 if rk f n s.x%8=7 then⟨jnT s.A (rk f n s.x%3) (s.A (rk f n s.x%3)) (s.A (rk f n s.x/8%3)),s.L,rx n s.x⟩
 else if rk f n s.x%8=6 then⟨jnT (upA s.A (rk f n s.x%3) (acR f n (rx n s.x) (s.A (rk f n s.x%3)) (rk f n s.x%3)).1) (rk f n s.x/8%3) (upA s.A (rk f n s.x%3) (acR f n (rx n s.x) (s.A (rk f n s.x%3)) (rk f n s.x%3)).1 (rk f n s.x/8%3)) (acR f n (rx n s.x) (s.A (rk f n s.x%3)) (rk f n s.x%3)).2.1,(acR f n (rx n s.x) (s.A (rk f n s.x%3)) (rk f n s.x%3)).2.1,(acR f n (rx n s.x) (s.A (rk f n s.x%3)) (rk f n s.x%3)).2.2⟩
 else⟨upA s.A (rk f n s.x%3) (acR f n (rx n s.x) (s.A (rk f n s.x%3)) (rk f n s.x%3)).1,(acR f n (rx n s.x) (s.A (rk f n s.x%3)) (rk f n s.x%3)).2.1,(acR f n (rx n s.x) (s.A (rk f n s.x%3)) (rk f n s.x%3)).2.2⟩
theorem upA_dr {A:Nat ->Sx}{j:Nat}{S:Sx}(h:∀i,Dr (A i))(hS:Dr S):∀i,Dr (upA A j S i):=fun i=>by
 by_cases e:i=j
 ·rw [e,upA_at];exact hS
 ·rw [upA_ne e];exact h i
theorem jnT_dr {A:Nat ->Sx}{t:Nat}{T D:Sx}(h:∀i,Dr (A i))(hT:Dr T)(hD:Dr D):∀i,Dr (jnT A t T D i):=fun i=>by
 unfold jnT;cases hb:jnB T D with
 | false=>rw [if_neg (by simp)];exact h i
 | true=>rw [if_pos rfl];exact upA_dr h (hT.jn hD (jnB_iff.1 hb).2.2) i
theorem dstep_ok {f:Nat ->Int}{n:Nat}{s:DSt}(h:s.Ok):(dstep f n s).Ok:=by
 have hr:rk f n s.x%3<8:=by omega
 have ha:=(acR_ok f n (rx n s.x) (h.a (rk f n s.x%3)) hr).1;unfold dstep;split
 ·exact⟨jnT_dr h.a (h.a _) (h.a _),h.l⟩
 ·split
  ·exact⟨jnT_dr (upA_dr h.a ha.1) (upA_dr h.a ha.1 _) ha.2,ha.2⟩
  ·exact⟨upA_dr h.a ha.1,ha.2⟩
noncomputable def dseq (f:Nat ->Int)(n:Nat)(s:DSt):Nat ->DSt
 | 0=>s
 | i+1=>dstep f n (dseq f n s i)
theorem dseq_ok {f:Nat ->Int}{n:Nat}{s:DSt}(h:s.Ok):∀i,(dseq f n s i).Ok
 | 0=>h
 | i+1=>dstep_ok (dseq_ok h i)
theorem dst0 (x:Nat):(⟨fun _=>Sx.mt,Sx.mt,x⟩:DSt).Ok:=⟨fun _=>Dr.mt,Dr.mt⟩
theorem first_no (P:Nat ->Prop)(N:Nat):¬P N ->∃m,m<=N/\ (∀j,j<m ->P j)/\¬P m:=by
 induction N using Nat.strongRecOn with
 | _ N ih=>
  intro h;by_cases h0:∃j,j<N/\¬P j
  ·obtain⟨j,h1,h2⟩:=h0;obtain⟨m,m1,m2,m3⟩:=ih j h1 h2;exact⟨m,by omega,m2,m3⟩
  ·exact⟨N,Nat.le_refl _,fun j hj=>Classical.byContradiction fun hn=>h0 ⟨j,hj,hn⟩,h⟩
def RowC (w:World)(ga lo m:Nat)(A:Nat ->Sx):Prop:=∀j,j<m ->∃a c x d,w.cell? ⟨ga,j*2,none⟩=some (.slice a (A j).l.length c)/\ w.cell? ⟨ga,j*2+1,none⟩=some (.slice x (A j).n d)/\ SNc w lo a x (A j)
theorem RowC.move {w w1:World}{ga lo m:Nat}{A:Nat ->Sx}(h:RowC w ga lo m A)(he:w1.heap[ga]? =w.heap[ga]?)(hs:w.heap.size<=w1.heap.size)(hq:∀q,lo<=q ->q<w.heap.size ->w1.heap[q]? =w.heap[q]?):RowC w1 ga lo m A:=fun j hj=>by
 obtain⟨a,c,x,d,c0,c1,s⟩:=h j hj;exact⟨a,c,x,d,(World.cell?_of_block (a:=⟨ga,_,none⟩) he).trans c0,(World.cell?_of_block (a:=⟨ga,_,none⟩) he).trans c1,s.move (Nat.le_refl _) hs hq⟩
theorem RowC.set {w:World}{ga lo m r:Nat}{A:Nat ->Sx}{a x:Option Addr}{c d:Nat}{S:Sx}(h:RowC w ga lo m A)(hg:ga<lo)(hr:r<m)(s:SNc w lo a x S):RowC ((w.setCell ⟨ga,r*2,none⟩ (.slice a S.l.length c)).setCell ⟨ga,r*2+1,none⟩ (.slice x S.n d)) ga lo m (upA A r S):=fun j hj=>by
 have mv:∀{a' x':Option Addr} {T:Sx},SNc w lo a' x' T ->SNc ((w.setCell ⟨ga,r*2,none⟩ (.slice a S.l.length c)).setCell ⟨ga,r*2+1,none⟩ (.slice x S.n d)) lo a' x' T:=fun h=>h.move (Nat.le_refl _) (by simp [World.setCell]) (fun q h1 h2=>by rw [Below.heap_setCell _ _ _ _ (by simp;omega),Below.heap_setCell _ _ _ _ (by simp;omega)]);obtain⟨ra,rc,rx,rd,e0,e1,_⟩:=h r hr;by_cases e:j=r
 ·subst e;rw [upA_at];exact⟨a,c,x,d,(World.cell?_setCell_other _ _ _ _ (by simp)).trans (World.cell?_setCell_same _ _ _ e0),World.cell?_setCell_same _ _ _ ((World.cell?_setCell_other _ _ _ _ (by simp)).trans e1),mv s⟩
 ·rw [upA_ne e];obtain⟨a',c',x',d',c0,c1,s'⟩:=h j hj;exact⟨a',c',x',d',(World.cell?_setCell_other _ _ _ _ (by simp<;>omega)).trans ((World.cell?_setCell_other _ _ _ _ (by simp<;>omega)).trans c0),(World.cell?_setCell_other _ _ _ _ (by simp<;>omega)).trans ((World.cell?_setCell_other _ _ _ _ (by simp<;>omega)).trans c1),mv s'⟩
structure DrS (w wr:World)(B rb:Nat)(f:Nat ->Int)(n x ga:Nat)(A:Nat ->Sx)(L:Sx):Prop where
 row:RowC wr ga (ga+2) 3 A
 fz:∀i,wr.frozen? ⟨ga,i,none⟩=false
 ls:∃a c x d,Bx2 wr (ga+1) (.slice a L.l.length c) (.slice x L.n d)/\ SNc wr (ga+2) a x L
 r1:Bx2 wr w.heap.size (.slice none 0 0) (.slice none 0 0)
 r2:Bx2 wr (w.heap.size+1) (.slice none 0 0) (.slice none 0 0)
 rd:RdJ wr B rb f n x
 gr:w.grownBy wr (some rb)
 z1:w.heap.size+1<ga
 z3:ga+2<=wr.heap.size
 z4:rb<w.heap.size
 z5:B<=w.heap.size
section
variable {w wr w1 : World} {B rb n x ga : Nat} {f : Nat -> Int} {A : Nat -> Sx} {L : Sx}
theorem DrS.gro (h:DrS w wr B rb f n x ga A L){x':Nat}(hg:wr.grownBy w1 (some rb))(hr:RdJ w1 B rb f n x'):DrS w w1 B rb f n x' ga A L:=by
 have z1:=h.z1;have z3:=h.z3;have z4:=h.z4;have ne:∀b,w.heap.size<=b ->some b≠some rb:=fun b hb e=>by injection e with e;omega
 have bk:∀b,w.heap.size<=b ->b<wr.heap.size ->w1.heap[b]? =wr.heap[b]? :=fun b h1 h2=>hg.block b h2 (ne b h1);have ng:∀b,w.heap.size<=b ->∀k,some rb=some k ->k≠b:=fun b hb k e e2=>ne b hb (by rw [e,e2]);obtain⟨a,c,xx,d,b2,s2⟩:=h.ls;exact⟨h.row.move (bk ga (by omega) (by omega)) hg.size (fun q q1 q2=>bk q (by omega) q2),fun i=>(World.frozen?_of_block (a:=⟨ga,i,none⟩) (bk ga (by omega) (by omega))).trans (h.fz i),⟨a,c,xx,d,b2.gr hg (ng _ (by omega)),s2.gr hg (by omega)⟩,h.r1.gr hg (ng _ (Nat.le_refl _)),h.r2.gr hg (ng _ (by omega)),hr,grown_transJ h.gr hg,h.z1,Nat.le_trans z3 hg.size,h.z4,h.z5⟩
theorem DrS.below (h:DrS w wr B rb f n x ga A L)(hb:Below wr.heap.size wr w1):DrS w w1 B rb f n x ga A L:=
 h.gro ⟨hb.os,hb.tape,hb.output,hb.size,fun k hk _=>hb.block k hk⟩ (h.rd.below (hb.mono (by have:=h.z3;have:=h.z1;have:=h.z5;omega)))
theorem DrS.at (h:DrS w wr B rb f n x ga A L){r:Nat}(hr:r<3):∃a c x d,wr.cell? ⟨ga,r*2,none⟩=some (.slice a (A r).l.length c)/\ wr.cell? ⟨ga,r*2+1,none⟩=some (.slice x (A r).n d)/\ SNc wr (ga+2) a x (A r):=h.row r hr
theorem DrS.setA (h:DrS w wr B rb f n x ga A L){r:Nat}(hr:r<3){a xx:Option Addr}{S:Sx}(s:SNc wr (ga+2) a xx S)(c d:Nat):DrS w ((wr.setCell ⟨ga,r*2,none⟩ (.slice a S.l.length c)).setCell ⟨ga,r*2+1,none⟩ (.slice xx S.n d)) B rb f n x ga (upA A r S) L:=by
 have z1:=h.z1;have z3:=h.z3;have z4:=h.z4;obtain⟨la,lc,lx,ld,b2,s2⟩:=h.ls;have e:∀q,ga≠q ->(((wr.setCell ⟨ga,r*2,none⟩ (.slice a S.l.length c)).setCell ⟨ga,r*2+1,none⟩ (.slice xx S.n d))).heap[q]? =wr.heap[q]? :=fun q hq=>by rw [Below.heap_setCell _ _ _ _ (by simpa using Ne.symm hq),Below.heap_setCell _ _ _ _ (by simpa using Ne.symm hq)]
 have hz:wr.heap.size=(((wr.setCell ⟨ga,r*2,none⟩ (.slice a S.l.length c)).setCell ⟨ga,r*2+1,none⟩ (.slice xx S.n d))).heap.size:=by simp [World.setCell]
 have hbl:Below ga wr ((wr.setCell ⟨ga,r*2,none⟩ (.slice a S.l.length c)).setCell ⟨ga,r*2+1,none⟩ (.slice xx S.n d)):=((Below.refl _ _).setCell (p:=⟨ga,r*2,none⟩) (Nat.le_refl _) _).setCell (p:=⟨ga,r*2+1,none⟩) (Nat.le_refl _) _;exact⟨h.row.set (by omega) hr s,fun i=>by rw [World.frozen?_setCell,World.frozen?_setCell];exact h.fz i,⟨la,lc,lx,ld,(b2.setAt _ _ (by simp)).setAt _ _ (by simp),s2.move (Nat.le_refl _) (Nat.le_of_eq hz) (fun q q1 q2=>e q (by omega))⟩,(h.r1.setAt _ _ (by simp;omega)).setAt _ _ (by simp;omega),(h.r2.setAt _ _ (by simp;omega)).setAt _ _ (by simp;omega),h.rd.below (hbl.mono (by have:=h.z5;omega)),grownBelow h.gr hbl (by omega),h.z1,by rw [<- hz];exact z3,h.z4,h.z5⟩
theorem DrS.setL (h:DrS w wr B rb f n x ga A L){a xx:Option Addr}{S:Sx}(s:SNc wr (ga+2) a xx S)(c d:Nat):DrS w ((wr.setCell ⟨ga+1,0,none⟩ (.slice a S.l.length c)).setCell ⟨ga+1,1,none⟩ (.slice xx S.n d)) B rb f n x ga A S:=by
 have z1:=h.z1;have z3:=h.z3;have z4:=h.z4;obtain⟨la,lc,lx,ld,b2,s2⟩:=h.ls;have e:∀q,ga+1≠q ->(((wr.setCell ⟨ga+1,0,none⟩ (.slice a S.l.length c)).setCell ⟨ga+1,1,none⟩ (.slice xx S.n d))).heap[q]? =wr.heap[q]? :=fun q hq=>by rw [Below.heap_setCell _ _ _ _ (by simpa using Ne.symm hq),Below.heap_setCell _ _ _ _ (by simpa using Ne.symm hq)]
 have hz:wr.heap.size=(((wr.setCell ⟨ga+1,0,none⟩ (.slice a S.l.length c)).setCell ⟨ga+1,1,none⟩ (.slice xx S.n d))).heap.size:=by simp [World.setCell]
 have hbl:Below ga wr ((wr.setCell ⟨ga+1,0,none⟩ (.slice a S.l.length c)).setCell ⟨ga+1,1,none⟩ (.slice xx S.n d)):=((Below.refl _ _).setCell (p:=⟨ga+1,0,none⟩) (by simp) _).setCell (p:=⟨ga+1,1,none⟩) (by simp) _;exact⟨h.row.move (e ga (by omega)) (Nat.le_of_eq hz) (fun q q1 q2=>e q (by omega)),fun i=>by rw [World.frozen?_setCell,World.frozen?_setCell];exact h.fz i,⟨a,c,xx,d,b2.set _ _,s.move (Nat.le_refl _) (Nat.le_of_eq hz) (fun q q1 q2=>e q (by omega))⟩,(h.r1.setAt _ _ (by simp;omega)).setAt _ _ (by simp;omega),(h.r2.setAt _ _ (by simp;omega)).setAt _ _ (by simp;omega),h.rd.below (hbl.mono (by have:=h.z5;omega)),grownBelow h.gr hbl (by omega),h.z1,by rw [<- hz];exact z3,h.z4,h.z5⟩
theorem DrS.box {U cur w5:World}{lo b:Nat}{ja jx:Option Addr}{J:Sx}(h:DrS w U B rb f n x ga A L)(hb:Below U.heap.size U cur)(hx:Bx2 cur b (.slice none 0 0) (.slice none 0 0))(hU:U.heap.size<=b)(sj:SNc w5 lo ja jx J)(hl:U.heap.size<=lo)(hs:w5.heap.size<=cur.heap.size)(hq:∀q,lo<=q ->q<w5.heap.size ->q≠b/\ cur.heap[q]? =w5.heap[q]?)(jc jd:Nat):
  Below U.heap.size U ((cur.setCell ⟨b,0,none⟩ (.slice ja J.l.length jc)).setCell ⟨b,1,none⟩ (.slice jx J.n jd))/\ DrS w ((cur.setCell ⟨b,0,none⟩ (.slice ja J.l.length jc)).setCell ⟨b,1,none⟩ (.slice jx J.n jd)) B rb f n x ga A L/\ Bx2 ((cur.setCell ⟨b,0,none⟩ (.slice ja J.l.length jc)).setCell ⟨b,1,none⟩ (.slice jx J.n jd)) b (.slice ja J.l.length jc) (.slice jx J.n jd)/\ SNc ((cur.setCell ⟨b,0,none⟩ (.slice ja J.l.length jc)).setCell ⟨b,1,none⟩ (.slice jx J.n jd)) (ga+2) ja jx J:=by
 have z3:=h.z3;have hB:Below U.heap.size U ((cur.setCell ⟨b,0,none⟩ (.slice ja J.l.length jc)).setCell ⟨b,1,none⟩ (.slice jx J.n jd)):=(hb.setCell (p:=⟨b,0,none⟩) hU _).setCell (p:=⟨b,1,none⟩) hU _;exact⟨hB,h.below hB,hx.set _ _,sj.move (by omega) (by simpa [World.setCell] using hs) (fun q h1 h2=>by
  obtain⟨q1,q2⟩:=hq q h1 h2;rw [Below.heap_setCell _ _ _ _ (by simpa using q1),Below.heap_setCell _ _ _ _ (by simpa using q1)];exact q2)⟩
end
end Go.Proofs.YtpfmeafmepgimaaGreat
