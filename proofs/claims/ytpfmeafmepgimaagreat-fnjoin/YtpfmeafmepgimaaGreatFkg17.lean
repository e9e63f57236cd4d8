import Derived.Test.YtpfmeafmepgimaaGreatFkg16
set_option linter.unusedVariables false
set_option linter.unusedSimpArgs false
set_option maxRecDepth 100000
set_option maxHeartbeats 40000000
namespace Go.Proofs.YtpfmeafmepgimaaGreat
open Go.ChangeShapes Go.WideShapes Go.ChangeAt Go.RowKit Go.Maps
def wayOf (p:List ByteArray)(k:Int):List Ky:=(List.range p.length).map fun i=>(gS p i,if i+1<p.length then 3 else k)
theorem wayOf_len (p:List ByteArray)(k:Int):(wayOf p k).length=p.length:=by simp [wayOf]
theorem wayOf_get {p:List ByteArray}{k:Int}{i:Nat}(h:i<p.length):(wayOf p k)[i]? =some (gS p i,if i+1<p.length then 3 else k):=by simp [wayOf,h]
theorem wayOf_take {p:List ByteArray}{k:Int}{i:Nat}(h:i<p.length):(wayOf p k).take (i+1)=(wayOf p k).take i++[(gS p i,if i+1<p.length then 3 else k)]:=by
 have h':i<(wayOf p k).length:=by rw [wayOf_len];exact h
 rw [List.take_add_one,wayOf_get h];rfl
theorem gS_ext {p q:List ByteArray}(hl:p.length=q.length)(h:∀i,i<p.length ->gS p i=gS q i):p=q:=by
 refine List.ext_getElem hl fun i h1 h2=> ?_;have:=h i h1;simpa [gS,List.getD,h1,h2] using this
theorem wayOf_inj {p q:List ByteArray}{k j:Int}(h:wayOf p k=wayOf q j)(h0:0<p.length):p=q/\ k=j:=by
 have hl:p.length=q.length:=by have:=congrArg List.length h;simpa [wayOf_len] using this
 have each:∀i,i<p.length ->(gS p i,if i+1<p.length then 3 else k)=(gS q i,if i+1<q.length then(3:Int) else j):=fun i hi=>by
  have:=wayOf_get (k:=k) hi;rw [h,wayOf_get (by omega)] at this;injection this with this;exact this.symm
 refine⟨gS_ext hl fun i hi=>(Prod.mk.inj (each i hi)).1,?_⟩;have:=(Prod.mk.inj (each (p.length - 1) (by omega))).2;rw [if_neg (by omega),if_neg (by omega)] at this;exact this
theorem take_pre {α:Type}{l:List α}{k:Nat}{x:α}{q:List α}(h:l.take (k+1)=l.take k++[x]):q <+:l.take (k+1)↔q <+:l.take k \/q=l.take k++[x]:=by
 rw [h];constructor
 ·intro hq;rcases List.prefix_concat_iff.1 hq with e|e
  ·exact .inr e
  ·exact .inl e
 ·rintro(e|e)
  ·exact e.trans (List.prefix_append _ _)
  ·rw [e];exact List.prefix_refl _
structure Tre (w:World)(B:Nat)(N:List Ky ->Option (Nat×Nat))(M:List Ky ->Dt ->Option ByteArray)(c:Nat):Prop where
 kids:∀p x,N p=some x ->MapF w 102 keyV nodV x.1 c (fun y=>N (p++[y]))
 marks:∀p x,N p=some x ->MapF w 63 dtV mrkV x.2 c (M p)
 apart:∀p q x y,N p=some x ->N q=some y ->x.1≠y.2/\ (x.1=y.1 ->p=q)/\ (x.2=y.2 ->p=q)
 lo:∀p x,N p=some x ->B<=x.1/\ B<=x.2
 none':∀p,N p=none ->M p=fun _=>none
 up:∀p y,N p=none ->N (p++[y])=none
section
variable {w w' : World} {B c : Nat} {N : List Ky -> Option (Nat × Nat)} {M : List Ky -> Dt -> Option ByteArray}
theorem Tre.same (h:Tre w B N M c)(hs:∀p x,N p=some x ->w'.heap[x.1]? =w.heap[x.1]? /\ w'.heap[x.2]? =w.heap[x.2]?):Tre w' B N M c:=
 ⟨fun p x hx=>(h.kids p x hx).same (hs p x hx).1,fun p x hx=>(h.marks p x hx).same (hs p x hx).2,h.apart,h.lo,h.none',h.up⟩
theorem Tre.lt (h:Tre w B N M c){p:List Ky}{x:Nat×Nat}(hx:N p=some x):x.1<w.heap.size/\ x.2<w.heap.size:=⟨(h.kids p x hx).lt,(h.marks p x hx).lt⟩
theorem Tre.below (h:Tre w B N M c)(hb:Below w.heap.size w w'):Tre w' B N M c:=h.same fun p x hx=>⟨hb.block _ (h.lt hx).1,hb.block _ (h.lt hx).2⟩
theorem Tre.mono {c':Nat}(h:Tre w B N M c)(hc:c<=c'):Tre w B N M c':=⟨fun p x hx=>(h.kids p x hx).mono hc,fun p x hx=>(h.marks p x hx).mono hc,h.apart,h.lo,h.none',h.up⟩
theorem cell_obj {w:World}{q:Addr}{v:Value}(h:w.cell? q=some v):∀es clock,w.heap[q.block]? ≠some (.map es clock):=by
 intro es clock e;simp [World.cell?,e] at h
theorem Tre.set (h:Tre w B N M c){q:Addr}{v:Value}(u:Value)(hc:w.cell? q=some v):Tre (w.setCell q u) B N M c:=by
 refine h.same fun p x hx=>⟨Below.heap_setCell _ _ _ _ fun e=> ?_,Below.heap_setCell _ _ _ _ fun e=> ?_⟩
 ·obtain⟨es,cl,ho⟩:=(h.kids p x hx).obj;rw [e] at ho;exact cell_obj hc _ _ ho
 ·obtain⟨es,cl,ho⟩:=(h.marks p x hx).obj;rw [e] at ho;exact cell_obj hc _ _ ho
structure Gt (B:Nat)(w w':World):Prop where
 os:w'.os=w.os
 tape:w'.tape=w.tape
 output:w'.output=w.output
 size:w.heap.size<=w'.heap.size
 block:∀g,g<w.heap.size ->(g<B \/∀es cl,w.heap[g]? ≠some (.map es cl)) ->w'.heap[g]? =w.heap[g]?
theorem Gt.refl (B:Nat)(w:World):Gt B w w:=⟨rfl,rfl,rfl,Nat.le_refl _,fun _ _ _=>rfl⟩
theorem Gt.trans {a b d:World}(h:Gt B a b)(k:Gt B b d):Gt B a d:=
 ⟨k.os.trans h.os,k.tape.trans h.tape,k.output.trans h.output,Nat.le_trans h.size k.size,fun g hg ho=>by
  have e:=h.block g hg ho;exact(k.block g (Nat.lt_of_lt_of_le hg h.size) (ho.imp id fun hn es cl=>by rw [e];exact hn es cl)).trans e⟩
theorem Gt.of_below (h:Below w.heap.size w w'):Gt B w w':=⟨h.os,h.tape,h.output,h.size,fun g hg _=>h.block g hg⟩
theorem Gt.below (h:Gt B w w')(hB:B<=w.heap.size):Below B w w':=⟨h.os,h.tape,h.output,h.size,fun g hg=>h.block g (by omega) (.inl hg)⟩
theorem Gt.cell (h:Gt B w w'){q:Addr}{v:Value}(hc:w.cell? q=some v):w'.cell? q=some v:=
 (World.cell?_of_block (h.block q.block (block_lt_of_cell hc) (.inr (cell_obj hc)))).trans hc
theorem Gt.frozen (h:Gt B w w'){q r:Addr}{v:Value}(hc:w.cell? r=some v)(hr:r.block=q.block):w'.frozen? q=w.frozen? q:=
 World.frozen?_of_block (by rw [<- hr];exact h.block r.block (block_lt_of_cell hc) (.inr (cell_obj hc)))
theorem Gt.grown {b:Nat}(hg:w.grownBy w' (some b))(hB:B<=b)(ho:∃es cl,w.heap[b]? =some (.map es cl)):Gt B w w':=
 ⟨hg.os,hg.tape,hg.output,hg.size,fun g h1 h2=>hg.block g h1 fun e=>by
  injection e with e;subst e;obtain⟨es,cl,ho⟩:=ho;rcases h2 with h2|h2
  ·omega
  ·exact h2 _ _ ho⟩
theorem Tre.add {p:List Ky}{y:Ky}{x:Nat×Nat}{s s':Nat}(h:Tre w B N M c)(hN:N p=some x)(hn:N (p++[y])=none)(hk:MapF w 102 (α:=Ky) keyV nodV s 0 (fun _=>none))(hm:MapF w 63 (α:=Dt) dtV mrkV s' 0 (fun _=>none))(hss:s≠s')
  (hs:∀p x,N p=some x ->x.1<s/\ x.2<s/\ x.1<s'/\ x.2<s') (hB:B<=s/\ B<=s')
  (hu:MapF w' 102 keyV nodV x.1 (c+1) (updF (fun z=>N (p++[z])) y (some (s,s')))) (hg:w.grownBy w' (some x.1)):Tre w' B (updF N (p++[y]) (some (s,s'))) M (c+1):=by
 have hne:∀q z,q≠p ->q++[z]≠p++[y]:=fun q z hq e=>hq (List.append_inj' e rfl).1;have blk:∀g,g<w.heap.size ->g≠x.1 ->w'.heap[g]? =w.heap[g]? :=fun g h1 h2=>hg.block g h1 (fun e=>h2 (by injection e));have hsx:=hs p x hN;refine⟨fun q z hz=> ?_,fun q z hz=> ?_,fun q r u v hu' hv=> ?_,fun q z hz=> ?_,fun q hq=> ?_,fun q z hq=> ?_⟩
 ·by_cases e:q=p++[y]
  ·subst e;rw [updF_same] at hz;injection hz with hz;subst hz;refine((hk.same (blk _ hk.lt (by simp;omega))).mono (Nat.zero_le _)).ext fun z=> ?_;rw [updF_other _ _ (by intro e;have:=congrArg List.length e;simp at this)];exact(h.up _ z hn).symm
  ·rw [updF_other _ _ e] at hz;by_cases e2:q=p
   ·subst e2;rw [hN] at hz;injection hz with hz;subst hz;refine hu.ext fun z=> ?_;by_cases e3:z=y
    ·subst e3;rw [updF_same,updF_same]
    ·rw [updF_other _ _ e3,updF_other _ _ (fun e=>e3 (by simpa using e))]
   ·have hk':=h.kids q z hz;refine((hk'.same (blk _ hk'.lt fun e3=>e2 ((h.apart q p z x hz hN).2.1 e3))).mono (Nat.le_succ _)).ext fun z=> ?_;rw [updF_other _ _ (hne q z e2)]
 ·by_cases e:q=p++[y]
  ·subst e;rw [updF_same] at hz;injection hz with hz;subst hz;refine((hm.same (blk _ hm.lt (by simp;omega))).mono (Nat.zero_le _)).ext fun z=> ?_;rw [h.none' _ hn]
  ·rw [updF_other _ _ e] at hz;have hm':=h.marks q z hz;exact(hm'.same (blk _ hm'.lt fun e3=>(h.apart p q x z hN hz).1 e3.symm)).mono (Nat.le_succ _)
 ·by_cases e:q=p++[y]
  ·by_cases e':r=p++[y]
   ·subst e;subst e';rw [updF_same] at hu' hv;injection hu' with hu';injection hv with hv;subst hu';subst hv;exact⟨hss,fun _=>rfl,fun _=>rfl⟩
   ·subst e;rw [updF_same] at hu';rw [updF_other _ _ e'] at hv;injection hu' with hu';subst hu';have:=hs r v hv;exact⟨by simp;omega,fun e=>by simp at e;omega,fun e=>by simp at e;omega⟩
  ·rw [updF_other _ _ e] at hu';by_cases e':r=p++[y]
   ·subst e';rw [updF_same] at hv;injection hv with hv;subst hv;have:=hs q u hu';exact⟨by simp;omega,fun e=>by simp at e;omega,fun e=>by simp at e;omega⟩
   ·rw [updF_other _ _ e'] at hv;exact h.apart q r u v hu' hv
 ·by_cases e:q=p++[y]
  ·subst e;rw [updF_same] at hz;injection hz with hz;subst hz;exact hB
  ·rw [updF_other _ _ e] at hz;exact h.lo q z hz
 ·by_cases e:q=p++[y]
  ·subst e;rw [updF_same] at hq;cases hq
  ·rw [updF_other _ _ e] at hq;exact h.none' q hq
 ·by_cases e:q=p++[y]
  ·subst e;rw [updF_same] at hq;cases hq
  ·rw [updF_other _ _ e] at hq;have e2:q≠p:=fun e2=>by subst e2;rw [hN] at hq;cases hq
   rw [updF_other _ _ (hne q z e2)];exact h.up q z hq
noncomputable def updM (M:List Ky ->Dt ->Option ByteArray)(p:List Ky)(d:Dt)(s:ByteArray)(q:List Ky):Dt ->Option ByteArray:=if yes (q=p)=true then updF (M p) d (some s) else M q
theorem updM_same (M:List Ky ->Dt ->Option ByteArray)(p:List Ky)(d:Dt)(s:ByteArray):updM M p d s p=updF (M p) d (some s):=by unfold updM;rw [if_pos (yes_t rfl)]
theorem updM_other (M:List Ky ->Dt ->Option ByteArray){p q:List Ky}(d:Dt)(s:ByteArray)(h:q≠p):updM M p d s q=M q:=by unfold updM;rw [if_neg (by rw [yes_f h];simp)]
theorem Tre.mark {p:List Ky}{x:Nat×Nat}{d:Dt}{s:ByteArray}(h:Tre w B N M c)(hN:N p=some x)
  (hu:MapF w' 63 dtV mrkV x.2 (c+1) (updF (M p) d (some s))) (hg:w.grownBy w' (some x.2)):Tre w' B N (updM M p d s) (c+1):=by
 have blk:∀g,g<w.heap.size ->g≠x.2 ->w'.heap[g]? =w.heap[g]? :=fun g h1 h2=>hg.block g h1 (fun e=>h2 (by injection e));refine⟨fun q z hz=> ?_,fun q z hz=> ?_,h.apart,h.lo,fun q hq=> ?_,h.up⟩
 ·exact((h.kids q z hz).same (blk _ (h.lt hz).1 (h.apart q p z x hz hN).1)).mono (Nat.le_succ _)
 ·by_cases e:q=p
  ·subst e;rw [hN] at hz;injection hz with hz;subst hz;rw [updM_same];exact hu
  ·rw [updM_other _ _ _ e];exact((h.marks q z hz).same (blk _ (h.lt hz).2 fun e2=>e ((h.apart q p z x hz hN).2.2 e2))).mono (Nat.le_succ _)
 ·have e:q≠p:=fun e=>by subst e;rw [hN] at hq;cases hq
  rw [updM_other _ _ _ e];exact h.none' q hq
end
theorem SSeg.gt {w w1:World}{B:Nat}{a:Option Addr}{p:List ByteArray}(h:SSeg w a p)(hg:Gt B w w1):SSeg w1 a p:=by
 refine h.imp id ?_;rintro⟨b,off,e,hlt,hc⟩;exact⟨b,off,e,Nat.lt_of_lt_of_le hlt hg.size,fun i hi=>hg.cell (hc i hi)⟩
theorem LSeg.gt {w w1:World}{B:Nat}{a:Option Addr}{l:List Lf}(h:LSeg w a l)(hg:Gt B w w1):LSeg w1 a l:=by
 refine h.imp id ?_;rintro⟨b,off,e,hlt,hc⟩;refine⟨b,off,e,Nat.lt_of_lt_of_le hlt hg.size,fun i hi=> ?_⟩;obtain⟨pa,pc,c0,s,c1,c2,c3,c4⟩:=hc i hi;exact⟨pa,pc,hg.cell c0,s.gt hg,hg.cell c1,hg.cell c2,hg.cell c3,hg.cell c4⟩
def onWay (p:List ByteArray)(k:Int)(i:Nat):Ky:=(gS p i,if i+1<p.length then 3 else k)
theorem keyOnWay (p:List ByteArray)(a:Option Addr)(c:Nat)(k:Int)(i:Nat)(w:World)(hp:p.length<=1048576)(hi:i<p.length)(h:SSeg w a p):
  Calls Tryz.prog 63 #[.slice a p.length c,.int .i64 i,.int .i64 k] w fun e w'=>e=.returned (keyV (onWay p k i))/\ Below w.heap.size w w':=by
 rcases h with h|⟨b,off,rfl,hb,hc⟩
 ·omega
 have x0:=hc i hi;have i0:(0:Int)<=(i:Int):=Int.natCast_nonneg _;have i1:(i:Int)<(p.length:Int):=by omega
 obtain⟨s,hs⟩:∃s,gS p i=s:=⟨_,rfl⟩;rw [hs] at x0;have HK:Hid (onWay p k i=(s,if i+1<p.length then 3 else k)):=hid (by unfold onWay;rw [hs]);obtain⟨m,hm⟩:∃m:Nat,p.length=m+1:=⟨p.length - 1,by omega⟩;have hwr:IntKind.i64.wrap ((p.length:Int) - 1)=(m:Int):=by rw [IntKind.wrap_i64];omega
 clear hs hc;by_cases hl:i+1<p.length
 ·have d0:decide (i<m)=true:=by simp;omega
  have HK2:=hid (show onWay p k i=(s,3) by rw [HK.out,if_pos hl]);clear HK hl hm;go_enter Tryz.func63,Tryz.ntmps63;go_wp2_with fail;refine bodyPost_ret (v:=.agg #[.string s,.int .i64 3]) (by simp [results,Tryz.results63,go_sem]) rfl ⟨by rw [HK2.out];rfl,?_⟩;exact(Below.refl _ _).alloc (Nat.le_refl _) _
 ·have d0:decide (i<m)=false:=by simp;omega
  have HK2:=hid (show onWay p k i=(s,k) by rw [HK.out,if_neg hl]);clear HK hl hm;go_enter Tryz.func63,Tryz.ntmps63;go_wp2_with fail;refine bodyPost_ret (v:=.agg #[.string s,.int .i64 k]) (by simp [results,Tryz.results63,go_sem]) rfl ⟨by rw [HK2.out];rfl,?_⟩;exact(Below.refl _ _).alloc (Nat.le_refl _) _
theorem newNode (w:World):
  Calls Tryz.prog 37 #[] w fun e w'=>∃s s',e=.returned (.agg #[.map (some s),.map (some s')])/\ s≠s'/\ w.heap.size<=s/\ w.heap.size<=s'/\ MapF w' 102 (α:=Ky) keyV nodV s 0 (fun _=>none)/\ MapF w' 63 (α:=Dt) dtV mrkV s' 0 (fun _=>none)/\ Below w.heap.size w w':=by
 have hmm:=@run_makeMap Tryz.prog;have H1:=hid ((MapF.made (α:=Ky) (w.alloc (.cells #[.map (some (w.heap.size+1)),.map (some (w.heap.size+1+1))] 45)) 102 keyV nodV).same (w':=(((w.alloc (.cells #[.map (some (w.heap.size+1)),.map (some (w.heap.size+1+1))] 45)).alloc (.map #[] 0)).alloc (.map #[] 0))) (Below.heap_alloc _ _ _ (by simp)));have H2:=hid (MapF.made (α:=Dt) ((w.alloc (.cells #[.map (some (w.heap.size+1)),.map (some (w.heap.size+1+1))] 45)).alloc (.map #[] 0)) 63 dtV mrkV);go_enter Tryz.func37,Tryz.ntmps37;go_wp2_with fail;refine bodyPost_ret (v:=.agg #[.map (some (w.heap.size+1)),.map (some (w.heap.size+1+1))]) (by simp [results,Tryz.results37,go_sem]) rfl ⟨_,_,rfl,by omega,by omega,by omega,by simpa using H1.out,by simpa using H2.out,?_⟩;exact(((Below.refl _ _).alloc (Nat.le_refl _) _).alloc (by simp) _).alloc (by simp;omega) _
structure Bx2 (w:World)(b:Nat)(v0 v1:Value):Prop where
 c0:w.cell? ⟨b,0,none⟩=some v0
 c1:w.cell? ⟨b,1,none⟩=some v1
 f:∀i,w.frozen? ⟨b,i,none⟩=false
 lt:b<w.heap.size
theorem Bx2.below {w w':World}{B b:Nat}{v0 v1:Value}(h:Bx2 w b v0 v1)(hb:Below B w w')(hB:b<B):Bx2 w' b v0 v1:=
 ⟨(hb.cell (p:=⟨b,0,none⟩) hB).trans h.c0,(hb.cell (p:=⟨b,1,none⟩) hB).trans h.c1,fun i=>(hb.frozen (p:=⟨b,i,none⟩) hB).trans (h.f i),Nat.lt_of_lt_of_le h.lt hb.size⟩
theorem Bx2.gt {w w':World}{B b:Nat}{v0 v1:Value}(h:Bx2 w b v0 v1)(hg:Gt B w w'):Bx2 w' b v0 v1:=
 ⟨hg.cell h.c0,hg.cell h.c1,fun i=>(hg.frozen (q:=⟨b,i,none⟩) h.c0 rfl).trans (h.f i),Nat.lt_of_lt_of_le h.lt hg.size⟩
theorem Bx2.setAt {w:World}{b:Nat}{v0 v1:Value}(h:Bx2 w b v0 v1)(q:Addr)(u:Value)(hq:q.block≠b):Bx2 (w.setCell q u) b v0 v1:=
 ⟨by rw [World.cell?_setCell_far _ _ _ _ hq];exact h.c0,by rw [World.cell?_setCell_far _ _ _ _ hq];exact h.c1,fun i=>by rw [World.frozen?_setCell];exact h.f i,by simp [World.setCell];exact h.lt⟩
theorem Bx2.set0 {w:World}{b:Nat}{v0 v1:Value}(h:Bx2 w b v0 v1)(u:Value):Bx2 (w.setCell ⟨b,0,none⟩ u) b u v1:=
 ⟨World.cell?_setCell_same _ _ _ h.c0,by simp [World.cell?_setCell_other,h.c1],fun i=>by rw [World.frozen?_setCell];exact h.f i,by simp [World.setCell];exact h.lt⟩
theorem Bx2.set1 {w:World}{b:Nat}{v0 v1:Value}(h:Bx2 w b v0 v1)(u:Value):Bx2 (w.setCell ⟨b,1,none⟩ u) b v0 u:=
 ⟨by simp [World.cell?_setCell_other,h.c0],World.cell?_setCell_same _ _ _ h.c1,fun i=>by rw [World.frozen?_setCell];exact h.f i,by simp [World.setCell];exact h.lt⟩
theorem Bx2.set {w:World}{b:Nat}{v0 v1:Value}(h:Bx2 w b v0 v1)(u u':Value):Bx2 ((w.setCell ⟨b,0,none⟩ u).setCell ⟨b,1,none⟩ u') b u u':=(h.set0 u).set1 u'
theorem Bx2.made (w:World)(v0 v1:Value)(t:TypeId):Bx2 (w.alloc (.cells #[v0,v1] t)) w.heap.size v0 v1:=⟨by simp,by simp,fun i=>by simp,by simp⟩
theorem Bx2.allocs {w:World}{b:Nat}{v0 v1:Value}(h:Bx2 w b v0 v1)(o:Obj):Bx2 (w.alloc o) b v0 v1:=h.below ((Below.refl _ _).alloc (Nat.le_refl _) o) h.lt
structure Bx1 (w:World)(b:Nat)(v0:Value):Prop where
 c0:w.cell? ⟨b,0,none⟩=some v0
 f:∀i,w.frozen? ⟨b,i,none⟩=false
 lt:b<w.heap.size
theorem Bx1.below {w w':World}{B b:Nat}{v0:Value}(h:Bx1 w b v0)(hb:Below B w w')(hB:b<B):Bx1 w' b v0:=
 ⟨(hb.cell (p:=⟨b,0,none⟩) hB).trans h.c0,fun i=>(hb.frozen (p:=⟨b,i,none⟩) hB).trans (h.f i),Nat.lt_of_lt_of_le h.lt hb.size⟩
theorem Bx1.gt {w w':World}{B b:Nat}{v0:Value}(h:Bx1 w b v0)(hg:Gt B w w'):Bx1 w' b v0:=
 ⟨hg.cell h.c0,fun i=>(hg.frozen (q:=⟨b,i,none⟩) h.c0 rfl).trans (h.f i),Nat.lt_of_lt_of_le h.lt hg.size⟩
theorem Bx1.setAt {w:World}{b:Nat}{v0:Value}(h:Bx1 w b v0)(q:Addr)(u:Value)(hq:q.block≠b):Bx1 (w.setCell q u) b v0:=
 ⟨by rw [World.cell?_setCell_far _ _ _ _ hq];exact h.c0,fun i=>by rw [World.frozen?_setCell];exact h.f i,by simp [World.setCell];exact h.lt⟩
theorem Bx1.made (w:World)(v0:Value)(t:TypeId):Bx1 (w.alloc (.cells #[v0] t)) w.heap.size v0:=⟨by simp,fun i=>by simp,by simp⟩
theorem Gt.set {B:Nat}{w wr:World}(h:Gt B w wr)(q:Addr)(u:Value)(hq:w.heap.size<=q.block):Gt B w (wr.setCell q u):=
 ⟨h.os,h.tape,h.output,by simpa [World.setCell] using h.size,fun g hg ho=>(Below.heap_setCell _ _ _ _ (by omega)).trans (h.block g hg ho)⟩
theorem Gt.keep {B:Nat}{w wr w1:World}(h:Gt B w wr)(hb:Below wr.heap.size wr w1):Gt B w w1:=h.trans (Gt.of_below hb)
theorem wpList_mapUpdate_F {α β:Type}(w:World){ops:Array Oper}{rest:List Oper}{o:Oper}{a:Act}{Q:Exit ->Act ->World ->Prop}
  (hg:o.guard=none) (m x v:Operand) (mt:TypeId) (hop:o.op=Op.mapUpdate mt m x v) (t e:TypeId) (K:Keyed Tryz.prog t) (kv:α ->Value) (hi:∀x y,kv x=kv y ->x=y) (ht:Tryz.prog.underlying mt=some (.map t e)) (vo:Option β ->Value) (b c:Nat) (f:α ->Option β)
  (hm:a.eval m=.map (some b)) (h:MapF w t kv vo b c f) (hc:c<maxLen) (k:α) (y:β) (kl:Lit) (hx:a.eval x=kv k) (hv:a.eval v=vo (some y)) (hk:keyOf Tryz.prog t (kv k)=some kl)
  (hK:∀w',MapF w' t kv vo b (c+1) (updF f k (some y)) ->w.grownBy w' (some b) ->wpList Tryz.prog ops Q rest (a.put o.dst undef) w'):
  wpList Tryz.prog ops Q (o::rest) a w:=by
 refine wpList_plain hg fun K' hK'=> ?_;obtain⟨w',hrun,r1,r2⟩:=h.store K hi ht hc (y:=y) hk;unfold Oper.wp;simp [execOp,hop,hm,hx,hv,hrun,Result.andThen];exact hK' _ _ (hK w' r1 r2)
theorem zeroNode (w:World):(zeroValue 45).run Tryz.prog w=.ok (nodV none) w:=by kernel_rfl
theorem zeroMark (w:World):(zeroValue 79).run Tryz.prog w=.ok (mrkV none) w:=by kernel_rfl
structure PB (w:World)(h:Nat)(x:Nat×Nat)(r q:Int)(s:ByteArray):Prop where
 n:Bx2 w h (.map (some x.1)) (.map (some x.2))
 d:Bx2 w (h+1) (.int .i64 r) (.int .i64 q)
 m:Bx1 w (h+2) (.string s)
theorem PB.below {w w':World}{h:Nat}{x:Nat×Nat}{r q:Int}{s:ByteArray}(p:PB w h x r q s)(hb:Below w.heap.size w w'):PB w' h x r q s:=⟨p.n.below hb p.n.lt,p.d.below hb p.d.lt,p.m.below hb p.m.lt⟩
theorem PB.gt {w w':World}{B h:Nat}{x:Nat×Nat}{r q:Int}{s:ByteArray}(p:PB w h x r q s)(hb:Gt B w w'):PB w' h x r q s:=⟨p.n.gt hb,p.d.gt hb,p.m.gt hb⟩
theorem PB.set {w:World}{h:Nat}{x:Nat×Nat}{r q:Int}{s:ByteArray}(p:PB w h x r q s)(y:Nat×Nat):PB ((w.setCell ⟨h,0,none⟩ (.map (some y.1))).setCell ⟨h,1,none⟩ (.map (some y.2))) h y r q s:=
 ⟨p.n.set _ _,(p.d.setAt _ _ (by simp)).setAt _ _ (by simp),(p.m.setAt _ _ (by simp)).setAt _ _ (by simp)⟩
theorem PB.setAt {w:World}{h:Nat}{x:Nat×Nat}{r q:Int}{s:ByteArray}(p:PB w h x r q s)(a:Addr)(u:Value)(ha:h+2<a.block):PB (w.setCell a u) h x r q s:=
 ⟨p.n.setAt _ _ (by omega),p.d.setAt _ _ (by omega),p.m.setAt _ _ (by omega)⟩
theorem putC (p:List ByteArray)(a:Option Addr)(cp:Nat)(k:Int)(r q:Int)(s:ByteArray)(B c:Nat)(N:List Ky ->Option (Nat×Nat))(M:List Ky ->Dt ->Option ByteArray)(x0:Nat×Nat)(w:World)
  (hp:p.length<=1048576) (hs:∀i,(gS p i).size<=1048576) (hk:(Lit.int .i64 k).wf=true) (hr:(Lit.int .i64 r).wf=true) (hq:(Lit.int .i64 q).wf=true) (hc:c<=1073741824) (hB:B<=w.heap.size) (h:SSeg w a p) (hT:Tre w B N M c) (h0:N []=some x0):
  Calls Tryz.prog 38 #[.agg #[.map (some x0.1),.map (some x0.2)],.slice a p.length cp,.int .i64 k,.agg #[.int .i64 r,.int .i64 q],.agg #[.string s]] w fun e w'=>e=.returned (.tuple #[])/\ Gt B w w'/\
   ∃N',Tre w' B N' (updM M (wayOf p k) (r,q) s) (c+p.length+1)/\ N' []=some x0/\∀z,(N' z).isSome=true↔(N z).isSome=true \/z <+:wayOf p k:=by
 obtain⟨W,hW⟩:∃W,((w.alloc (.cells #[.map (some x0.1),.map (some x0.2)] 45)).alloc (.cells #[.int .i64 r,.int .i64 q] 63)).alloc (.cells #[.string s] 79)=W:=⟨_,rfl⟩;have b0:Below w.heap.size w W:=by rw [<- hW];exact(((Below.refl _ _).alloc (Nat.le_refl _) _).alloc (by simp) _).alloc (by simp;omega) _
 have P0:PB W w.heap.size x0 r q s:=by
  have d1:=Bx2.made (w.alloc (.cells #[.map (some x0.1),.map (some x0.2)] 45)) (.int .i64 r) (.int .i64 q) 63;have m1:=Bx1.made ((w.alloc (.cells #[.map (some x0.1),.map (some x0.2)] 45)).alloc (.cells #[.int .i64 r,.int .i64 q] 63)) (.string s) 79;rw [<- hW];exact⟨((Bx2.made w _ _ _).allocs _).allocs _,by simpa using d1.allocs _,by simpa using m1⟩
 have HS:=hid h;have HP0:=hid P0;have HT0:=hid (hT.below b0);have HG0:=hid (Gt.of_below (B:=B) b0);have H0:=hid h0;have HB:=hid hB;have Hs:=hid hs;clear h hT h0 b0 P0 hs hB;go_enter Tryz.func38,Tryz.ntmps38;go_wp2_with fail;try rw [hW]
 clear hW;go_loopw [16] (fun i wr=>∃j:Nat,j<=p.length/\ i=.int .i64 j/\ Hid (Gt B w wr)/\ (∃Nk x,Hid (Tre wr B Nk M (c+j))/\ Hid (Nk []=some x0)/\ Hid (Nk ((wayOf p k).take j)=some x)/\ Hid (∀z,(Nk z).isSome=true↔(N z).isSome=true \/z <+:(wayOf p k).take j)/\ Hid (PB wr w.heap.size x r q s))) (fun i _=>p.length - (intOf i).toNat);case atStart=>
  refine⟨0,Nat.zero_le _,rfl,HG0,N,x0,HT0,H0,hid (by simpa using H0.out),hid (fun z=> ?_),HP0⟩;simp only [List.take_zero,List.prefix_nil];exact⟨fun h=> .inl h,fun h=>h.elim id (fun e=>by rw [e,H0.out];rfl)⟩
 case round=>
  clear HT0 HG0 HP0;obtain⟨j,hj,rfl,HG,Nk,x,HT,HN0,HNk,HI,HP⟩:=hrel;by_cases hlt:j<p.length
  ·have i1:(0:Int)<=(j:Int):=Int.natCast_nonneg _;have i2:(j:Int)<(p.length:Int):=by omega
   have HKW:=hid (keyOnWay p a cp k j wr hp hlt (HS.out.gt HG.out));obtain⟨nm,kd,hkey⟩:∃nm kd,onWay p k j=(nm,kd):=⟨_,_,rfl⟩;have HKey:=hid hkey;rw [hkey] at HKW;obtain⟨kl,hkl⟩:∃kl,keyOf Tryz.prog 102 (keyV (nm,kd))=some kl:=by
    unfold onWay at hkey;have e1:=(Prod.mk.inj hkey).1;have e2:=(Prod.mk.inj hkey).2;refine keyKey ?_ ?_
    ·rw [<- e1];have:=Hs.out j;unfold maxLen;omega
    ·rw [<- e2];split
     ·decide
     ·exact hk
   have HKL:=hid hkl;clear hkey hkl;dsimp only [keyV] at HKW;go_wp2_with fail;refine HKW.out.mono ?_;rintro e w1 ⟨rfl,b1⟩;obtain⟨w2,hw2⟩:∃w2,w1.alloc (.cells #[.string nm,.int .i64 kd] 102)=w2:=⟨_,rfl⟩;have b2:Below wr.heap.size wr w2:=by rw [<- hw2];exact b1.alloc b1.size _
   have HK2:Bx2 w2 w1.heap.size (.string nm) (.int .i64 kd):=by rw [<- hw2];exact Bx2.made _ _ _ _
   have HP2:=HP.out.below b2;have HT2:=hid (HT.out.below b2);have HG2:=hid (HG.out.keep b2);have e0:=HP2.n.c0;have e1:=HK2.c0;have e2:=HK2.c1;have HPk:=hid HP2;have HKB:=hid HK2;have HPz:Hid (w.heap.size+2<w2.heap.size):=hid HP2.m.lt;have hlk:=(HT2.out.kids _ x HNk.out).look_ok (mt:=42) keyKeyed Tryz.underlying42 (zeroNode w2) HKL.out;clear HK2 HP2 b1 b2 HKW HT HG HP;dsimp only [keyV] at hlk;have hst:(wayOf p k).take (j+1)=(wayOf p k).take j++[(nm,kd)]:=by rw [wayOf_take hlt];have:=HKey.out;unfold onWay at this;rw [this]
   have HST:=hid hst;clear hst;cases hNy:Nk ((wayOf p k).take j++[(nm,kd)]) with
   | some y=>
    rw [hNy] at hlk;dsimp only [nodV,Option.isSome] at hlk;have HNy:=hid hNy;clear hNy;obtain⟨w3,hw3⟩:∃w3,w2.alloc (.cells #[.map (some y.1),.map (some y.2)] 45)=w3:=⟨_,rfl⟩;have b3:Below w2.heap.size w2 w3:=by rw [<- hw3];exact(Below.refl _ _).alloc (Nat.le_refl _) _
    have KB:Bx2 w3 w2.heap.size (.map (some y.1)) (.map (some y.2)):=by rw [<- hw3];exact Bx2.made _ _ _ _
    have g0:=KB.c0;have g1:=KB.c1;have P3:=HPk.out.below b3;have n0:=P3.n.c0;have n1:=P3.n.c1;have f0:=P3.n.f 0;have f1:=P3.n.f 1;have HT3:=hid ((HT2.out.below b3).set (q:=⟨w.heap.size,0,none⟩) (.map (some y.1)) n0);have HT4:=hid (HT3.out.set (q:=⟨w.heap.size,1,none⟩) (.map (some y.2)) ((P3.n.set0 _).c1));have HG3:=hid (((HG2.out.keep b3).set ⟨w.heap.size,0,none⟩ (.map (some y.1)) (Nat.le_refl _)).set ⟨w.heap.size,1,none⟩ (.map (some y.2)) (Nat.le_refl _));have HP4:=hid (P3.set y);clear b3 KB P3 HT3;go_wp2_with fail;go_roundw;case rel=>
     refine⟨j+1,hlt,by go_num,HG3,Nk,y,hid (HT4.out.mono (by omega)),HN0,hid (by rw [HST.out];exact HNy.out),hid (fun z=> ?_),HP4⟩;rw [HI.out z,take_pre HST.out];constructor
     ·rintro(e|e)
      ·exact .inl e
      ·exact .inr (.inl e)
     ·rintro(e|e|e)
      ·exact .inl e
      ·exact .inr e
      ·exact(HI.out z).1 (by rw [e,HNy.out];rfl)
    case measure=>simp [intOf];omega
   | none=>
    rw [hNy] at hlk;dsimp only [nodV,Option.isSome] at hlk;have HNy:=hid hNy;clear hNy;obtain⟨w3,hw3⟩:∃w3,w2.alloc (.cells #[.map none,.map none] 45)=w3:=⟨_,rfl⟩;have b3:Below w2.heap.size w2 w3:=by rw [<- hw3];exact(Below.refl _ _).alloc (Nat.le_refl _) _
    have KB:Bx2 w3 w2.heap.size (.map none) (.map none):=by rw [<- hw3];exact Bx2.made _ _ _ _
    have HKB3:=hid KB;have HKY3:=hid (HKB.out.below b3 HKB.out.lt);have HP3:=hid (HPk.out.below b3);have HT3:=hid (HT2.out.below b3);have HG3:=hid (HG2.out.keep b3);have HZ3:=hid b3.size;have HW3:=hid hw3;clear b3 KB HPk HT2 HG2 HKB hw3;go_wp2_with fail;rw [HW3.out];refine(newNode w3).mono ?_;rintro e w4 ⟨s1,s2,rfl,hss,hs1,hs2,m1,m2,b4⟩;have KB4:=HKB3.out.below b4 HKB3.out.lt;have g0:=KB4.c0;have g1:=KB4.c1;have h0:=KB4.f 0;have h1:=KB4.f 1;obtain⟨w5,hw5⟩:∃w5,(w4.setCell ⟨w2.heap.size,0,none⟩ (.map (some s1))).setCell ⟨w2.heap.size,1,none⟩ (.map (some s2))=w5:=⟨_,rfl⟩;have zw1:w1.heap.size<w3.heap.size:=HKY3.out.lt;have zw0:=HP3.out.m.lt;have hne1:w2.heap.size≠w1.heap.size:=by rw [<- hw2];simp
    have hP5:PB w5 w.heap.size x r q s/\ w.heap.size+2<w2.heap.size:=by
     have hz:w.heap.size+2<w2.heap.size:=HPz.out;rw [<- hw5];exact⟨((HP3.out.below b4).setAt _ _ hz).setAt _ _ hz,hz⟩
    have K5:Bx2 w5 w2.heap.size (.map (some s1)) (.map (some s2)):=by rw [<- hw5];exact KB4.set _ _
    have Y5:Bx2 w5 w1.heap.size (.string nm) (.int .i64 kd):=by rw [<- hw5];exact((HKY3.out.below b4 HKY3.out.lt).setAt _ _ hne1).setAt _ _ hne1
    have T5:Tre w5 B Nk M (c+j):=by rw [<- hw5];exact((HT3.out.below b4).set _ g0).set _ (KB4.set0 _).c1
    have G5:Gt B w w5:=by rw [<- hw5];exact((HG3.out.keep b4).set _ _ (by show w.heap.size<=w2.heap.size;omega)).set _ _ (by show w.heap.size<=w2.heap.size;omega)
    have hn1:s1≠w2.heap.size:=by intro e;have:=HKB3.out.lt;omega
    have hn2:s2≠w2.heap.size:=by intro e;have:=HKB3.out.lt;omega
    have M1:MapF w5 102 (α:=Ky) keyV nodV s1 0 (fun _=>none):=by rw [<- hw5];exact(m1.same (Below.heap_setCell _ _ _ _ hn1)).same (Below.heap_setCell _ _ _ _ hn1)
    have M2:MapF w5 63 (α:=Dt) dtV mrkV s2 0 (fun _=>none):=by rw [<- hw5];exact(m2.same (Below.heap_setCell _ _ _ _ hn2)).same (Below.heap_setCell _ _ _ _ hn2)
    have c1:=hP5.1.n.c0;have c2:=Y5.c0;have c3:=Y5.c1;have c4:=K5.c0;have c5:=K5.c1;have HU:Hid (∀w6,MapF w6 102 keyV nodV x.1 (c+j+1) (updF (fun z=>Nk ((wayOf p k).take j++[z])) (nm,kd) (some (s1,s2))) ->w5.grownBy w6 (some x.1) ->Tre w6 B (updF Nk ((wayOf p k).take j++[(nm,kd)]) (some (s1,s2))) M (c+j+1)/\ Gt B w w6/\ PB w6 w.heap.size x r q s/\ Bx2 w6 w2.heap.size (.map (some s1)) (.map (some s2))):=hid (fun w6 hu hg=>by
     have hlo:=(T5.lo _ x HNk.out).1;have hg6:=Gt.grown hg hlo (T5.kids _ x HNk.out).obj;refine⟨T5.add HNk.out HNy.out M1 M2 hss (fun q z hz=> ?_) ⟨by have:=HB.out;omega,by have:=HB.out;omega⟩ hu hg,G5.trans hg6,hP5.1.gt hg6,K5.gt hg6⟩;have:=HT3.out.lt hz;exact⟨by omega,by omega,by omega,by omega⟩)
    have HMF:=hid (T5.kids _ x HNk.out);clear hP5 K5 Y5 T5 G5 M1 M2 m1 m2 b4 KB4 HKB3 HKY3 HP3 HT3 HG3;go_wp2_with (refine wpList_mapUpdate_F _ rfl _ _ _ 42 rfl 102 45 keyKeyed keyV (fun _ _=>keyV_inj) Tryz.underlying42 nodV x.1 (c+j) (fun z=>Nk ((wayOf p k).take j++[z])) rfl HMF.out (by unfold maxLen;omega) (nm,kd) (s1,s2) kl rfl rfl HKL.out ?_;intro w6 hu hg;obtain⟨T6,G6,P6,K6⟩:=HU.out w6 hu hg;have HT6:=hid T6;have HG6:=hid G6;have HP6:=hid P6;have t0:=P6.n.c0;have t1:=P6.n.c1;have t2:=P6.n.f 0;have t3:=P6.n.f 1;have t4:=K6.c0;have t5:=K6.c1;clear hu hg T6 G6 P6 K6);go_roundw;case rel=>
     have T7:=(HT6.out.set (q:=⟨w.heap.size,0,none⟩) (.map (some s1)) t0).set (q:=⟨w.heap.size,1,none⟩) (.map (some s2)) (HP6.out.n.set0 _).c1;refine⟨j+1,hlt,by go_num,hid ((HG6.out.set _ _ (Nat.le_refl _)).set _ _ (Nat.le_refl _)),updF Nk ((wayOf p k).take j++[(nm,kd)]) (some (s1,s2)),(s1,s2),hid T7,hid ?_,hid ?_,hid (fun z=> ?_),hid (HP6.out.set (s1,s2))⟩
     ·rw [updF_other _ _ (by simp)];exact HN0.out
     ·rw [HST.out,updF_same]
     ·rw [take_pre HST.out];by_cases ez:z=(wayOf p k).take j++[(nm,kd)]
      ·rw [ez,updF_same];exact⟨fun _=> .inr (.inr rfl),fun _=>rfl⟩
      ·rw [updF_other _ _ ez,HI.out z];constructor
       ·rintro(h|h)
        ·exact .inl h
        ·exact .inr (.inl h)
       ·rintro(h|h|h)
        ·exact .inl h
        ·exact .inr h
        ·exact absurd h ez
    case measure=>simp [intOf];omega
  ·obtain rfl:j=p.length:=by omega
   have htk:(wayOf p k).take p.length=wayOf p k:=List.take_of_length_le (by rw [wayOf_len];exact Nat.le_refl _);rw [htk] at HNk HI;obtain⟨kl,hkl⟩:∃kl,keyOf Tryz.prog 63 (dtV (r,q))=some kl:=dotKey hr hq;have HKL:=hid hkl;have c0:=HP.out.n.c1;have c1:=HP.out.d.c0;have c2:=HP.out.d.c1;have c3:=HP.out.m.c0;have HMF:=hid (HT.out.marks _ x HNk.out);have HU:Hid (∀w6,MapF w6 63 dtV mrkV x.2 (c+p.length+1) (updF (M (wayOf p k)) (r,q) (some s)) ->wr.grownBy w6 (some x.2) ->Tre w6 B Nk (updM M (wayOf p k) (r,q) s) (c+p.length+1)/\ Gt B w w6):=hid (fun w6 hu hg=>
     ⟨HT.out.mark HNk.out hu hg,HG.out.trans (Gt.grown hg (HT.out.lo _ x HNk.out).2 (HT.out.marks _ x HNk.out).obj)⟩)
   clear htk hkl HT HG HP;go_wp2_with (refine wpList_mapUpdate_F _ rfl _ _ _ 43 rfl 63 79 dotKeyed dtV (fun _ _=>dtV_inj) Tryz.underlying43 mrkV x.2 (c+p.length) (M (wayOf p k)) rfl HMF.out (by unfold maxLen;omega) (r,q) s kl rfl rfl HKL.out ?_;intro w6 hu hg;obtain⟨T6,G6⟩:=HU.out w6 hu hg;have HT6:=hid T6;have HG6:=hid G6;clear hu hg T6 G6);go_end0;exact⟨rfl,HG6.out,Nk,HT6.out,HN0.out,HI.out⟩
theorem DotM.below {w w1:World}{bm k:Nat}{l:List Lf}{D:DataW Value}(h:DotM w bm k l D)(hb:Below w.heap.size w w1):DotM w1 bm k l D:=
 ⟨h.own.kept ⟨hb.os,hb.tape,hb.output,hb.size,fun k hk _=>hb.block k hk⟩ (by simp:some bm≠none),h.tidy,h.has',h.le,h.eq⟩
def LsOk (R F T:Nat ->Int)(n:Nat)(l:List Lf):Prop:=l.length<=1000/\ LvOk R F T n l l.length/\ Dis l l.length
theorem leavesOk (a:Option Addr)(c:Nat)(l:List Lf)(bm n:Nat)(M:DataW Value)(G:Int ->Value)(R F T:Nat ->Int)(w:World)(hn:l.length<=1048576)(hp:LBd l)(hi:∀i,LfI (gL l i))(h:LSeg w a l)
  (hG:GrpAt w bm n M G (Lk R F T n)) (hs:∀r,Srt (Lk R F T n r)) (hl:∀r,(Lk R F T n r).length<=1000000):
  Calls Tryz.prog 62 #[.slice a l.length c,.map (some bm)] w fun e w'=>e=.returned (.bool (yes (LsOk R F T n l)))/\ Below w.heap.size w w':=by
 have hmm:=@run_makeMap Tryz.prog;obtain⟨Y,hY⟩:∃Y,yes (LsOk R F T n l)=Y:=⟨_,rfl⟩;have HY:=hid hY;rw [hY];clear hY;have HL:=hid h;have HG:=hid hG;clear h hG;by_cases hbig:(1000:Int)<(l.length:Int)
 ·have d0:decide ((1000:Int)<(l.length:Int))=true:=by simpa using hbig
  have HF:Hid (Y=false):=hid (by rw [<- HY.out];exact yes_f (fun h=>by have:=h.1;omega));go_enter Tryz.func62,Tryz.ntmps62;go_wp2_with fail;go_ret;exact⟨ret_b HF.out.symm,Below.refl _ _⟩
 ·have d0:decide ((1000:Int)<(l.length:Int))=false:=by simpa using hbig
  go_enter Tryz.func62,Tryz.ntmps62;go_wp2_with fail;clear d0;have HM0:=hid (DotM.made w l);have HB0:Hid (Below w.heap.size w (w.alloc (.map #[] 0))):=hid ((Below.refl _ _).alloc (Nat.le_refl _) _);go_loopw [14] (fun i wr=>∃k:Nat,k<=l.length/\ i=.int .i64 k/\ Hid (Below w.heap.size w wr)/\ (∃D,Hid (DotM wr w.heap.size k l D))/\ Hid (LvOk R F T n l k)) (fun i _=>l.length - (intOf i).toNat);case atStart=>exact⟨0,Nat.zero_le _,rfl,HB0,⟨_,HM0⟩,hid (fun i hi=>by omega)⟩
  case round=>
   clear HM0 HB0 hmm;obtain⟨k,hk,rfl,HBR,⟨D,HDM⟩,HI⟩:=hrel;by_cases hlt:k<l.length
   ·rcases HL.out with h|⟨b,off,rfl,hb,hc⟩
    ·omega
    obtain⟨pa,pc,c0,s,c1,c2,c3,c4⟩:=hc k hlt;have x0:=(HBR.out.cell (p:=⟨b,off+k*5,none⟩) hb).trans c0;have x1:=(HBR.out.cell (p:=⟨b,off+k*5+1,none⟩) hb).trans c1;have x2:=(HBR.out.cell (p:=⟨b,off+k*5+2,none⟩) hb).trans c2;have x3:=(HBR.out.cell (p:=⟨b,off+k*5+3,none⟩) hb).trans c3;have x4:=(HBR.out.cell (p:=⟨b,off+k*5+4,none⟩) hb).trans c4;have HS:=hid (s.below HBR.out);have i1:(0:Int)<=(k:Int):=Int.natCast_nonneg _;have i2:(k:Int)<(l.length:Int):=by omega
    have HCC:=hid hc;have zr:w.heap.size<=wr.heap.size:=HBR.out.size;have hwf:=hi k;clear hc c0 c1 c2 c3 c4 s;obtain⟨y,hy⟩:∃y,gL l k=y:=⟨_,rfl⟩;have hpk:=hp k;rw [hy] at HS x0 x1 x2 x3 x4 hpk hwf;have HE:=hid hy;clear hy;obtain⟨p,fl,r,q,v⟩:=y;dsimp only [LfI] at HS x0 x1 x2 x3 x4 hpk hwf;go_wp2_with fail;obtain⟨W2,hW2⟩:∃W2,wr.alloc (.cells #[.slice pa p.length pc,.bool fl,.int .i64 r,.int .i64 q,.string v] 65)=W2:=⟨_,rfl⟩;have b2:Below wr.heap.size wr W2:=by rw [<- hW2];exact(Below.refl _ _).alloc (Nat.le_refl _) _
    have B5:Bx5 W2 wr.heap.size (.slice pa p.length pc) (.bool fl) (.int .i64 r) (.int .i64 q) (.string v):=by rw [<- hW2];exact⟨by simp,by simp,by simp,by simp,by simp,fun i=>by simp,by simp⟩
    have y0:=B5.c0;have y1:=B5.c1;have y2:=B5.c2;have y3:=B5.c3;have y4:=B5.c4;have z2:=B5.lt;have HB02:=hid b2;have HB2:=hid (HBR.out.trans (b2.mono HBR.out.size));have HSP:=hid (HS.out.below b2);have HG2:=hid (HG.out.below HB2.out);rw [hW2];clear hW2 b2 B5 x0 x1 x2 x3 x4 HS;have HNO:Hid (¬(LfOk1 ⟨p,fl,r,q,v⟩/\ hasK R F T r q q n=true/\ (0<k ->cmpL (gL l (k - 1)) ⟨p,fl,r,q,v⟩<0)) ->Y=false):=hid (fun no=>by
     rw [<- HY.out];exact yes_f (fun h=>no (by have:=h.2.1 k hlt;rw [HE.out] at this;exact this)))
    obtain⟨Y1,hY1⟩:∃Y1,yes (LfOk1 ⟨p,fl,r,q,v⟩)=Y1:=⟨_,rfl⟩;have HY1:=hid hY1;have HLO:Hid (∀W,Below W2.heap.size W2 W ->Calls Tryz.prog 82 #[.agg #[.slice pa p.length pc,.bool fl,.int .i64 r,.int .i64 q,.string v]] W fun e w'=>e=.returned (.bool Y1)/\ Below W.heap.size W w'):=hid (fun W hB=>by rw [<- hY1];exact leafOk pa pc p fl r q v W hpk (HSP.out.below hB));obtain⟨A,hA⟩:∃A,hasK R F T r q q n=A:=⟨_,rfl⟩;have HA:=hid hA;have HHA:Hid (∀W,Below W2.heap.size W2 W ->Calls Tryz.prog 83 #[.map (some bm),.agg #[.int .i64 r,.int .i64 q]] W fun e w'=>e=.returned (.bool A)/\ Below W.heap.size W w'):=hid (fun W hB=>by rw [<- hA,<- in_hasK];exact hasM (HG2.out.below hB) r q hwf.1 (hs r) (hl r));clear hY1 hA;cases Y1 with
    | false=>
     have HCS:Hid (∀w',Below W2.heap.size W2 w' ->(Below W2.heap.size W2 w'/\ w'.cell? ⟨wr.heap.size,0,none⟩=some (.slice pa p.length pc)/\ w'.cell? ⟨wr.heap.size,1,none⟩=some (.bool fl)/\ w'.cell? ⟨wr.heap.size,2,none⟩=some (.int .i64 r)/\ w'.cell? ⟨wr.heap.size,3,none⟩=some (.int .i64 q)/\ w'.cell? ⟨wr.heap.size,4,none⟩=some (.string v))):=hid (fun w' hB=>⟨hB,(hB.cell (p:=⟨wr.heap.size,0,none⟩) z2).trans y0,(hB.cell (p:=⟨wr.heap.size,1,none⟩) z2).trans y1,(hB.cell (p:=⟨wr.heap.size,2,none⟩) z2).trans y2,(hB.cell (p:=⟨wr.heap.size,3,none⟩) z2).trans y3,(hB.cell (p:=⟨wr.heap.size,4,none⟩) z2).trans y4⟩);refine wp_region_held_drew (S:=fun w'=>Below W2.heap.size W2 w'/\ w'.cell? ⟨wr.heap.size,0,none⟩=some (.slice pa p.length pc)/\ w'.cell? ⟨wr.heap.size,1,none⟩=some (.bool fl)/\ w'.cell? ⟨wr.heap.size,2,none⟩=some (.int .i64 r)/\ w'.cell? ⟨wr.heap.size,3,none⟩=some (.int .i64 q)/\ w'.cell? ⟨wr.heap.size,4,none⟩=some (.string v)) (by kernel_rfl) (HCS.out _ (Below.refl _ _).drew) (fun hHeld=> ?_);refine tZ 0 19 ?_;refine cZ 1 ?_;intro K hK;go_simp;refine(HLO.out _ hHeld.1).mono ?_;rintro e w3 ⟨rfl,b3⟩;have hB3:=hHeld.1.trans (b3.mono hHeld.1.size);refine hK.out _ _ (HCS.out _ hB3) (fun hHeld=> ?_);clear hK K;try simp only [Act.put,sZa,sZb,sZc]
     refine tZ 2 21 ?_;refine tZ 3 22 ?_;refine uZ 4 23 ?_;refine uZ 5 24 ?_;refine uZ 6 25 ?_;refine uZ 7 26 ?_;refine uZ 8 27 ?_;refine tZ 9 28 ?_;refine tZ 10 29 ?_;refine uZ 11 30 ?_;refine uZ 12 31 ?_;refine uZ 13 32 ?_;refine uZ 14 33 ?_;refine uZ 15 34 ?_;refine uZ 16 35 ?_;refine uZ 17 36 ?_;refine uZ 18 37 ?_;refine uZ 19 38 ?_;refine uZ 20 39 ?_;refine uZ 21 40 ?_;refine uZ 22 41 ?_;refine tZ 23 42 ?_;refine wpAnyH_done (by kernel_rfl) ?_ _;have HF:=hid (HNO.out (fun h=>by have:=yes_t h.1;rw [HY1.out] at this;cases this));have HZ:=hid (HB2.out.trans (hB3.mono HB2.out.size));clear hHeld HCS HNO;go_wp2_with fail;go_ret;exact⟨ret_b HF.out.symm,HZ.out⟩
    | true=>
     cases A with
     | false=>
      have HCS:Hid (∀w',Below W2.heap.size W2 w' ->(Below W2.heap.size W2 w'/\ w'.cell? ⟨wr.heap.size,0,none⟩=some (.slice pa p.length pc)/\ w'.cell? ⟨wr.heap.size,1,none⟩=some (.bool fl)/\ w'.cell? ⟨wr.heap.size,2,none⟩=some (.int .i64 r)/\ w'.cell? ⟨wr.heap.size,3,none⟩=some (.int .i64 q)/\ w'.cell? ⟨wr.heap.size,4,none⟩=some (.string v))):=hid (fun w' hB=>⟨hB,(hB.cell (p:=⟨wr.heap.size,0,none⟩) z2).trans y0,(hB.cell (p:=⟨wr.heap.size,1,none⟩) z2).trans y1,(hB.cell (p:=⟨wr.heap.size,2,none⟩) z2).trans y2,(hB.cell (p:=⟨wr.heap.size,3,none⟩) z2).trans y3,(hB.cell (p:=⟨wr.heap.size,4,none⟩) z2).trans y4⟩);refine wp_region_held_drew (S:=fun w'=>Below W2.heap.size W2 w'/\ w'.cell? ⟨wr.heap.size,0,none⟩=some (.slice pa p.length pc)/\ w'.cell? ⟨wr.heap.size,1,none⟩=some (.bool fl)/\ w'.cell? ⟨wr.heap.size,2,none⟩=some (.int .i64 r)/\ w'.cell? ⟨wr.heap.size,3,none⟩=some (.int .i64 q)/\ w'.cell? ⟨wr.heap.size,4,none⟩=some (.string v)) (by kernel_rfl) (HCS.out _ (Below.refl _ _).drew) (fun hHeld=> ?_);refine tZ 0 19 ?_;refine cZ 1 ?_;intro K hK;go_simp;refine(HLO.out _ hHeld.1).mono ?_;rintro e w3 ⟨rfl,b3⟩;have hB3:=hHeld.1.trans (b3.mono hHeld.1.size);refine hK.out _ _ (HCS.out _ hB3) (fun hHeld=> ?_);clear hK K;try simp only [Act.put,sZa,sZb,sZc]
      refine tZ 2 21 ?_;refine tZ 3 22 ?_;refine tZ 4 23 ?_;refine tZ 5 24 ?_;refine tZ 6 25 ?_;refine cZ 7 ?_;intro K hK;go_simp;refine(HHA.out _ hHeld.1).mono ?_;rintro e w4 ⟨rfl,b4⟩;have hB4:=hHeld.1.trans (b4.mono hHeld.1.size);refine hK.out _ _ (HCS.out _ hB4) (fun hHeld=> ?_);clear hK K;try simp only [Act.put,sZa,sZb,sZc]
      refine tZ 8 27 ?_;refine tZ 9 28 ?_;refine tZ 10 29 ?_;refine uZ 11 30 ?_;refine uZ 12 31 ?_;refine uZ 13 32 ?_;refine uZ 14 33 ?_;refine uZ 15 34 ?_;refine uZ 16 35 ?_;refine uZ 17 36 ?_;refine uZ 18 37 ?_;refine uZ 19 38 ?_;refine uZ 20 39 ?_;refine uZ 21 40 ?_;refine uZ 22 41 ?_;refine tZ 23 42 ?_;refine wpAnyH_done (by kernel_rfl) ?_ _;have HF:=hid (HNO.out (fun h=>by have:=h.2.1;rw [HA.out] at this;cases this));have HZ:=hid (HB2.out.trans (hB4.mono HB2.out.size));clear hHeld HCS HNO;go_wp2_with fail;go_ret;exact⟨ret_b HF.out.symm,HZ.out⟩
     | true=>
      by_cases hk0:k=0
      ·have d2:decide ((0:Int)<(k:Int))=false:=by simp;omega
       have d3:decide (0<k)=false:=by simp;omega
       have HORD:Hid (0<k ->cmpL (gL l (k - 1)) ⟨p,fl,r,q,v⟩<0):=hid (fun h=>by omega);clear hk0;have HCS:Hid (∀w',Below W2.heap.size W2 w' ->(Below W2.heap.size W2 w'/\ w'.cell? ⟨wr.heap.size,0,none⟩=some (.slice pa p.length pc)/\ w'.cell? ⟨wr.heap.size,1,none⟩=some (.bool fl)/\ w'.cell? ⟨wr.heap.size,2,none⟩=some (.int .i64 r)/\ w'.cell? ⟨wr.heap.size,3,none⟩=some (.int .i64 q)/\ w'.cell? ⟨wr.heap.size,4,none⟩=some (.string v))):=hid (fun w' hB=>⟨hB,(hB.cell (p:=⟨wr.heap.size,0,none⟩) z2).trans y0,(hB.cell (p:=⟨wr.heap.size,1,none⟩) z2).trans y1,(hB.cell (p:=⟨wr.heap.size,2,none⟩) z2).trans y2,(hB.cell (p:=⟨wr.heap.size,3,none⟩) z2).trans y3,(hB.cell (p:=⟨wr.heap.size,4,none⟩) z2).trans y4⟩);refine wp_region_held_drew (S:=fun w'=>Below W2.heap.size W2 w'/\ w'.cell? ⟨wr.heap.size,0,none⟩=some (.slice pa p.length pc)/\ w'.cell? ⟨wr.heap.size,1,none⟩=some (.bool fl)/\ w'.cell? ⟨wr.heap.size,2,none⟩=some (.int .i64 r)/\ w'.cell? ⟨wr.heap.size,3,none⟩=some (.int .i64 q)/\ w'.cell? ⟨wr.heap.size,4,none⟩=some (.string v)) (by kernel_rfl) (HCS.out _ (Below.refl _ _).drew) (fun hHeld=> ?_);refine tZ 0 19 ?_;refine cZ 1 ?_;intro K hK;go_simp;refine(HLO.out _ hHeld.1).mono ?_;rintro e w3 ⟨rfl,b3⟩;have hB3:=hHeld.1.trans (b3.mono hHeld.1.size);refine hK.out _ _ (HCS.out _ hB3) (fun hHeld=> ?_);clear hK K;try simp only [Act.put,sZa,sZb,sZc]
       refine tZ 2 21 ?_;refine tZ 3 22 ?_;refine tZ 4 23 ?_;refine tZ 5 24 ?_;refine tZ 6 25 ?_;refine cZ 7 ?_;intro K hK;go_simp;refine(HHA.out _ hHeld.1).mono ?_;rintro e w4 ⟨rfl,b4⟩;have hB4:=hHeld.1.trans (b4.mono hHeld.1.size);refine hK.out _ _ (HCS.out _ hB4) (fun hHeld=> ?_);clear hK K;try simp only [Act.put,sZa,sZb,sZc]
       refine tZ 8 27 ?_;refine tZ 9 28 ?_;refine tZ 10 29 ?_;refine tZ 11 30 ?_;refine tZ 12 31 ?_;refine tZ 13 32 ?_;refine uZ 14 33 ?_;refine uZ 15 34 ?_;refine uZ 16 35 ?_;refine uZ 17 36 ?_;refine uZ 18 37 ?_;refine uZ 19 38 ?_;refine uZ 20 39 ?_;refine uZ 21 40 ?_;refine tZ 22 41 ?_;refine tZ 23 42 ?_;refine wpAnyH_done (by kernel_rfl) ?_ _;have HBZ:=hid hB4;have y2:=(hB4.cell (p:=⟨wr.heap.size,2,none⟩) z2).trans y2;have y3:=(hB4.cell (p:=⟨wr.heap.size,3,none⟩) z2).trans y3;obtain⟨kl,hkl⟩:=dotKey hwf.1 hwf.2;have HKL:=hid hkl;have HDM2:=HDM.out.below (HB02.out.trans (hB4.mono HB02.out.size));have hown:=HDM2.own;have hval:plainElem (H:=Value) Tryz.prog 3 (.int .i64 (k:Int))=some (.lit (.int .i64 (k:Int)),[]):=plainElem_int Tryz.underlying3 (wfI (by omega) (by omega));have hkl':keyOf Tryz.prog 63 (.agg #[.int .i64 r,.int .i64 q])=some kl:=hkl;have HD2:=hid HDM2;clear hHeld HCS HNO HDM2 hkl;go_wp2_with (refine wpList_mapUpdate_own _ rfl _ _ _ 130 rfl 63 3 dotKeyed Tryz.underlying130 (plainElem Tryz.prog 3) (w.heap.size) k D rfl hown (by unfold maxLen;omega) _ _ kl rfl rfl hkl' (.lit (.int .i64 (k:Int))) [] hval ?_;intro w6 hown6 hgr6);have HD6:=hid (HD2.out.step (by rw [HE.out];exact HKL.out) hown6);have hBX:=HB2.out.trans (HBZ.out.mono HB2.out.size);have HB6:=hid (hBX.grown hgr6 hBX.size (fun t e=>by injection e with e;omega));have HN:Hid (LvOk R F T n l (k+1)):=hid (HI.out.step (by rw [HE.out];exact yes_iff.1 HY1.out) (by rw [HE.out];exact HA.out) (fun h=>by rw [HE.out];exact HORD.out h));go_roundw;case rel=>exact⟨k+1,hlt,by go_num,HB6,⟨_,HD6⟩,HN⟩
       case measure=>simp [intOf];omega
      ·obtain⟨j,hj⟩:∃j,k=j+1:=⟨k - 1,by omega⟩;obtain⟨pa',pc',c0,s',c1,c2,c3,c4⟩:=HCC.out j (by omega);have q':=fun(o:Nat)=>HB2.out.cell (p:=⟨b,o,none⟩) hb;have j0:=(q' _).trans c0;have j1:=(q' _).trans c1;have j2:=(q' _).trans c2;have j3:=(q' _).trans c3;have j4:=(q' _).trans c4;have HSJ:=hid (s'.below HB2.out);have hpj:=hp j;obtain⟨y',hy'⟩:∃y',gL l j=y':=⟨_,rfl⟩;rw [hy'] at j0 j1 j2 j3 j4 HSJ hpj;have HEJ:=hid hy';obtain⟨p',fl',r',q',v'⟩:=y';dsimp only at j0 j1 j2 j3 j4 HSJ hpj;have zb:b<W2.heap.size:=by have:=HB2.out.size;omega
       have d2:decide ((0:Int)<(k:Int))=true:=by simp;omega
       have d3:decide (0<k)=true:=by simp;omega
       have hsub:(k:Int) - 1=(j:Int):=by omega
       have hwr:IntKind.i64.wrap (j:Int)=(j:Int):=by rw [IntKind.wrap_i64];omega
       have hwr2:IntKind.i64.wrap ((k:Int) - 1)=(j:Int):=by rw [hsub];exact hwr
       have q1:(0:Int)<=(j:Int):=Int.natCast_nonneg _;have q2:(j:Int)<(l.length:Int):=by omega
       have HKJ:=hid hj;obtain⟨X,hX⟩:∃X,cmpL ⟨p',fl',r',q',v'⟩ ⟨p,fl,r,q,v⟩=X:=⟨_,rfl⟩;have HXE:=hid hX;have HCL:Hid (∀W,Below W2.heap.size W2 W ->Calls Tryz.prog 75 #[.agg #[.slice pa' p'.length pc',.bool fl',.int .i64 r',.int .i64 q',.string v'],.agg #[.slice pa p.length pc,.bool fl,.int .i64 r,.int .i64 q,.string v]] W fun e w'=>e=.returned (.int .i64 X)/\ Below W.heap.size W w'):=hid (fun W hB=>by rw [<- hX];exact compareLeaves pa' pa pc' pc p' p fl' fl r' q' r q v' v W hpj hpk (HSJ.out.below hB) (HSP.out.below hB));clear hX hj hk0 c0 c1 c2 c3 c4 s' hy';by_cases hX0:(0:Int)<=X
       ·have d4:decide ((0:Int)<=X)=true:=by simpa using hX0
        have HCS:Hid (∀w',Below W2.heap.size W2 w' ->(Below W2.heap.size W2 w'/\ w'.cell? ⟨wr.heap.size,0,none⟩=some (.slice pa p.length pc)/\ w'.cell? ⟨wr.heap.size,1,none⟩=some (.bool fl)/\ w'.cell? ⟨wr.heap.size,2,none⟩=some (.int .i64 r)/\ w'.cell? ⟨wr.heap.size,3,none⟩=some (.int .i64 q)/\ w'.cell? ⟨wr.heap.size,4,none⟩=some (.string v)/\ w'.cell? ⟨b,off+j*5,none⟩=some (.slice pa' p'.length pc')/\ w'.cell? ⟨b,off+j*5+1,none⟩=some (.bool fl')/\ w'.cell? ⟨b,off+j*5+2,none⟩=some (.int .i64 r')/\ w'.cell? ⟨b,off+j*5+3,none⟩=some (.int .i64 q')/\ w'.cell? ⟨b,off+j*5+4,none⟩=some (.string v'))):=hid (fun w' hB=>⟨hB,(hB.cell (p:=⟨wr.heap.size,0,none⟩) z2).trans y0,(hB.cell (p:=⟨wr.heap.size,1,none⟩) z2).trans y1,(hB.cell (p:=⟨wr.heap.size,2,none⟩) z2).trans y2,(hB.cell (p:=⟨wr.heap.size,3,none⟩) z2).trans y3,(hB.cell (p:=⟨wr.heap.size,4,none⟩) z2).trans y4,(hB.cell (p:=⟨b,off+j*5,none⟩) zb).trans j0,(hB.cell (p:=⟨b,off+j*5+1,none⟩) zb).trans j1,(hB.cell (p:=⟨b,off+j*5+2,none⟩) zb).trans j2,(hB.cell (p:=⟨b,off+j*5+3,none⟩) zb).trans j3,(hB.cell (p:=⟨b,off+j*5+4,none⟩) zb).trans j4⟩);refine wp_region_held_drew (S:=fun w'=>Below W2.heap.size W2 w'/\ w'.cell? ⟨wr.heap.size,0,none⟩=some (.slice pa p.length pc)/\ w'.cell? ⟨wr.heap.size,1,none⟩=some (.bool fl)/\ w'.cell? ⟨wr.heap.size,2,none⟩=some (.int .i64 r)/\ w'.cell? ⟨wr.heap.size,3,none⟩=some (.int .i64 q)/\ w'.cell? ⟨wr.heap.size,4,none⟩=some (.string v)/\ w'.cell? ⟨b,off+j*5,none⟩=some (.slice pa' p'.length pc')/\ w'.cell? ⟨b,off+j*5+1,none⟩=some (.bool fl')/\ w'.cell? ⟨b,off+j*5+2,none⟩=some (.int .i64 r')/\ w'.cell? ⟨b,off+j*5+3,none⟩=some (.int .i64 q')/\ w'.cell? ⟨b,off+j*5+4,none⟩=some (.string v')) (by kernel_rfl) (HCS.out _ (Below.refl _ _).drew) (fun hHeld=> ?_);refine tZ 0 19 ?_;refine cZ 1 ?_;intro K hK;go_simp;refine(HLO.out _ hHeld.1).mono ?_;rintro e w3 ⟨rfl,b3⟩;have hB3:=hHeld.1.trans (b3.mono hHeld.1.size);refine hK.out _ _ (HCS.out _ hB3) (fun hHeld=> ?_);clear hK K;try simp only [Act.put,sZa,sZb,sZc]
        refine tZ 2 21 ?_;refine tZ 3 22 ?_;refine tZ 4 23 ?_;refine tZ 5 24 ?_;refine tZ 6 25 ?_;refine cZ 7 ?_;intro K hK;go_simp;refine(HHA.out _ hHeld.1).mono ?_;rintro e w4 ⟨rfl,b4⟩;have hB4:=hHeld.1.trans (b4.mono hHeld.1.size);refine hK.out _ _ (HCS.out _ hB4) (fun hHeld=> ?_);clear hK K;try simp only [Act.put,sZa,sZb,sZc]
        refine tZ 8 27 ?_;refine tZ 9 28 ?_;refine tZ 10 29 ?_;refine tZ 11 30 ?_;refine tZ 12 31 ?_;refine tZ 13 32 ?_;refine tZ 14 33 ?_;refine tZ 15 34 ?_;refine tZ 16 35 ?_;refine tZ 17 36 ?_;refine tZ 18 37 ?_;refine tZ 19 38 ?_;refine cZ 20 ?_;intro K hK;go_simp;refine(HCL.out _ hHeld.1).mono ?_;rintro e w5 ⟨rfl,b5⟩;have hB5:=hHeld.1.trans (b5.mono hHeld.1.size);refine hK.out _ _ (HCS.out _ hB5) (fun hHeld=> ?_);clear hK K;try simp only [Act.put,sZa,sZb,sZc]
        refine tZ 21 40 ?_;refine tZ 22 41 ?_;refine tZ 23 42 ?_;refine wpAnyH_done (by kernel_rfl) ?_ _;have HF:=hid (HNO.out (fun h=>by have e:=h.2.2 (by have:=HKJ.out;omega);rw [show k - 1=j by have:=HKJ.out;omega,HEJ.out,HXE.out] at e;omega));have HZ:=hid (HB2.out.trans (hB5.mono HB2.out.size));clear hHeld HCS HNO;go_wp2_with fail;go_ret;exact⟨ret_b HF.out.symm,HZ.out⟩
       ·have d4:decide ((0:Int)<=X)=false:=by simpa using hX0
        have HORD:Hid (0<k ->cmpL (gL l (k - 1)) ⟨p,fl,r,q,v⟩<0):=hid (fun _=>by rw [show k - 1=j by have:=HKJ.out;omega,HEJ.out,HXE.out];omega);have HCS:Hid (∀w',Below W2.heap.size W2 w' ->(Below W2.heap.size W2 w'/\ w'.cell? ⟨wr.heap.size,0,none⟩=some (.slice pa p.length pc)/\ w'.cell? ⟨wr.heap.size,1,none⟩=some (.bool fl)/\ w'.cell? ⟨wr.heap.size,2,none⟩=some (.int .i64 r)/\ w'.cell? ⟨wr.heap.size,3,none⟩=some (.int .i64 q)/\ w'.cell? ⟨wr.heap.size,4,none⟩=some (.string v)/\ w'.cell? ⟨b,off+j*5,none⟩=some (.slice pa' p'.length pc')/\ w'.cell? ⟨b,off+j*5+1,none⟩=some (.bool fl')/\ w'.cell? ⟨b,off+j*5+2,none⟩=some (.int .i64 r')/\ w'.cell? ⟨b,off+j*5+3,none⟩=some (.int .i64 q')/\ w'.cell? ⟨b,off+j*5+4,none⟩=some (.string v'))):=hid (fun w' hB=>⟨hB,(hB.cell (p:=⟨wr.heap.size,0,none⟩) z2).trans y0,(hB.cell (p:=⟨wr.heap.size,1,none⟩) z2).trans y1,(hB.cell (p:=⟨wr.heap.size,2,none⟩) z2).trans y2,(hB.cell (p:=⟨wr.heap.size,3,none⟩) z2).trans y3,(hB.cell (p:=⟨wr.heap.size,4,none⟩) z2).trans y4,(hB.cell (p:=⟨b,off+j*5,none⟩) zb).trans j0,(hB.cell (p:=⟨b,off+j*5+1,none⟩) zb).trans j1,(hB.cell (p:=⟨b,off+j*5+2,none⟩) zb).trans j2,(hB.cell (p:=⟨b,off+j*5+3,none⟩) zb).trans j3,(hB.cell (p:=⟨b,off+j*5+4,none⟩) zb).trans j4⟩);refine wp_region_held_drew (S:=fun w'=>Below W2.heap.size W2 w'/\ w'.cell? ⟨wr.heap.size,0,none⟩=some (.slice pa p.length pc)/\ w'.cell? ⟨wr.heap.size,1,none⟩=some (.bool fl)/\ w'.cell? ⟨wr.heap.size,2,none⟩=some (.int .i64 r)/\ w'.cell? ⟨wr.heap.size,3,none⟩=some (.int .i64 q)/\ w'.cell? ⟨wr.heap.size,4,none⟩=some (.string v)/\ w'.cell? ⟨b,off+j*5,none⟩=some (.slice pa' p'.length pc')/\ w'.cell? ⟨b,off+j*5+1,none⟩=some (.bool fl')/\ w'.cell? ⟨b,off+j*5+2,none⟩=some (.int .i64 r')/\ w'.cell? ⟨b,off+j*5+3,none⟩=some (.int .i64 q')/\ w'.cell? ⟨b,off+j*5+4,none⟩=some (.string v')) (by kernel_rfl) (HCS.out _ (Below.refl _ _).drew) (fun hHeld=> ?_);refine tZ 0 19 ?_;refine cZ 1 ?_;intro K hK;go_simp;refine(HLO.out _ hHeld.1).mono ?_;rintro e w3 ⟨rfl,b3⟩;have hB3:=hHeld.1.trans (b3.mono hHeld.1.size);refine hK.out _ _ (HCS.out _ hB3) (fun hHeld=> ?_);clear hK K;try simp only [Act.put,sZa,sZb,sZc]
        refine tZ 2 21 ?_;refine tZ 3 22 ?_;refine tZ 4 23 ?_;refine tZ 5 24 ?_;refine tZ 6 25 ?_;refine cZ 7 ?_;intro K hK;go_simp;refine(HHA.out _ hHeld.1).mono ?_;rintro e w4 ⟨rfl,b4⟩;have hB4:=hHeld.1.trans (b4.mono hHeld.1.size);refine hK.out _ _ (HCS.out _ hB4) (fun hHeld=> ?_);clear hK K;try simp only [Act.put,sZa,sZb,sZc]
        refine tZ 8 27 ?_;refine tZ 9 28 ?_;refine tZ 10 29 ?_;refine tZ 11 30 ?_;refine tZ 12 31 ?_;refine tZ 13 32 ?_;refine tZ 14 33 ?_;refine tZ 15 34 ?_;refine tZ 16 35 ?_;refine tZ 17 36 ?_;refine tZ 18 37 ?_;refine tZ 19 38 ?_;refine cZ 20 ?_;intro K hK;go_simp;refine(HCL.out _ hHeld.1).mono ?_;rintro e w5 ⟨rfl,b5⟩;have hB5:=hHeld.1.trans (b5.mono hHeld.1.size);refine hK.out _ _ (HCS.out _ hB5) (fun hHeld=> ?_);clear hK K;try simp only [Act.put,sZa,sZb,sZc]
        refine tZ 21 40 ?_;refine tZ 22 41 ?_;refine tZ 23 42 ?_;refine wpAnyH_done (by kernel_rfl) ?_ _;have HBZ:=hid hB5;have y2:=(hB5.cell (p:=⟨wr.heap.size,2,none⟩) z2).trans y2;have y3:=(hB5.cell (p:=⟨wr.heap.size,3,none⟩) z2).trans y3;obtain⟨kl,hkl⟩:=dotKey hwf.1 hwf.2;have HKL:=hid hkl;have HDM2:=HDM.out.below (HB02.out.trans (hB5.mono HB02.out.size));have hown:=HDM2.own;have hval:plainElem (H:=Value) Tryz.prog 3 (.int .i64 (k:Int))=some (.lit (.int .i64 (k:Int)),[]):=plainElem_int Tryz.underlying3 (wfI (by omega) (by omega));have hkl':keyOf Tryz.prog 63 (.agg #[.int .i64 r,.int .i64 q])=some kl:=hkl;have HD2:=hid HDM2;clear hHeld HCS HNO HDM2 hkl;go_wp2_with (refine wpList_mapUpdate_own _ rfl _ _ _ 130 rfl 63 3 dotKeyed Tryz.underlying130 (plainElem Tryz.prog 3) (w.heap.size) k D rfl hown (by unfold maxLen;omega) _ _ kl rfl rfl hkl' (.lit (.int .i64 (k:Int))) [] hval ?_;intro w6 hown6 hgr6);have HD6:=hid (HD2.out.step (by rw [HE.out];exact HKL.out) hown6);have hBX:=HB2.out.trans (HBZ.out.mono HB2.out.size);have HB6:=hid (hBX.grown hgr6 hBX.size (fun t e=>by injection e with e;omega));have HN:Hid (LvOk R F T n l (k+1)):=hid (HI.out.step (by rw [HE.out];exact yes_iff.1 HY1.out) (by rw [HE.out];exact HA.out) (fun h=>by rw [HE.out];exact HORD.out h));go_roundw;case rel=>exact⟨k+1,hlt,by go_num,HB6,⟨_,HD6⟩,HN⟩
        case measure=>simp [intOf];omega
   ·obtain rfl:k=l.length:=by omega
    have hown:=HDM.out.own;have HSZ:Hid (Y=((Maps.size D:Int)==(l.length:Int))):=hid (by
     rw [<- HY.out];by_cases e:Maps.size D=l.length
     ·rw [yes_t ⟨by omega,HI.out,fun i hi j hj=>HDM.out.eq.1 e i hi j hj⟩,e];simp
     ·rw [yes_f (fun h=>e (HDM.out.eq.2 (fun i hi j hj=>h.2.2 i hi j hj)))];symm;simp;omega)
    have HZ:=hid HBR.out;go_wp2_with (refine wpList_len_own _ rfl _ 130 rfl 63 3 Tryz.underlying130 _ _ _ _ rfl hown ?_);go_ret;exact⟨ret_b HSZ.out.symm,HZ.out⟩
end Go.Proofs.YtpfmeafmepgimaaGreat
