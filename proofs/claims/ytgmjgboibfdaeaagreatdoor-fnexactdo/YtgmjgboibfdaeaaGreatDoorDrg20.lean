import Derived.Test.YtgmjgboibfdaeaaGreatDoorDrg19
import Derived.LaidEql
import Derived.Stop.Asserts
import Derived.RowKitTokens
import Derived.Stop.LaidTwo
set_option linter.unusedVariables false
set_option linter.unusedSimpArgs false
set_option maxRecDepth 100000
set_option maxHeartbeats 40000000
namespace Go.Proofs.YtgmjgboibfdaeaaGreatDoor
open Go.ChangeShapes Go.WideShapes Go.ChangeAt Go.RowKit Go.Deep
variable {B b c c' cap d d' hi k lo lo' mid q r rb:Nat}{C:Int}{D S X Y:Sx}{a a' x x':Option Addr}{l:List Lf}{v0 v1 va vx:Value}{w w' w1 wr:World}
theorem Qff (id:Int)(g k g' k' lo mid hi c d c' d':Nat)(S S':Sx)(w:World)(hm:S.Sm)(hm':S'.Sm)(h:SNw w lo mid g k S)(h':SNw w mid hi g' k' S'):
  Cl 24 #[.agg #[.int .i64 id,.slice (some ⟨g,0,none⟩) S.l.length c,.slice (some ⟨k,0,none⟩) S.n d,.slice (some ⟨g',0,none⟩) S'.l.length c',.slice (some ⟨k',0,none⟩) S'.n d']] w fun e w'=>∃a y x j q z u r m2,e=.returned (.agg #[.int .i64 id,.slice a S.l.length y,.slice x S.n j,.slice q S'.l.length z,.slice u S'.n r])/\ SOw w' w.heap.size m2 a x j S/\ SOw w' m2 w'.heap.size q u r S'/\ Bl w w':=by
 obtain⟨W,i⟩:=zE ((w.alloc (.cells #[.int .i64 id,.slice (some ⟨g,0,none⟩) S.l.length c,.slice (some ⟨k,0,none⟩) S.n d,.slice (some ⟨g',0,none⟩) S'.l.length c',.slice (some ⟨k',0,none⟩) S'.n d'] 42)).alloc (.cells #[.int .i64 0,.slice none 0 0,.slice none 0 0,.slice none 0 0,.slice none 0 0] 42));have G:Bl w W:=by rw [<- i];exact Qae _ _ _
 have A:Bx5 W w.heap.size (.int .i64 id) (.slice (some ⟨g,0,none⟩) S.l.length c) (.slice (some ⟨k,0,none⟩) S.n d) (.slice (some ⟨g',0,none⟩) S'.l.length c') (.slice (some ⟨k',0,none⟩) S'.n d'):=by rw [<- i];exact(Bx5.new _ _ _ _ _ _ _).up _
 have U:Bx5 W (w.heap.size+1) (.int .i64 0) (.slice none 0 0) (.slice none 0 0) (.slice none 0 0) (.slice none 0 0):=by
  rw [<- i];have:=Bx5.new (w.alloc (.cells #[.int .i64 id,.slice (some ⟨g,0,none⟩) S.l.length c,.slice (some ⟨k,0,none⟩) S.n d,.slice (some ⟨g',0,none⟩) S'.l.length c',.slice (some ⟨k',0,none⟩) S'.n d'] 42)) (.int .i64 0) (.slice none 0 0) (.slice none 0 0) (.slice none 0 0) (.slice none 0 0) 42;simpa using this
 have J:=hid (fun w1(hb:Bl w w1)=>QdW g k lo mid c d S w1 hm (h.bw hb));have L:=hid (fun w1(hb:Bl w w1)=>QdW g' k' mid hi c' d' S' w1 hm' (h'.bw hb));have Y:=hid G;have p:=hid A;have E:=hid U;obtain⟨q0,q1,q2,q3,q4⟩:=A.q5;clear h h' G A U;go_enter Tryz.func24,Tryz.ntmps24;go_wp2_with fail;try rw [i]
 clear i;have b:Hid (∀w',Bl w w' ->Bx5 w' w.heap.size (.int .i64 id) (.slice (some ⟨g,0,none⟩) S.l.length c) (.slice (some ⟨k,0,none⟩) S.n d) (.slice (some ⟨g',0,none⟩) S'.l.length c') (.slice (some ⟨k',0,none⟩) S'.n d') ->(Bl w w'/\ w'.cell? ⟨w.heap.size,0,none⟩=some (.int .i64 id)/\ w'.cell? ⟨w.heap.size,1,none⟩=some (.slice (some ⟨g,0,none⟩) S.l.length c)/\ w'.cell? ⟨w.heap.size,2,none⟩=some (.slice (some ⟨k,0,none⟩) S.n d)/\ w'.cell? ⟨w.heap.size,3,none⟩=some (.slice (some ⟨g',0,none⟩) S'.l.length c')/\ w'.cell? ⟨w.heap.size,4,none⟩=some (.slice (some ⟨k',0,none⟩) S'.n d'))):=hid (fun w' hB X=>⟨hB,X.c0,X.c1,X.c2,X.c3,X.c4⟩);refine zB b Y.drew (p.bw zI.drew p.lt) (fun qh=> ?_);refine tZ 0 3 ?_;refine tZ 1 4 ?_;refine tZ 2 5 ?_;refine tZ 3 6 ?_;refine tZ 5 8 ?_;refine tZ 6 9 ?_;refine cZ 4 ?_;intro K m;go_simp;refine(J _ qh.1).mono ?_;rintro e w1 ⟨a,y,x,j,rfl,R,t⟩;have s:Bl W w1:=⟨t.os,t.tape,t.output,t.size,t.block⟩;have O:=Qaa Y s;have M:=p.bw s p.lt;have V:=E.bw s E.lt;have T:SOw w1 W.heap.size w1.heap.size a x j S:=R;refine m.out _ _ (b _ O M) (fun qh=> ?_);clear m K;try simp only [zP]
 refine cZ 7 ?_;intro K m;go_simp;refine(L _ O).mono ?_;rintro e H ⟨q,z,u,r,rfl,s2,o⟩;have Q:=Qaa O o;have Z:=M.bw o M.lt;have I:=V.bw o V.lt;have Ha:=T.bw o;refine m.out _ _ (b _ Q Z) (fun qh=> ?_);clear m K;try simp only [zP]
 refine tZ 8 11 ?_;obtain⟨N,B,C,D,F,ff⟩:=I.p5;refine cZ 9 ?_;intro K m;go_simp;have Hc:w.heap.size+1<W.heap.size:=E.lt;have Hb:W.heap.size<=w1.heap.size:=s.size;have P:w1.heap.size<=H.heap.size:=o.size;refine m.out _ _ (b _ ((((((Q.setCell (by simp) _).setCell (by simp) _).setCell (by simp) _).setCell (by simp) _).setCell (by simp) _)) (((((Z.setAt _ _ (by simp)).setAt _ _ (by simp)).setAt _ _ (by simp)).setAt _ _ (by simp)).setAt _ _ (by simp))) (fun qh=> ?_);clear m K;try simp only [zP]
 refine zD ?_;go_wp2_with fail;refine zF (v:=.agg #[.int .i64 id,.slice a S.l.length y,.slice x S.n j,.slice q S'.l.length z,.slice u S'.n r]) (by simp [results,Tryz.results24,go_sem,N,B,C,D,F]) ?_;first|refine⟨a,y,x,j,q,z,u,r,rfl,w1.heap.size,?_,?_,?_⟩|refine⟨a,y,x,j,q,z,u,r,w1.heap.size,rfl,?_,?_,?_⟩|refine⟨a,y,x,j,q,z,u,⟨r,rfl⟩,w1.heap.size,?_,?_,?_⟩
 ·refine SOw.wide (lo:=W.heap.size) (hi:=w1.heap.size) ?_ (by omega) zL (by simp [World.setCell];exact P);repeat (refine SOw.set ?_ _ _ (.inl (by simp;omega)))
  exact Ha
 ·refine SOw.wide (lo:=w1.heap.size) (hi:=H.heap.size) ?_ zL (by simp [World.setCell]) zL;repeat (refine SOw.set ?_ _ _ (.inl (by simp;omega)))
  exact s2
 ·repeat (refine Below.setCell ?_ (by simp) _)
  exact Q
structure L3 (w wr:World)(q cap k:Nat)(l:List Lf)(P Q:Nat ->Nat)(va vx:Value):Prop where
 low:Bl w wr
 ab:Bx2 wr w.heap.size va vx
 rb:Bx2 wr (w.heap.size+1) (.slice none 0 0) (.slice none 0 0)
 ob:Bx2 wr (w.heap.size+1+1+1+1) (.slice (some ⟨q,0,none⟩) k cap) (.slice (some ⟨w.heap.size+1+1+1,0,none⟩) 0 0)
 row:wr.ownsRow (w.heap.size+1+1) 106 5 (.slice (some ⟨q,0,none⟩) k cap) k ((List.range (k*5)).map (lCp l P Q))
 q1:q=w.heap.size+1+1 \/w.heap.size+5<=q
 rn:wr.ownsRow (w.heap.size+1+1+1) 124 3 (.slice (some ⟨w.heap.size+1+1+1,0,none⟩) 0 0) 0 []
 pt:∀i,i<k ->w.heap.size+5<=P i/\ P i<wr.heap.size/\ P i≠q/\ Wr wr (P i) 9 (gL l i).p.length (fun t=> .string (gS (gL l i).p t))
theorem L3.bw{P Q:Nat ->Nat}(h:L3 w wr q cap k l P Q va vx)(hb:Bl wr w'):L3 w w' q cap k l P Q va vx:=
 ⟨Qaa h.low hb,h.ab.bw hb h.ab.lt,h.rb.bw hb h.rb.lt,h.ob.bw hb h.ob.lt,Qa6 h.row fun g hg=>hb.block g (h.row.lt g hg).2,h.q1,Qa6 h.rn fun g hg=>hb.block g (h.rn.lt g hg).2,fun i hi=>by
  obtain⟨m,j,r,u⟩:=h.pt i hi;exact⟨m,Nat.lt_of_lt_of_le j hb.size,r,u.same (hb.block _ j)⟩⟩
theorem L3.step{P Q:Nat ->Nat}(h:L3 w wr q cap k l P Q va vx)(hb:Bl wr w1)(hk:k<=1048576)(p pc:Nat)(hp1:wr.heap.size<=p)(hp2:p<w1.heap.size)(hw:Wr w1 p 9 (gL l k).p.length (fun t=> .string (gS (gL l k).p t))):
  ∃y o j,(Builtin.append_ #[35,35] 35 #[.slice (some ⟨q,0,none⟩) k cap,.slice (some ⟨w1.heap.size,0,none⟩) 1 1]).run Tryz.prog (w1.alloc (.cells #[.slice (some ⟨p,0,none⟩) (gL l k).p.length pc,.bool (gL l k).fl,.int .i64 (gL l k).r,.int .i64 (gL l k).q,.string (gL l k).v] 106))=.ok (.slice (some ⟨y,0,none⟩) (k+1) o) j/\
   Bl w j/\ Bx2 j w.heap.size va vx/\ Bx2 j (w.heap.size+1+1+1+1) (.slice (some ⟨q,0,none⟩) k cap) (.slice (some ⟨w.heap.size+1+1+1,0,none⟩) 0 0)/\
   L3 w (j.setCell ⟨w.heap.size+1+1+1+1,0,none⟩ (.slice (some ⟨y,0,none⟩) (k+1) o)) y o (k+1) l (fun i=>if i=k then p else P i) (fun i=>if i=k then pc else Q i) va vx:=by
 obtain⟨i0,hi,T,W,Hb⟩:=info_parts QbY;have R:=h.bw hb;have E:Bl w1 (w1.alloc (.cells #[.slice (some ⟨p,0,none⟩) (gL l k).p.length pc,.bool (gL l k).fl,.int .i64 (gL l k).r,.int .i64 (gL l k).q,.string (gL l k).v] 106)):=zO _ _;have m:=R.bw E;have K:=hw.same (E.block p hp2);have I:=Qb5 w1 (.slice (some ⟨p,0,none⟩) (gL l k).p.length pc) (.bool (gL l k).fl) (.int .i64 (gL l k).r) (.int .i64 (gL l k).q) (.string (gL l k).v) 106;obtain⟨z,H⟩:=zE (w1.alloc (.cells #[.slice (some ⟨p,0,none⟩) (gL l k).p.length pc,.bool (gL l k).fl,.int .i64 (gL l k).r,.int .i64 (gL l k).q,.string (gL l k).v] 106));rw [H] at m K I E ⊢;have hz:w1.heap.size<z.heap.size:=by rw [<- H];simp
 have He:=h.ob.lt;have Ha:=hb.size;obtain⟨v',j,J,M,D,F,s⟩:=run_append_own_at (P:=Tryz.prog) z (w.heap.size+1+1) 35 35 106 i0 _ 5 64 Tryz.underlying35 hi T W Hb rfl (by decide) (.slice (some ⟨q,0,none⟩) k cap) k _ m.row ⟨w1.heap.size,0,none⟩ 1 1 [.slice (some ⟨p,0,none⟩) (gL l k).p.length pc,.bool (gL l k).fl,.int .i64 (gL l k).r,.int .i64 (gL l k).q,.string (gL l k).v] rfl I (fun u hu=>by
  simp only [List.mem_cons,List.not_mem_nil,or_false] at hu;rcases hu with e|e|e|e|e<;>rw [e]<;>rfl) (by unfold maxLen;omega) (by omega) (by omega)
 rcases M.2 with ⟨V,_⟩|⟨y,o,Hc,V,r⟩
 ·have:=F.1 V;exact absurd this.1 (by simp)
 rw [V] at J M s;have S:j.ownsRow (w.heap.size+1+1) 106 5 (.slice (some ⟨y,0,none⟩) (k+1) o) (k+1) ((List.range ((k+1)*5)).map (lCp l (fun i=>if i=k then p else P i) (fun i=>if i=k then pc else Q i))):=by rw [QgS];exact M
 have Hg:y=q \/y=z.heap.size:=by
  rcases s with s|s
  ·exact .inl (by simpa [Value.ownBlock] using s)
  ·exact .inr (by simpa [Value.ownBlock] using s)
 have U:z.grownBy j (some q):=D;have Hf:=h.q1;have A:∀b,b<z.heap.size ->b≠q ->j.heap[b]? =z.heap[b]? :=fun b hb1 hb2=>U.block b hb1 (fun e=>hb2 (by injection e));have Hh:=U.size;have O:∀{b:Nat} {u0 u1:Value},Bx2 z b u0 u1 ->b≠q ->Bx2 j b u0 u1:=fun{b u0 u1} hB hne=>⟨(World.cell?_of_block (a:=⟨b,0,none⟩) (A b hB.lt hne)).trans hB.c0,(World.cell?_of_block (a:=⟨b,1,none⟩) (A b hB.lt hne)).trans hB.c1,fun i=>(World.frozen?_of_block (a:=⟨b,i,none⟩) (A b hB.lt hne)).trans (hB.f i),by have:=hB.lt;omega⟩;have Y:=O m.ab (by omega);have N:=O m.rb (by omega);have Z:=O m.ob (by omega);have L:Bl w j:=m.low.grown U m.low.size (fun k e=>by injection e with e;omega);refine⟨y,o,j,J,L,Y,Z,L.setCell (by simp;omega) _,Y.setAt _ _ (by simp;omega),N.setAt _ _ (by simp;omega),Z.set0 _,Qbr S _ _ (by simp;omega),by omega,?_,fun i hi=> ?_⟩
 ·exact Qbr (Qa6 m.rn fun g hg=>by
   have G:w.heap.size+1+1+1=g:=by simpa [Value.ownBlock] using hg
   exact A g (m.rn.lt g hg).2 (by omega)) _ _ (by simp)
 ·by_cases e:i=k
  ·subst e;simp only [if_pos];exact⟨by omega,by simp [World.setCell];omega,by have:=h.row.lt q rfl;omega,(K.same (A p (by omega) (by have:=(h.row.lt q rfl).2;omega))).same (zH _ _ _ _ (by simp;omega))⟩
  ·simp only [if_neg e];obtain⟨G,X,B,C⟩:=m.pt i (by omega);have Hd:=(h.pt i (by omega)).2.1;exact⟨G,by simp [World.setCell];omega,by omega,(C.same (A _ X B)).same (zH _ _ _ _ (by simp;omega))⟩
theorem Bx2.up(h:Bx2 w b v0 v1)(o:Obj):Bx2 (w.alloc o) b v0 v1:=h.bw (zO w o) h.lt
theorem Qgp{e size n:Nat}{v:Value}{xs:List Value}(h:w.ownsRow B e size v n xs)(o:Obj):(w.alloc o).ownsRow B e size v n xs:=
 Qa6 h fun g hg=>(zO w o).block g (h.lt g hg).2
theorem L3.start (w:World)(l:List Lf)(va vx:Value)(P Q:Nat ->Nat):
  L3 w (((((w.alloc (.cells #[va,vx] 40)).alloc (.cells #[.slice none 0 0,.slice none 0 0] 40)).alloc (.cells #[] 106)).alloc (.cells #[] 124)).alloc (.cells #[.slice (some ⟨w.heap.size+1+1,0,none⟩) 0 0,.slice (some ⟨w.heap.size+1+1+1,0,none⟩) 0 0] 40)) (w.heap.size+1+1) 0 0 l P Q va vx:=by
 obtain⟨w1,v⟩:=zE (w.alloc (.cells #[va,vx] 40));have y:w1.heap.size=w.heap.size+1:=by rw [<- v];simp
 have g:Bx2 w1 w.heap.size va vx:=by rw [<- v];exact Bx2.made _ _ _ _
 have U:Bl w w1:=by rw [<- v];exact zO _ _
 rw [v];obtain⟨m,u⟩:=zE (w1.alloc (.cells #[.slice none 0 0,.slice none 0 0] 40));have z:m.heap.size=w.heap.size+1+1:=by rw [<- u];simp [y]
 have t:Bx2 m w.heap.size va vx:=by rw [<- u];exact g.up _
 have E:Bx2 m (w.heap.size+1) (.slice none 0 0) (.slice none 0 0):=by rw [<- u,<- y];exact Bx2.made _ _ _ _
 have V:Bl w m:=by rw [<- u];exact U.alloc (by omega) _
 rw [u];obtain⟨j,q⟩:=zE (m.alloc (.cells #[] 106));have h:j.heap.size=w.heap.size+1+1+1:=by rw [<- q];simp [z]
 have o:Bx2 j w.heap.size va vx:=by rw [<- q];exact t.up _
 have M:Bx2 j (w.heap.size+1) (.slice none 0 0) (.slice none 0 0):=by rw [<- q];exact E.up _
 have Y:Bl w j:=by rw [<- q];exact V.alloc (by omega) _
 have s:j.ownsRow (w.heap.size+1+1) 106 5 (.slice (some ⟨w.heap.size+1+1,0,none⟩) 0 0) 0 []:=by
  rw [<- q,<- z];have:=World.ownsRow_lit (base:=m.heap.size) (e:=106) (size:=5) m #[] 0 zL (by unfold maxLen;omega) rfl;simpa using this
 rw [q];obtain⟨r,k⟩:=zE (j.alloc (.cells #[] 124));have G:r.heap.size=w.heap.size+1+1+1+1:=by rw [<- k];simp [h]
 have b:Bx2 r w.heap.size va vx:=by rw [<- k];exact o.up _
 have O:Bx2 r (w.heap.size+1) (.slice none 0 0) (.slice none 0 0):=by rw [<- k];exact M.up _
 have Z:Bl w r:=by rw [<- k];exact Y.alloc (by omega) _
 have A:r.ownsRow (w.heap.size+1+1) 106 5 (.slice (some ⟨w.heap.size+1+1,0,none⟩) 0 0) 0 []:=by rw [<- k];exact Qgp s _
 have p:r.ownsRow (w.heap.size+1+1+1) 124 3 (.slice (some ⟨w.heap.size+1+1+1,0,none⟩) 0 0) 0 []:=by
  rw [<- k,<- h];have:=World.ownsRow_lit (base:=j.heap.size) (e:=124) (size:=3) j #[] 0 zL (by unfold maxLen;omega) rfl;simpa using this
 rw [k];refine⟨Z.alloc (by omega) _,b.up _,O.up _,?_,?_,.inl rfl,Qgp p _,fun i hi=>by omega⟩
 ·rw [<- G];exact Bx2.made _ _ _ _
 ·exact Qgp A _
theorem L3.seg{P Q:Nat ->Nat}(h:L3 w wr q cap l.length l P Q va vx)(hs:wr.heap.size<=w'.heap.size)(hq:∀b,b<wr.heap.size ->(b=q \/w.heap.size+5<=b) ->w'.heap[b]? =wr.heap[b]?):QbD w' (some ⟨q,0,none⟩) l:=by
 have m:=QbR h.row;have A:=hq q m.lt (.inl rfl);have j:=m.same A;refine .inr ⟨q,0,rfl,j.lt,fun i hi=> ?_⟩;obtain⟨r,u,v,y,z⟩:=QnH l P Q i;obtain⟨g,o,M,s⟩:=h.pt i hi;have k:=s.same (hq (P i) o (.inr g));refine⟨some ⟨P i,0,none⟩,Q i,?_,?_,?_,?_,?_,?_⟩
 ·rw [Nat.zero_add,j.cell (by omega),r]
 ·by_cases E:(gL l i).p.length=0
  ·exact .inl E
  ·exact .inr ⟨P i,0,rfl,k.lt,fun t ht=>by rw [Nat.zero_add];exact k.cell ht⟩
 ·rw [Nat.zero_add,j.cell (by omega),u]
 ·rw [Nat.zero_add,j.cell (by omega),v]
 ·rw [Nat.zero_add,j.cell (by omega),y]
 ·rw [Nat.zero_add,j.cell (by omega),z]
def SNu (w:World)(lo:Nat)(a x:Option Addr)(S:Sx):Prop:=∀w':World,w.heap.size<=w'.heap.size ->(∀q,lo<=q ->q<w.heap.size ->w'.heap[q]? =w.heap[q]?) ->SAt w' a x S
theorem SNu.move(h:SNu w lo a x S)(hl:lo'<=lo)(hs:w.heap.size<=w1.heap.size)(hq:∀q,lo<=q ->q<w.heap.size ->w1.heap[q]? =w.heap[q]?):SNu w1 lo' a x S:=
 fun w' h1 h2=>h w' (Nat.le_trans hs h1) (fun q h3 h4=>(h2 q (Nat.le_trans hl h3) (Nat.lt_of_lt_of_le h4 hs)).trans (hq q h3 h4))
theorem SNu.bw(h:SNu w lo a x S)(hb:Bl w w1):SNu w1 lo a x S:=h.move zL hb.size (fun q _ h2=>hb.block q h2)
theorem SNu.set(h:SNu w lo a x S)(q:Addr)(u:Value)(hq:q.block<lo):SNu (w.setCell q u) lo a x S:=h.move zL (by simp [World.setCell]) (fun p h1 h2=>zH _ _ _ _ (by omega))
theorem Qi0 (g k lo hi c d:Nat)(S:Sx)(w:World)(hm:S.Sm)(h:SNw w lo hi g k S):
  Cl 34 #[.agg #[.slice (some ⟨g,0,none⟩) S.l.length c,.slice (some ⟨k,0,none⟩) S.n d]] w fun e w'=>∃a c' x d',e=.returned (.agg #[.slice a S.l.length c',.slice x S.n d'])/\ SNu w' w.heap.size a x S/\ Bl w w':=by
 obtain⟨A,hA⟩:=h.bl;have HA:=hid hA;have H0:=hid h.rn;have H9:k<w.heap.size:=Nat.lt_of_lt_of_le h.k2 h.hl;have H8:=hA.g1;have H4:=hm.l1;have Hy:=hid hm.p1;have Hp:=hid (L3.start w S.l (.slice (some ⟨g,0,none⟩) S.l.length c) (.slice (some ⟨k,0,none⟩) S.n d) (fun _=>0) (fun _=>0));clear h hA;go_enter Tryz.func34,Tryz.ntmps34;go_wp2_with fail;go_loopw [4] (fun i wr=>∃(j:Nat),j<=S.l.length/\ i=.int .i64 (j:Int)/\ Hid (∃q Hd P Q,L3 w wr q Hd j S.l P Q (.slice (some ⟨g,0,none⟩) S.l.length c) (.slice (some ⟨k,0,none⟩) S.n d))) (fun i _=>S.l.length - (intOf i).toNat);case atStart=>exact⟨0,Nat.zero_le _,rfl,hid ⟨_,_,_,_,Hp⟩⟩
 case round=>
  clear Hp;obtain⟨j,hj,rfl,HI⟩:=hrel;obtain⟨q,Hd,P,Q,hL⟩:=HI.out;have z:=hid hL;obtain⟨a0,a1⟩:=hL.ab.q2;obtain⟨o0,o1⟩:=hL.ob.q2;clear hL HI;by_cases Hg:j<S.l.length
  ·have i1:(0:Int)<=(j:Int):=Int.natCast_nonneg _;have i2:(j:Int)<(S.l.length:Int):=by omega
   have He:LBl wr g S.l A:=HA.bw z.low;obtain⟨d0,d1,d2,d3,d4⟩:=Qk1 S.l A j;have u:=He.cel (j*5) (by omega);have X:=He.cel (j*5+1) (by omega);have W:=He.cel (j*5+2) (by omega);have c3:=He.cel (j*5+3) (by omega);have c4:=He.cel (j*5+4) (by omega);rw [d0] at u;rw [d1] at X;rw [d2] at W;rw [d3] at c3;rw [d4] at c4;have H:Hid (∀w1,Bl wr w1 ->Cl 60 #[.agg #[.slice (some ⟨A j,0,none⟩) (gL S.l j).p.length (gL S.l j).p.length,.bool (gL S.l j).fl,.int .i64 (gL S.l j).r,.int .i64 (gL S.l j).q,.string (gL S.l j).v]] w1 fun e w'=>∃p pc,e=.returned (.agg #[.slice (some ⟨p,0,none⟩) (gL S.l j).p.length pc,.bool (gL S.l j).fl,.int .i64 (gL S.l j).r,.int .i64 (gL S.l j).q,.string (gL S.l j).v])/\ Bl w1 w'/\ w1.heap.size<=p/\ p<w'.heap.size/\ Wr w' p 9 (gL S.l j).p.length (fun t=> .string (gS (gL S.l j).p t))):=hid (fun w1 hb=>by
    have Hq:=He.bw hb;exact Ql2 (A j) (gL S.l j).p.length (gL S.l j).p.length (gL S.l j) w1 rfl (Hy j) (Hq.a1 j Hg) (Hq.str j Hg))
   have L:Hid (∀w1 p pc,Bl wr w1 ->wr.heap.size<=p ->p<w1.heap.size ->Wr w1 p 9 (gL S.l j).p.length (fun t=> .string (gS (gL S.l j).p t)) ->∃q' Ha J,(Builtin.append_ #[35,35] 35 #[.slice (some ⟨q,0,none⟩) j Hd,.slice (some ⟨w1.heap.size,0,none⟩) 1 1]).run Tryz.prog (w1.alloc (.cells #[.slice (some ⟨p,0,none⟩) (gL S.l j).p.length pc,.bool (gL S.l j).fl,.int .i64 (gL S.l j).r,.int .i64 (gL S.l j).q,.string (gL S.l j).v] 106))=.ok (.slice (some ⟨q',0,none⟩) (j+1) Ha) J/\
    Bl w J/\ Bx2 J w.heap.size (.slice (some ⟨g,0,none⟩) S.l.length c) (.slice (some ⟨k,0,none⟩) S.n d)/\ Bx2 J (w.heap.size+1+1+1+1) (.slice (some ⟨q,0,none⟩) j Hd) (.slice (some ⟨w.heap.size+1+1+1,0,none⟩) 0 0)/\
    ∃q Hd P Q,L3 w (J.setCell ⟨w.heap.size+1+1+1+1,0,none⟩ (.slice (some ⟨q',0,none⟩) (j+1) Ha)) q Hd (j+1) S.l P Q (.slice (some ⟨g,0,none⟩) S.l.length c) (.slice (some ⟨k,0,none⟩) S.n d)):=hid (fun w1 p pc hb h1 h2 h3=>by
    obtain⟨q',Ha,J,e1,e2,e3,e4,e5⟩:=z.step hb (by omega) p pc h1 h2 h3;exact⟨q',Ha,J,e1,e2,e3,e4,_,_,_,_,e5⟩)
   obtain⟨y,hy⟩:=zE (gL S.l j);rw [hy] at u X W c3 c4 H L;obtain⟨yp,yf,yr,yq,yv⟩:=y;dsimp only at u X W c3 c4 H L;obtain⟨np,Hl⟩:=zE yp.length;rw [Hl] at u H L;obtain⟨Aj,Hj⟩:=zE (A j);rw [Hj] at u H;have HC:Hid (∀w',Bl w w' ->w'.cell? ⟨g,j*5,none⟩=some (.slice (some ⟨Aj,0,none⟩) np np)/\ w'.cell? ⟨g,j*5+1,none⟩=some (.bool yf)/\ w'.cell? ⟨g,j*5+2,none⟩=some (.int .i64 yr)/\ w'.cell? ⟨g,j*5+3,none⟩=some (.int .i64 yq)/\ w'.cell? ⟨g,j*5+4,none⟩=some (.string yv)):=hid (fun w' hb'=>by
    have E:=HA.bw hb';have e:=Qk1 S.l A j;rw [hy,Hj] at e;dsimp only at e;rw [Hl] at e;exact⟨(E.cel _ (by omega)).trans (by rw [e.1]),(E.cel _ (by omega)).trans (by rw [e.2.1]),(E.cel _ (by omega)).trans (by rw [e.2.2.1]),(E.cel _ (by omega)).trans (by rw [e.2.2.2.1]),(E.cel _ (by omega)).trans (by rw [e.2.2.2.2])⟩)
   clear hy Hl Hj d0 d1 d2 d3 d4 He;go_wp2_with fail;have s:Hid (∀w',Bl w w' ->w'.cell? ⟨w.heap.size,0,none⟩=some (.slice (some ⟨g,0,none⟩) S.l.length c) ->(Bl w w'/\ w'.cell? ⟨w.heap.size,0,none⟩=some (.slice (some ⟨g,0,none⟩) S.l.length c)/\ w'.cell? ⟨g,j*5,none⟩=some (.slice (some ⟨Aj,0,none⟩) np np)/\ w'.cell? ⟨g,j*5+1,none⟩=some (.bool yf)/\ w'.cell? ⟨g,j*5+2,none⟩=some (.int .i64 yr)/\ w'.cell? ⟨g,j*5+3,none⟩=some (.int .i64 yq)/\ w'.cell? ⟨g,j*5+4,none⟩=some (.string yv))):=hid (fun w' E h0=>⟨E,h0,HC w' E⟩);refine zB s z.low.drew (z.ab.bw zI.drew z.ab.lt).c0 (fun qh=> ?_);clear u X W c3 c4;refine tZ 0 16 ?_;refine tZ 2 18 ?_;refine tZ 3 19 ?_;refine tZ 4 20 ?_;refine tZ 5 21 ?_;refine tZ 6 22 ?_;refine Qa0 (i:=1) (j:=7) (d:=some 17) (d':=some 23) (by kernel_rfl) (by kernel_rfl) (by kernel_rfl) ?_ ?_
   ·
    intro o Y Hm K m;simp only [gZa,gZb,gZc,gZd] at Y;subst Y;go_simp;refine m.out _ _ (s _ z.low.drew (z.ab.bw zI.drew z.ab.lt).c0) (fun qh=> ?_);clear m K;try simp only [zP]
    refine cZ 7 ?_;intro K m;go_simp;refine(H _ zI.drew).mono ?_;rintro e w1 ⟨p,pc,rfl,M,p1,B,Hf⟩;have N:Bl wr w1:=⟨M.os,M.tape,M.output,M.size,M.block⟩;have O:=z.bw N;have U:=O.bw (zO w1 (.cells #[.slice (some ⟨p,0,none⟩) np pc,.bool yf,.int .i64 yr,.int .i64 yq,.string yv] 106));obtain⟨q',Ha,J,G,l3,C,Z,h5⟩:=L w1 p pc N p1 B Hf;have D:=hid h5;refine m.out _ _ (s _ O.low O.ab.c0) (fun qh=> ?_);clear m K;try simp only [zP]
    refine cZ 8 ?_;intro K m;go_simp;refine m.out _ _ (s _ U.low U.ab.c0) (fun qh=> ?_);clear m K;try simp only [zP]
    refine cZ 9 ?_;intro K m;refine QaP _ _ _ _ rfl G (by rfl) (by rfl) rfl ?_;refine m.out _ _ (s _ l3 C.c0) (fun qh=> ?_);clear m K;try simp only [zP]
    refine tZ 10 26 ?_;have I:=Z.c0;have tf:=Z.f;refine cZ 11 ?_;intro K m;go_simp;obtain⟨_,_,_,_,V⟩:=D.out;refine m.out _ _ (s _ V.low V.ab.c0) (fun qh=> ?_);clear m K;try simp only [zP]
    refine zD ?_;clear qh M N O U G l3 C Z h5 V I tf Hf p1 B L H HC s;go_wp2_with fail;go_roundw;case rel=>exact⟨j+1,Hg,by go_num,D⟩
    case measure=>simp [intOf];omega
   ·
    intro o Y Hm K m;simp only [gZa,gZb,gZc,gZd] at Y;subst Y;go_simp;refine(H _ zI.drew).mono ?_;rintro e w1 ⟨p,pc,rfl,M,p1,B,Hf⟩;have N:Bl wr w1:=⟨M.os,M.tape,M.output,M.size,M.block⟩;have O:=z.bw N;have U:=O.bw (zO w1 (.cells #[.slice (some ⟨p,0,none⟩) np pc,.bool yf,.int .i64 yr,.int .i64 yq,.string yv] 106));obtain⟨q',Ha,J,G,l3,C,Z,h5⟩:=L w1 p pc N p1 B Hf;have D:=hid h5;refine m.out _ _ (s _ O.low O.ab.c0) (fun qh=> ?_);clear m K;try simp only [zP]
    refine Qa0 (i:=1) (j:=8) (d:=some 17) (d':=some 24) (by kernel_rfl) (by kernel_rfl) (by kernel_rfl) ?_ ?_
    ·
     have I:=O.ob.c0;intro o Y Hm K m;simp only [gZa,gZb,gZc,gZd] at Y;subst Y;go_simp;refine m.out _ _ (s _ O.low O.ab.c0) (fun qh=> ?_);clear m K;try simp only [zP]
     clear I;refine cZ 8 ?_;intro K m;go_simp;refine m.out _ _ (s _ U.low U.ab.c0) (fun qh=> ?_);clear m K;try simp only [zP]
     refine cZ 9 ?_;intro K m;refine QaP _ _ _ _ rfl G (by rfl) (by rfl) rfl ?_;refine m.out _ _ (s _ l3 C.c0) (fun qh=> ?_);clear m K;try simp only [zP]
     refine tZ 10 26 ?_;have I:=Z.c0;have tf:=Z.f;refine cZ 11 ?_;intro K m;go_simp;obtain⟨_,_,_,_,V⟩:=D.out;refine m.out _ _ (s _ V.low V.ab.c0) (fun qh=> ?_);clear m K;try simp only [zP]
     refine zD ?_;clear qh M N O U G l3 C Z h5 V I tf Hf p1 B L H HC s;go_wp2_with fail;go_roundw;case rel=>exact⟨j+1,Hg,by go_num,D⟩
     case measure=>simp [intOf];omega
    ·
     intro o Y Hm K m;simp only [gZa,gZb,gZc,gZd] at Y;subst Y;go_simp;refine m.out _ _ (s _ U.low U.ab.c0) (fun qh=> ?_);clear m K;try simp only [zP]
     have I:=U.ob.c0;refine cZ 1 ?_;intro K m;go_simp;refine m.out _ _ (s _ U.low U.ab.c0) (fun qh=> ?_);clear m K;try simp only [zP]
     clear I;refine cZ 9 ?_;intro K m;refine QaP _ _ _ _ rfl G (by rfl) (by rfl) rfl ?_;refine m.out _ _ (s _ l3 C.c0) (fun qh=> ?_);clear m K;try simp only [zP]
     refine tZ 10 26 ?_;have I:=Z.c0;have tf:=Z.f;refine cZ 11 ?_;intro K m;go_simp;obtain⟨_,_,_,_,V⟩:=D.out;refine m.out _ _ (s _ V.low V.ab.c0) (fun qh=> ?_);clear m K;try simp only [zP]
     refine zD ?_;clear qh M N O U G l3 C Z h5 V I tf Hf p1 B L H HC s;go_wp2_with fail;go_roundw;case rel=>exact⟨j+1,Hg,by go_num,D⟩
     case measure=>simp [intOf];omega
  ·obtain rfl:j=S.l.length:=by omega
   obtain⟨i0,H2,H5,H6,H7⟩:=info_parts Tryz.infoRun;have Hr:Qa7 wr (some ⟨k,0,none⟩) S.n S.R S.F S.T:=H0.bw z.low;have Ga:=z.ob.lt;obtain⟨q2,Hi,w5,G,Hs,Hc,Hn⟩:=Qdg 36 124 i0 _ 3 24 Tryz.underlying36 H2 H5 H6 H7 rfl (by decide) (by omega) (w.heap.size+1+1+1) k 0 S.n d (fun j=>if j%3=0 then .int .i64 (S.R (j/3)) else if j%3=1 then .int .i64 (S.F (j/3)) else .int .i64 (S.T (j/3))) wr (w.heap.size+1+1+1) hm.n1 z.rn (by omega) (fun j hj=>by
    obtain⟨b,Hu,e,_,u,X,W⟩:=Hr.at (k:=j/3) (by omega);have e1:k=b:=congrArg Addr.block (Option.some.inj e);have e2:0=Hu:=congrArg Addr.off (Option.some.inj e);rw [<- e1,<- e2] at u X W;by_cases m0:j%3=0
    ·rw [if_pos m0];rw [show 0+j=0+j/3*3 by omega];exact u
    ·by_cases m1:j%3=1
     ·rw [if_neg m0,if_pos m1];rw [show 0+j=0+j/3*3+1 by omega];exact X
     ·rw [if_neg m0,if_neg m1];rw [show 0+j=0+j/3*3+2 by omega];exact W) (fun j _=>by split;rfl;split<;>rfl)
   have Hb:∀b,b<wr.heap.size ->b≠w.heap.size+1+1+1 ->w5.heap[b]? =wr.heap[b]? :=fun b hb1 hb2=>Hc.block b hb1 (fun e=>hb2 (by injection e));have Hk:∀{b:Nat} {u0 u1:Value},Bx2 wr b u0 u1 ->b≠w.heap.size+1+1+1 ->Bx2 w5 b u0 u1:=fun{b u0 u1} E hne=>⟨(World.cell?_of_block (a:=⟨b,0,none⟩) (Hb b E.lt hne)).trans E.c0,(World.cell?_of_block (a:=⟨b,1,none⟩) (Hb b E.lt hne)).trans E.c1,fun i=>(World.frozen?_of_block (a:=⟨b,i,none⟩) (Hb b E.lt hne)).trans (E.f i),by have:=E.lt;have:=Hc.size;omega⟩;have O5:=Hk z.ob (by omega);have R5:=Hk z.rb (by omega);obtain⟨b0,M,bf⟩:=O5.p2;obtain⟨r0,r1,rf⟩:=R5.p2;have Hv:=hid Hb;have Hx:=hid Hs;have Hw:=hid Hc;have Hz:=hid Hn;have H1:Hid (wr.heap.size<=w5.heap.size):=hid Hc.size;clear Hs Hc Hn Hb Hk O5 R5 Hr;go_wp2_with (at_builtin;refine Qab rfl _ _ _ _ rfl G (by rfl) (by rfl) rfl ?_;clear G);have Gd:=H1.out;have Hn:=Hz.out;have Gb:=z.q1;have Hh:∀(v0 v1 v2:Value) (b:Nat),b<wr.heap.size ->(b=q \/w.heap.size+5<=b) ->(((w5.setCell ⟨w.heap.size+1+1+1+1,1,none⟩ v0).setCell ⟨w.heap.size+1,0,none⟩ v1).setCell ⟨w.heap.size+1,1,none⟩ v2).heap[b]? =wr.heap[b]? :=fun v0 v1 v2 b h1 h2=>by
    rw [zH _ _ _ _ (by simp;omega),zH _ _ _ _ (by simp;omega),zH _ _ _ _ (by simp;omega)];exact Hv b h1 (by omega)
   have Ho:Bl w w5:=z.low.grown Hw z.low.size (fun k e=>by injection e with e;omega);refine zF (v:=.agg #[.slice (some ⟨q,0,none⟩) S.l.length Hd,.slice (some ⟨q2,0,none⟩) S.n Hi]) (by simp [results,Tryz.results34,go_sem,r0,r1]) ⟨_,_,_,_,rfl,fun w'' hs hq=>⟨?_,?_⟩,?_⟩
   ·have Gc:w5.heap.size<=w''.heap.size:=by simpa [World.setCell] using hs
    exact z.seg (by omega) (fun b h1 h2=>(hq b (by omega) (by simp [World.setCell];omega)).trans (Hh _ _ _ b h1 h2))
   ·have Ht:=QbR Hx;have H3:=Ht.lt;refine Qng (Ht.same ((hq q2 (by omega) (by simp [World.setCell];exact H3)).trans ?_));rw [zH _ _ _ _ (by simp;omega),zH _ _ _ _ (by simp;omega),zH _ _ _ _ (by simp;omega)]
   ·exact((Ho.setCell (by simp;omega) _).setCell (by simp) _).setCell (by simp) _
theorem Ql8 (id:Int)(g k g' k' lo mid hi c d c' d':Nat)(S S':Sx)(w:World)(hm:S.Sm)(hm':S'.Sm)(h:SNw w lo mid g k S)(h':SNw w mid hi g' k' S'):
  Cl 18 #[.agg #[.int .i64 id,.slice (some ⟨g,0,none⟩) S.l.length c,.slice (some ⟨k,0,none⟩) S.n d,.slice (some ⟨g',0,none⟩) S'.l.length c',.slice (some ⟨k',0,none⟩) S'.n d']] w fun e w'=>∃a y x t m z q o,e=.returned (.agg #[.int .i64 id,.slice a S.l.length y,.slice x S.n t,.slice m S'.l.length z,.slice q S'.n o])/\ SNu w' w.heap.size a x S/\ SNu w' w.heap.size m q S'/\ Bl w w':=by
 obtain⟨W,i⟩:=zE ((w.alloc (.cells #[.int .i64 id,.slice (some ⟨g,0,none⟩) S.l.length c,.slice (some ⟨k,0,none⟩) S.n d,.slice (some ⟨g',0,none⟩) S'.l.length c',.slice (some ⟨k',0,none⟩) S'.n d'] 42)).alloc (.cells #[.int .i64 0,.slice none 0 0,.slice none 0 0,.slice none 0 0,.slice none 0 0] 42));have G:Bl w W:=by rw [<- i];exact Qae _ _ _
 have A:Bx5 W w.heap.size (.int .i64 id) (.slice (some ⟨g,0,none⟩) S.l.length c) (.slice (some ⟨k,0,none⟩) S.n d) (.slice (some ⟨g',0,none⟩) S'.l.length c') (.slice (some ⟨k',0,none⟩) S'.n d'):=by rw [<- i];exact(Bx5.new _ _ _ _ _ _ _).up _
 have U:Bx5 W (w.heap.size+1) (.int .i64 0) (.slice none 0 0) (.slice none 0 0) (.slice none 0 0) (.slice none 0 0):=by
  rw [<- i];have:=Bx5.new (w.alloc (.cells #[.int .i64 id,.slice (some ⟨g,0,none⟩) S.l.length c,.slice (some ⟨k,0,none⟩) S.n d,.slice (some ⟨g',0,none⟩) S'.l.length c',.slice (some ⟨k',0,none⟩) S'.n d'] 42)) (.int .i64 0) (.slice none 0 0) (.slice none 0 0) (.slice none 0 0) (.slice none 0 0) 42;simpa using this
 have I:=hid (fun w1(hb:Bl w w1)=>Qi0 g k lo mid c d S w1 hm (h.bw hb));have J:=hid (fun w1(hb:Bl w w1)=>Qi0 g' k' mid hi c' d' S' w1 hm' (h'.bw hb));have Y:=hid G;have p:=hid A;have E:=hid U;obtain⟨q0,q1,q2,q3,q4⟩:=A.q5;clear h h' G A U;go_enter Tryz.func18,Tryz.ntmps18;go_wp2_with fail;try rw [i]
 clear i;have b:Hid (∀w',Bl w w' ->Bx5 w' w.heap.size (.int .i64 id) (.slice (some ⟨g,0,none⟩) S.l.length c) (.slice (some ⟨k,0,none⟩) S.n d) (.slice (some ⟨g',0,none⟩) S'.l.length c') (.slice (some ⟨k',0,none⟩) S'.n d') ->(Bl w w'/\ w'.cell? ⟨w.heap.size,0,none⟩=some (.int .i64 id)/\ w'.cell? ⟨w.heap.size,1,none⟩=some (.slice (some ⟨g,0,none⟩) S.l.length c)/\ w'.cell? ⟨w.heap.size,2,none⟩=some (.slice (some ⟨k,0,none⟩) S.n d)/\ w'.cell? ⟨w.heap.size,3,none⟩=some (.slice (some ⟨g',0,none⟩) S'.l.length c')/\ w'.cell? ⟨w.heap.size,4,none⟩=some (.slice (some ⟨k',0,none⟩) S'.n d'))):=hid (fun w' hB X=>⟨hB,X.c0,X.c1,X.c2,X.c3,X.c4⟩);refine zB b Y.drew (p.bw zI.drew p.lt) (fun qh=> ?_);refine tZ 0 3 ?_;refine tZ 1 4 ?_;refine tZ 2 5 ?_;refine tZ 3 6 ?_;refine tZ 5 8 ?_;refine tZ 6 9 ?_;refine cZ 4 ?_;intro K j;go_simp;refine(I _ qh.1).mono ?_;rintro e w1 ⟨a,y,x,t,rfl,F,r⟩;have s:Bl W w1:=⟨r.os,r.tape,r.output,r.size,r.block⟩;have O:=Qaa Y s;have M:=p.bw s p.lt;have V:=E.bw s E.lt;have P:SNu w1 W.heap.size a x S:=F;refine j.out _ _ (b _ O M) (fun qh=> ?_);clear j K;try simp only [zP]
 refine cZ 7 ?_;intro K j;go_simp;refine(J _ O).mono ?_;rintro e w2 ⟨m,z,q,o,rfl,T,u⟩;have Q:=Qaa O u;have Z:=M.bw u M.lt;have H:=V.bw u V.lt;have R:=P.bw u;refine j.out _ _ (b _ Q Z) (fun qh=> ?_);clear j K;try simp only [zP]
 refine tZ 8 11 ?_;obtain⟨L,N,B,C,D,ff⟩:=H.p5;refine cZ 9 ?_;intro K j;go_simp;have Hc:w.heap.size+1<W.heap.size:=E.lt;have Ha:W.heap.size<=w1.heap.size:=s.size;have Hb:w1.heap.size<=w2.heap.size:=u.size;refine j.out _ _ (b _ ((((((Q.setCell (by simp) _).setCell (by simp) _).setCell (by simp) _).setCell (by simp) _).setCell (by simp) _)) (((((Z.setAt _ _ (by simp)).setAt _ _ (by simp)).setAt _ _ (by simp)).setAt _ _ (by simp)).setAt _ _ (by simp))) (fun qh=> ?_);clear j K;try simp only [zP]
 refine zD ?_;go_wp2_with fail;refine zF (v:=.agg #[.int .i64 id,.slice a S.l.length y,.slice x S.n t,.slice m S'.l.length z,.slice q S'.n o]) (by simp [results,Tryz.results18,go_sem,L,N,B,C,D]) ?_;first|refine⟨a,y,x,t,m,z,q,⟨o,rfl⟩,?_,?_,?_⟩|refine⟨a,y,x,t,m,z,q,o,rfl,?_,?_,?_⟩
 ·refine SNu.move (lo:=W.heap.size) ?_ (by omega) zL (fun _ _ _=>rfl);repeat (refine SNu.set ?_ _ _ (by simp;omega))
  exact R
 ·refine SNu.move (lo:=w1.heap.size) ?_ (by omega) zL (fun _ _ _=>rfl);repeat (refine SNu.set ?_ _ _ (by simp;omega))
  exact T
 ·repeat (refine Below.setCell ?_ (by simp) _)
  exact Q
theorem Bx3.up{v2:Value}(h:Bx3 w b v0 v1 v2)(o:Obj):Bx3 (w.alloc o) b v0 v1 v2:=h.bw (zO w o) h.lt
theorem Qoe {w5:World}(s1:SNu w5 lo a x X)(s2:SNu w5 lo a' x' D)(hr:r<lo)(hw:w.heap.size<=r)(hB:Bl w w5)(v0 v1 v2 v3 v4:Value):
  SNu (((((w5.setCell ⟨r,0,none⟩ v0).setCell ⟨r,1,none⟩ v1).setCell ⟨r,2,none⟩ v2).setCell ⟨r,3,none⟩ v3).setCell ⟨r,4,none⟩ v4) w.heap.size a x X/\ SNu (((((w5.setCell ⟨r,0,none⟩ v0).setCell ⟨r,1,none⟩ v1).setCell ⟨r,2,none⟩ v2).setCell ⟨r,3,none⟩ v3).setCell ⟨r,4,none⟩ v4) w.heap.size a' x' D/\ Bl w (((((w5.setCell ⟨r,0,none⟩ v0).setCell ⟨r,1,none⟩ v1).setCell ⟨r,2,none⟩ v2).setCell ⟨r,3,none⟩ v3).setCell ⟨r,4,none⟩ v4):=by
 refine⟨(((((s1.set _ _ hr).set _ _ hr).set _ _ hr).set _ _ hr).set _ _ hr).move (by omega) zL (fun _ _ _=>rfl),(((((s2.set _ _ hr).set _ _ hr).set _ _ hr).set _ _ hr).set _ _ hr).move (by omega) zL (fun _ _ _=>rfl),?_⟩;exact((((hB.setCell (p:=⟨r,0,none⟩) hw _).setCell (p:=⟨r,1,none⟩) hw _).setCell (p:=⟨r,2,none⟩) hw _).setCell (p:=⟨r,3,none⟩) hw _).setCell (p:=⟨r,4,none⟩) hw _
theorem SOw.nu(h:SOw w lo hi a x d S)(hl:lo'<=lo):SNu w lo' a x S:=fun w2 h1 h2=>(h.same h1 (fun q q1 q2=>h2 q (by omega) (Nat.lt_of_lt_of_le q2 h.hl.2))).at
theorem SNu.box {v W6:World}{A:Nat}(h:SNu v lo a x S)(hs:v.heap.size<=W6.heap.size)(hA:A<lo \/v.heap.size<=A)(hq:∀q,q≠A ->q<v.heap.size ->W6.heap[q]? =v.heap[q]?):SAt W6 a x S:=h W6 hs (fun q h1 h2=>hq q (by omega) h2)
def SmI (S:Sx):Prop:=S.Sm/\∀i,LfI (gL S.l i)
theorem Qc8:SmI Sx.mt:=⟨⟨by simp [Sx.mt],fun i=>by simp [Sx.mt,gL],by simp [Sx.mt]⟩,fun i=>by
 have e:gL Sx.mt.l i=⟨[],false,0,0,ByteArray.empty⟩:=by simp [gL,Sx.mt]
 rw [e];exact⟨by decide,by decide⟩⟩
theorem QiN(h1:S.l.length<=1000)(h2:S.n<=1000)(h3:∀x∈S.l,(0<=x.r/\ x.r<8)/\ (0<=x.q/\ x.q<=1000000000)/\ x.v.size<=200/\ x.p.length<=8):SmI S:=by
 refine⟨⟨by omega,fun i=> ?_,by omega⟩,fun i=> ?_⟩
 ·by_cases hi:i<S.l.length
  ·have:=h3 _ (Qai.2 ⟨i,hi,rfl⟩);omega
  ·rw [Qm7 hi];simp
 ·by_cases hi:i<S.l.length
  ·obtain⟨j,k,_⟩:=h3 _ (Qai.2 ⟨i,hi,rfl⟩);exact⟨wfI (by omega) (by omega),wfI (by omega) (by omega)⟩
  ·have e:gL S.l i=⟨[],false,0,0,ByteArray.empty⟩:=by simp [gL,List.getD,hi]
   rw [e];exact⟨by decide,by decide⟩
theorem Qkm(hs:StW S.R S.F S.T S.n S.l)(hd:StW D.R D.F D.T D.n D.l):SmI (chX S D)/\ SmI (chY S D):=by
 cases h:chF S D with
 | false=>obtain⟨j,k,_⟩:=Qmt h;rw [j,k];exact⟨Qc8,Qc8⟩
 | true=>
  obtain⟨j,k,_⟩:=Qn2 h;rw [j,k];unfold chF jnF at h;simp only [Bool.and_eq_true,decide_eq_true_eq] at h;exact⟨QiN h.1.1 h.1.2 (fun x hx=>Qge hs hd x hx),QiN h.2.1 h.2.2 (fun x hx=>QdJ hd x hx)⟩
theorem Qnf (S:Sx)(p:List ByteArray):SmI (rmX S p)/\ SmI (rmY S p):=by
 by_cases h:ocC S p ⟨#[]⟩=0
 ·obtain⟨j,k,_⟩:=QnO h;have m:=Qcx (Qf0 h).1;rw [j,k];exact Qkm m.w (Qma m (PtO.nil S))
 ·obtain⟨j,k,_⟩:=Qnz h;rw [j,k];exact⟨Qc8,Qc8⟩
theorem Qk9 (S:Sx)(rep:Int)(p:List ByteArray)(fl on:Bool)(v:ByteArray)(hf:fl=true ->emB v=true):SmI (seX S rep p fl on v)/\ SmI (seY S rep p fl on v):=by
 by_cases h:ocC S p v=0
 ·have m:=Qf0 h;have r:=Qcx m.1;by_cases q:Qk8 S rep on
  ·obtain⟨j,k,_⟩:=Qnk (fl:=fl) h q;rw [j,k];exact Qkm r.w (Qma r (Qnj r m.2.1 m.2.2 hf q))
  ·obtain⟨j,k,_⟩:=Qni (fl:=fl) h q;rw [j,k];exact⟨Qc8,Qc8⟩
 ·obtain⟨j,k,_⟩:=Qmc (rep:=rep) (fl:=fl) (on:=on) h;rw [j,k];exact⟨Qc8,Qc8⟩
theorem Qit (D Y:Sx):SmI (jnZ D Y):=by
 cases h:jnB D Y with
 | false=>rw [Qgd h];exact Qc8
 | true=>
  rw [Qlw h];unfold jnB jnF at h;simp only [Bool.and_eq_true,decide_eq_true_eq] at h;exact QiN h.2.1 h.2.2 (fun x hx=>Qge (Qcx h.1.1).w (Qcx h.1.2).w x hx)
noncomputable def chg (S:Sx)(id k:Int)(p:List ByteArray)(v:ByteArray):Sx×Sx×Int:=
 if k=1 then(seX S id p false true v,seY S id p false true v,seC S id p false true v)
 else if k=4 then(rmX S p,rmY S p,rmC S p)
 else(seX S id p true (k==2) ⟨#[]⟩,seY S id p true (k==2) ⟨#[]⟩,seC S id p true (k==2) ⟨#[]⟩)
theorem QfM{id k:Int}{p:List ByteArray}{v:ByteArray}(h:chg S id k p v=(X,Y,C)):SmI X/\ SmI Y:=by
 unfold chg at h;split at h
 ·injection h with e1 e2;injection e2 with e2 e3;subst e1 e2;exact Qk9 _ _ _ _ _ _ (fun h=>by cases h)
 ·split at h
  ·injection h with e1 e2;injection e2 with e2 e3;subst e1 e2;exact Qnf _ _
  ·injection h with e1 e2;injection e2 with e2 e3;subst e1 e2;exact Qk9 _ _ _ _ _ _ (fun _=>by unfold emB;rw [ByteArray.toList_eq];rfl)
def opB (k:Int)(v:ByteArray):Bool:=decide (1<=k) && (decide (k<=4) && (decide (k=1)||emB v))
noncomputable def jfB (X D Y:Sx):Bool:=jnB D Y && (QcG (jnZ D Y) && QcG X)
noncomputable def doR (id:Int)(S D:Sx)(k:Int)(p:List ByteArray)(v:ByteArray):Sx×Sx×Int:=
 if rpB id S D=true then
  if opB k v=true then
   if (chg S id k p v).2.2=0 then
    if jfB (chg S id k p v).1 D (chg S id k p v).2.1=true then((chg S id k p v).1,jnZ D (chg S id k p v).2.1,0) else(S,D,4)
   else(S,D,(chg S id k p v).2.2)
  else(S,D,5)
 else(S,D,1)
section
variable {id : Int} {S D : Sx} {k : Int} {p : List ByteArray} {v : ByteArray} {X Y : Sx} {C : Int}
theorem Qob (h:rpB id S D=false):doR id S D k p v=(S,D,1):=by unfold doR;rw [h];rfl
theorem Qoc (h:rpB id S D=true)(h2:opB k v=false):doR id S D k p v=(S,D,5):=by unfold doR;rw [h,h2];rfl
theorem Qod (h:rpB id S D=true)(h2:opB k v=true)(h3:chg S id k p v=(X,Y,C))(h4:C≠0):doR id S D k p v=(S,D,C):=by
 unfold doR;rw [h,h2,h3,if_pos rfl,if_pos rfl,if_neg h4]
theorem Qn8 (h:rpB id S D=true)(h2:opB k v=true)(h3:chg S id k p v=(X,Y,0))(h4:jfB X D Y=false):doR id S D k p v=(S,D,4):=by
 unfold doR;rw [h,h2,h3,if_pos rfl,if_pos rfl,if_pos rfl,h4];rfl
theorem Qoa (h:rpB id S D=true)(h2:opB k v=true)(h3:chg S id k p v=(X,Y,0))(h4:jfB X D Y=true):doR id S D k p v=(X,jnZ D Y,0):=by
 unfold doR;rw [h,h2,h3,if_pos rfl,if_pos rfl,if_pos rfl,h4];rfl
theorem Qmy (hS:SmI S)(hD:SmI D){Z:Sx}(h:doR id S D k p v=(X,Z,C)):SmI X/\ SmI Z:=by
 obtain⟨m,q,j,r⟩:∃m q j,chg S id k p v=(m,q,j):=⟨_,_,_,rfl⟩;unfold doR at h;rw [r] at h;split at h
 ·split at h
  ·split at h
   ·split at h
    ·injection h with e1 e2;injection e2 with e2 e3;subst e1 e2;exact⟨(QfM r).1,Qit _ _⟩
    ·injection h with e1 e2;injection e2 with e2 e3;subst e1 e2;exact⟨hS,hD⟩
   ·injection h with e1 e2;injection e2 with e2 e3;subst e1 e2;exact⟨hS,hD⟩
  ·injection h with e1 e2;injection e2 with e2 e3;subst e1 e2;exact⟨hS,hD⟩
 ·injection h with e1 e2;injection e2 with e2 e3;subst e1 e2;exact⟨hS,hD⟩
end
open Go.Extern.Stop Go.Stop Go.Extern
theorem Er.valueOfPP (t:Addr)(w:World):(ReflectliteValue.unpack (.iface 92 (.pointer (some t)))).run Tryz.prog w
  =.ok (.agg #[.pointer (some ⟨5,92,none⟩),.pointer (some ⟨w.heap.size,0,none⟩),.int .u64 150]) (w.alloc (.cells #[.pointer (some t)] 92)):=by kernel_rfl
theorem Er.typePP (a:Addr)(w:World):(ReflectliteValue.methodAny (ReflectliteValue.valueError "reflectlite.Value.Type" 0) (fun t _ _ _=>ReflectliteType.toType t) #[.agg #[.pointer (some ⟨5,92,none⟩),.pointer (some a),.int .u64 150]]).run Tryz.prog w
  =.ok (.iface 173 (.agg #[.pointer (some ⟨5,92,none⟩)])) w:=by kernel_rfl
theorem Er.methodKind (h:Value)(w:World):(Go.method 450 173 (.agg #[h]) "Kind").run Tryz.prog w=.ok (254,h) w:=by kernel_rfl
theorem Er.kindPP (w:World):((ReflectliteType.abiMethod fun t=>(fun a:Nat=>Value.int IntKind.u8 (a:Int))<$>Rtype.kind t) #[.pointer (some ⟨5,92,none⟩)]).run Tryz.prog w=.ok (.int .u8 22) w:=by kernel_rfl
theorem Er.kindP (w:World):((ReflectliteType.abiMethod fun t=>(fun a:Nat=>Value.int IntKind.u8 (a:Int))<$>Rtype.kind t) #[.pointer (some ⟨5,84,none⟩)]).run Tryz.prog w=.ok (.int .u8 22) w:=by kernel_rfl
theorem Er.partsPP (a:Addr)(w:World):(ReflectliteValue.parts (.agg #[.pointer (some ⟨5,92,none⟩),.pointer (some a),.int .u64 150])).run Tryz.prog w=.ok (some (92,a,150)) w:=by kernel_rfl
theorem Er.isNilPP (a q:Addr)(W:World)(ha:W.cell? a=some (.pointer (some q))):
  (ReflectliteValue.method (ReflectliteValue.valueError "reflectlite.Value.IsNil" 0) ReflectliteValue.isNil #[.agg #[.pointer (some ⟨5,92,none⟩),.pointer (some a),.int .u64 150]]).run Tryz.prog W=.ok (.bool false) W:=by
 show Sem.run Tryz.prog (ReflectliteValue.parts (.agg #[.pointer (some ⟨5,92,none⟩),.pointer (some a),.int .u64 150])>>=_) W=_;simp only [Sem.run_bind,Er.partsPP,Result.andThen];simp [ReflectliteValue.isNil,loadVar,isAgg,underlying,Tryz.underlying92,ha,Result.andThen]
theorem Er.methodElem (h:Value)(w:World):(Go.method 450 173 (.agg #[h]) "Elem").run Tryz.prog w=.ok (266,.agg #[h]) w:=by kernel_rfl
theorem Er.methodImplements (h:Value)(w:World):(Go.method 450 173 (.agg #[h]) "Implements").run Tryz.prog w=.ok (267,.agg #[h]) w:=by kernel_rfl
theorem Er.methodAssignableTo (h:Value)(w:World):(Go.method 450 173 (.agg #[h]) "AssignableTo").run Tryz.prog w=.ok (264,.agg #[h]) w:=by kernel_rfl
theorem Er.elemPP (w:World):(ReflectliteType.method ReflectliteType.elem #[.agg #[.pointer (some ⟨5,92,none⟩)]]).run Tryz.prog w=.ok (.iface 173 (.agg #[.pointer (some ⟨5,84,none⟩)])) w:=by kernel_rfl
theorem Er.implementsP (w:World):(ReflectliteType.relation "Implements" ReflectliteType.implements_ #[.agg #[.pointer (some ⟨5,84,none⟩)],.iface 173 (.agg #[.pointer (some ⟨5,65,none⟩)])]).run Tryz.prog w=.ok (.bool true) w:=by kernel_rfl
theorem Er.typeOfP (v:Value)(w:World):(ReflectliteType.typeOf #[.iface 84 v]).run Tryz.prog w=.ok (.iface 173 (.agg #[.pointer (some ⟨5,84,none⟩)])) w:=by kernel_rfl
theorem Er.assignableP (w:World):(ReflectliteType.relation "AssignableTo" ReflectliteType.assignableTo #[.agg #[.pointer (some ⟨5,84,none⟩)],.iface 173 (.agg #[.pointer (some ⟨5,84,none⟩)])]).run Tryz.prog w=.ok (.bool true) w:=by kernel_rfl
theorem Er.valueOfP (e:Addr)(w:World):(ReflectliteValue.unpack (.iface 84 (.pointer (some e)))).run Tryz.prog w
  =.ok (.agg #[.pointer (some ⟨5,84,none⟩),.pointer (some ⟨w.heap.size,0,none⟩),.int .u64 150]) (w.alloc (.cells #[.pointer (some e)] 84)):=by kernel_rfl
theorem Er.elemOfPP (w:World):(Rtype.elem? 92).run Tryz.prog w=.ok (some 84) w:=by kernel_rfl
theorem Er.mkP (q:Addr)(w:World):(ReflectliteValue.mk 84 q ReflectliteValue.flagAddr).run Tryz.prog w=.ok (.agg #[.pointer (some ⟨5,84,none⟩),.pointer (some q),.int .u64 406]) w:=by kernel_rfl
theorem Er.elemVPP (a q:Addr)(W:World)(ha:W.cell? a=some (.pointer (some q))):
  (ReflectliteValue.method (ReflectliteValue.valueError "reflectlite.Value.Elem" 0) ReflectliteValue.elem #[.agg #[.pointer (some ⟨5,92,none⟩),.pointer (some a),.int .u64 150]]).run Tryz.prog W
   =.ok (.agg #[.pointer (some ⟨5,84,none⟩),.pointer (some q),.int .u64 406]) W:=by
 show Sem.run Tryz.prog (ReflectliteValue.parts (.agg #[.pointer (some ⟨5,92,none⟩),.pointer (some a),.int .u64 150])>>=_) W=_;simp only [Sem.run_bind,Er.partsPP,Result.andThen];simp [ReflectliteValue.elem,loadVar,isAgg,underlying,Tryz.underlying92,ha,Result.andThen,Er.elemOfPP,Er.mkP]
theorem Er.partsPa (a:Addr)(w:World):(ReflectliteValue.parts (.agg #[.pointer (some ⟨5,84,none⟩),.pointer (some a),.int .u64 406])).run Tryz.prog w=.ok (some (84,a,406)) w:=by kernel_rfl
theorem Er.partsP (a:Addr)(w:World):(ReflectliteValue.parts (.agg #[.pointer (some ⟨5,84,none⟩),.pointer (some a),.int .u64 150])).run Tryz.prog w=.ok (some (84,a,150)) w:=by kernel_rfl
theorem Er.directP (w:World):(Rtype.directlyAssignable 84 84).run Tryz.prog w=.ok true w:=by kernel_rfl
theorem Er.setP (ta b e:Addr)(old:Value)(W:World)(hb:W.cell? b=some (.pointer (some e)))(ht:W.cell? ta=some old)(hf:W.frozen? ta=false):
  (ReflectliteValue.set #[.agg #[.pointer (some ⟨5,84,none⟩),.pointer (some ta),.int .u64 406],.agg #[.pointer (some ⟨5,84,none⟩),.pointer (some b),.int .u64 150]]).run Tryz.prog W
   =.ok (.tuple #[]) (W.setCell ta (.pointer (some e))):=by
 show Sem.run Tryz.prog (ReflectliteValue.parts (.agg #[.pointer (some ⟨5,84,none⟩),.pointer (some ta),.int .u64 406])>>=fun _=>ReflectliteValue.parts (.agg #[.pointer (some ⟨5,84,none⟩),.pointer (some b),.int .u64 150])>>=_) W=_;simp only [Sem.run_bind,Er.partsPa,Er.partsP,Result.andThen];simp [ReflectliteValue.flagAddr,loadVar,isAgg,underlying,Tryz.underlying84,hb,Result.andThen,Er.directP,storeVar,Value.cells,storeCells,Addr.add];rw [run_store Tryz.prog W ta _ _ (by rfl)];simp [ht,hf]
theorem Qmi (e t:Addr)(old:Value)(w:World)(hg:w.cell? ⟨4,0,none⟩=some (.iface 173 (.agg #[.pointer (some ⟨5,65,none⟩)])))(ht0:w.cell? t=some old)(hf0:w.frozen? t=false):
  Cl 50 #[.iface 84 (.pointer (some e)),.iface 92 (.pointer (some t))] w fun ev w'=>ev=.returned (.bool true)/\ w'=((((w.alloc (.cells #[.pointer (some t)] 92)).alloc (.cells #[.pointer (some ⟨5,92,none⟩),.pointer (some ⟨w.heap.size,0,none⟩),.int .u64 150] 129)).alloc (.cells #[.pointer (some ⟨5,92,none⟩),.pointer (some ⟨w.heap.size,0,none⟩),.int .u64 150] 129)).alloc (.cells #[.pointer (some e)] 84)).setCell t (.pointer (some e)):=by
 have b:=@run_callFunc_extern Tryz.prog 83 _ (fun args=>ReflectliteValue.unpack (args.getD 0 (.tuple #[]))) Tryz.func83 (by kernel_rfl) (by kernel_rfl) (by kernel_rfl) (by kernel_rfl);have s:=@run_callFunc_extern Tryz.prog 84 _ (ReflectliteValue.methodAny (ReflectliteValue.valueError "reflectlite.Value.Type" 0) (fun t _ _ _=>ReflectliteType.toType t)) Tryz.func84 (by kernel_rfl) (by kernel_rfl) (by kernel_rfl) (by kernel_rfl);have i:=@run_callFunc_extern Tryz.prog 85 _ (ReflectliteValue.method (ReflectliteValue.valueError "reflectlite.Value.IsNil" 0) ReflectliteValue.isNil) Tryz.func85 (by kernel_rfl) (by kernel_rfl) (by kernel_rfl) (by kernel_rfl);have u:=@run_callFunc_extern Tryz.prog 254 _ (ReflectliteType.abiMethod fun t=>do pure (.int .u8 (<- Rtype.kind t))) Tryz.func254 (by kernel_rfl) (by kernel_rfl) (by kernel_rfl) (by kernel_rfl);have y:=@run_callFunc_extern Tryz.prog 266 _ (ReflectliteType.method ReflectliteType.elem) Tryz.func266 (by kernel_rfl) (by kernel_rfl) (by kernel_rfl) (by kernel_rfl);have z:=@run_callFunc_extern Tryz.prog 267 _ (ReflectliteType.relation "Implements" ReflectliteType.implements_) Tryz.func267 (by kernel_rfl) (by kernel_rfl) (by kernel_rfl) (by kernel_rfl);have g:=@run_callFunc_extern Tryz.prog 112 _ ReflectliteType.typeOf Tryz.func112 (by kernel_rfl) (by kernel_rfl) (by kernel_rfl) (by kernel_rfl);have v:=@run_callFunc_extern Tryz.prog 264 _ (ReflectliteType.relation "AssignableTo" ReflectliteType.assignableTo) Tryz.func264 (by kernel_rfl) (by kernel_rfl) (by kernel_rfl) (by kernel_rfl);have o:=@run_callFunc_extern Tryz.prog 113 _ (ReflectliteValue.method (ReflectliteValue.valueError "reflectlite.Value.Elem" 0) ReflectliteValue.elem) Tryz.func113 (by kernel_rfl) (by kernel_rfl) (by kernel_rfl) (by kernel_rfl);have p:=@run_callFunc_extern Tryz.prog 114 _ ReflectliteValue.set Tryz.func114 (by kernel_rfl) (by kernel_rfl) (by kernel_rfl) (by kernel_rfl);have H:=Er.typeOfP;have Q:=Er.methodAssignableTo;have m:=Er.assignableP;have J:=Er.valueOfP;have K:=Er.valueOfPP;have I:=Er.typePP;have Y:=Er.methodKind;have U:=Er.methodElem;have V:=Er.methodImplements;have O:=Er.kindPP;have M:=Er.kindP;have q:=Er.elemPP;have E:=Er.implementsP;have Z:=Er.isNilPP ⟨w.heap.size,0,none⟩ t ((w.alloc (.cells #[.pointer (some t)] 92)).alloc (.cells #[.pointer (some ⟨5,92,none⟩),.pointer (some ⟨w.heap.size,0,none⟩),.int .u64 150] 129)) (by simp);have k:4<w.heap.size:=by
  rcases Nat.lt_or_ge 4 w.heap.size with h|h
  ·exact h
  ·simp [World.cell?,Array.getElem?_eq_none h] at hg
 have A:((w.alloc (.cells #[.pointer (some t)] 92)).alloc (.cells #[.pointer (some ⟨5,92,none⟩),.pointer (some ⟨w.heap.size,0,none⟩),.int .u64 150] 129)).cell? ⟨4,0,none⟩=some (.iface 173 (.agg #[.pointer (some ⟨5,65,none⟩)])):=by
  rw [World.cell?_alloc_lt _ _ ⟨4,0,none⟩ (by first|(simp;omega)|simp),World.cell?_alloc_lt _ _ ⟨4,0,none⟩ k];exact hg
 have j:t.block<w.heap.size:=by
  rcases Nat.lt_or_ge t.block w.heap.size with h|h
  ·exact h
  ·simp [World.cell?,Array.getElem?_eq_none h] at ht0
 have r:=Er.elemVPP ⟨w.heap.size,0,none⟩ t (((w.alloc (.cells #[.pointer (some t)] 92)).alloc (.cells #[.pointer (some ⟨5,92,none⟩),.pointer (some ⟨w.heap.size,0,none⟩),.int .u64 150] 129)).alloc (.cells #[.pointer (some ⟨5,92,none⟩),.pointer (some ⟨w.heap.size,0,none⟩),.int .u64 150] 129)) (by rw [World.cell?_alloc_lt _ _ ⟨w.heap.size,0,none⟩ (by simp;omega)];simp);have G:=Er.setP t ⟨w.heap.size+1+1+1,0,none⟩ e old ((((w.alloc (.cells #[.pointer (some t)] 92)).alloc (.cells #[.pointer (some ⟨5,92,none⟩),.pointer (some ⟨w.heap.size,0,none⟩),.int .u64 150] 129)).alloc (.cells #[.pointer (some ⟨5,92,none⟩),.pointer (some ⟨w.heap.size,0,none⟩),.int .u64 150] 129)).alloc (.cells #[.pointer (some e)] 84))
  (by rw [World.cell?_alloc_at _ _ _ _ (by simp)];rfl)
  (by rw [World.cell?_alloc_lt _ _ t (by simp;omega),World.cell?_alloc_lt _ _ t (by simp;omega),World.cell?_alloc_lt _ _ t (by simp;omega),World.cell?_alloc_lt _ _ t j];exact ht0)
  (by rw [World.frozen?_alloc_old _ _ t (by simp;omega),World.frozen?_alloc_old _ _ t (by simp;omega),World.frozen?_alloc_old _ _ t (by simp;omega),World.frozen?_alloc_old _ _ t (Nat.ne_of_lt j)];exact hf0)
 go_enter Tryz.func50,Tryz.ntmps50;go_wp2;refine wp_loop_rounds 1 ?_;rw [rounds_succ];go_wp2;go_ret;exact⟨rfl,rfl⟩
theorem Qmj (t:Addr)(w:World):
  Cl 50 #[.nilIface,.iface 92 (.pointer (some t))] w fun ev w'=>ev=.returned (.bool false)/\ w'=w:=by
 go_enter Tryz.func50,Tryz.ntmps50;go_wp2;go_ret;exact⟨rfl,rfl⟩
theorem QnN (w:World):Cl 26 #[.nilIface] w (Rt w (.int .i64 0)):=by
 have j:=hid (zO w (.cells #[.pointer none] 84));obtain⟨W,k⟩:=zE (w.alloc (.cells #[.pointer none] 84));rw [k] at j;go_enter Tryz.func26,Tryz.ntmps26;go_wp2_with fail;try rw [k]
 refine(Qmj _ W).mono ?_;rintro e w1 ⟨rfl,rfl⟩;go_wp2_with fail;go_ret;exact⟨rfl,j⟩
theorem Qnd (b:Nat)(C:Int)(w:World)(hg:w.cell? ⟨4,0,none⟩=some (.iface 173 (.agg #[.pointer (some ⟨5,65,none⟩)])))(hC:w.cell? ⟨b,0,none⟩=some (.int .i64 C)):
  Cl 26 #[.iface 84 (.pointer (some ⟨b,0,none⟩))] w (Rt w (.int .i64 C)):=by
 have m:Bl w (w.alloc (.cells #[.pointer none] 84)):=zO w _;obtain⟨W,j⟩:=zE (w.alloc (.cells #[.pointer none] 84));have g:W.heap.size=w.heap.size+1:=by rw [<- j];simp
 have v:W.cell? ⟨w.heap.size,0,none⟩=some (.pointer none):=by rw [<- j];simp
 have z:W.frozen? ⟨w.heap.size,0,none⟩=false:=by rw [<- j];simp
 rw [j] at m;have h:W.cell? ⟨4,0,none⟩=some (.iface 173 (.agg #[.pointer (some ⟨5,65,none⟩)])):=(m.cell (p:=⟨4,0,none⟩) (block_lt_of_cell hg)).trans hg;have y:=hid (Qmi ⟨b,0,none⟩ ⟨w.heap.size,0,none⟩ (.pointer none) W h v z);have A:Hid (b<w.heap.size):=hid (block_lt_of_cell hC);have i:=hid hC;have t:=hid m;have k:=hid g;have s:=hid v;clear m g v z h hg hC;go_enter Tryz.func26,Tryz.ntmps26;go_wp2_with fail;try rw [j]
 clear j;refine y.mono ?_;rintro e w1 ⟨rfl,q⟩;have r:Bl w w1:=by
  rw [q];exact(((((t.alloc (by have:=k.out;omega) _).alloc (by simp;have:=k.out;omega) _).alloc (by simp;have:=k.out;omega) _).alloc (by simp;have:=k.out;omega) _).setCell (p:=⟨w.heap.size,0,none⟩) zL _)
 have M:w1.cell? ⟨w.heap.size,0,none⟩=some (.pointer (some ⟨b,0,none⟩)):=by
  rw [q];refine World.cell?_setCell_same _ _ _ (u:=.pointer none) ?_;have E:=k.out;rw [World.cell?_alloc_lt _ _ _ (by simp;omega),World.cell?_alloc_lt _ _ _ (by simp;omega),World.cell?_alloc_lt _ _ _ (by simp;omega),World.cell?_alloc_lt _ _ _ (by simp;omega)];exact s
 have O:w1.cell? ⟨b,0,none⟩=some (.int .i64 C):=(r.cell (p:=⟨b,0,none⟩) A).trans i;have o:=hid r;clear q r y;go_wp2_with fail;go_ret;exact⟨rfl,o⟩
theorem QnL (k:Int)(pa:Option Addr)(pc:Nat)(p:List ByteArray)(v:ByteArray)(w:World):Cl 46 #[.agg #[.int .i64 k,.slice pa p.length pc,.string v]] w (Rt w (.bool (opB k v))):=by
 have j:=hid (zO w (.cells #[.int .i64 k,.slice pa p.length pc,.string v] 46));have t:v.toList.isEmpty=emB v:=rfl;obtain⟨E,z⟩:=zE (emB v);have m:Hid (opB k v=(decide (1<=k) && (decide (k<=4) && (decide (k=1)||E)))):=hid (by unfold opB;rw [z]);rw [z] at t;clear z;by_cases q:k=1
 ·subst q;go_enter Tryz.func46,Tryz.ntmps46;go_wp2_with fail;go_ret;exact⟨Qay (by rw [m.out];rfl),j⟩
 ·have o:(k==1)=false:=by simpa using q
  by_cases r:k=2
  ·subst r;go_enter Tryz.func46,Tryz.ntmps46;go_wp2_with fail;go_ret;exact⟨Qay (by rw [m.out];cases E<;>rfl),j⟩
  ·have i:(k==2)=false:=by simpa using r
   by_cases u:k=3
   ·subst u;go_enter Tryz.func46,Tryz.ntmps46;go_wp2_with fail;go_ret;exact⟨Qay (by rw [m.out];cases E<;>rfl),j⟩
   ·have b:(k==3)=false:=by simpa using u
    by_cases y:k=4
    ·subst y;go_enter Tryz.func46,Tryz.ntmps46;go_wp2_with fail;go_ret;exact⟨Qay (by rw [m.out];cases E<;>rfl),j⟩
    ·have s:(k==4)=false:=by simpa using y
     have h:Hid (opB k v=false):=hid (by
      rw [m.out];by_cases g:1<=k
      ·rw [decide_eq_false (by omega:¬k<=4)];simp
      ·rw [decide_eq_false g];rfl)
     clear q r u y;go_enter Tryz.func46,Tryz.ntmps46;go_wp2_with fail;go_ret;exact⟨Qay h.symm,j⟩
def ChI (X Y:Sx)(C:Int)(w:World)(e:Ending)(w':World):Prop:=∃a c x d a' c' x' d' mid,e=.returned (.tuple #[.agg #[.slice a X.l.length c,.slice x X.n d],.agg #[.slice a' Y.l.length c',.slice x' Y.n d'],.int .i64 C])/\ SOw w' w.heap.size mid a x d X/\ SOw w' mid w'.heap.size a' x' d' Y/\ Bl w w'
theorem Qmh (id:Int)(a x pa:Option Addr)(c d pc:Nat)(S:Sx)(k:Int)(p:List ByteArray)(v:ByteArray)(X Y:Sx)(C:Int)(w:World)(hq:chg S id k p v=(X,Y,C))(ho:opB k v=true)(hm:SmI S)(h:SAt w a x S)(hp:p.length<=1048576)(hseg:Qaw w pa p)(hv:v.size<=1048576)(hid':(Lit.int .i64 id).wf=true):
  Cl 47 #[.agg #[.int .i64 k,.slice pa p.length pc,.string v],.agg #[.slice a S.l.length c,.slice x S.n d],.int .i64 id] w fun e w'=>ChI X Y C w e w':=by
 obtain⟨W,o⟩:=zE ((((w.alloc (.cells #[.int .i64 k,.slice pa p.length pc,.string v] 46)).alloc (.cells #[.slice a S.l.length c,.slice x S.n d] 40)).alloc (.cells #[.slice none 0 0,.slice none 0 0] 40)).alloc (.cells #[.slice none 0 0,.slice none 0 0] 40));have P:Bl w W:=by rw [<- o];exact(((Qae _ _ _).alloc (by simp;omega) _).alloc (by simp;omega) _)
 have zW:W.heap.size=w.heap.size+4:=by rw [<- o];simp
 have O0:Bx3 W w.heap.size (.int .i64 k) (.slice pa p.length pc) (.string v):=by rw [<- o];exact(((Bx3.made w _ _ _ _).up _).up _).up _
 have A0:Bx2 W (w.heap.size+1) (.slice a S.l.length c) (.slice x S.n d):=by
  rw [<- o];have:=Bx2.made (w.alloc (.cells #[.int .i64 k,.slice pa p.length pc,.string v] 46)) (.slice a S.l.length c) (.slice x S.n d) 40;exact((by simpa using this:Bx2 _ (w.heap.size+1) _ _).allocs _).allocs _
 have R0:Bx2 W (w.heap.size+1+1) (.slice none 0 0) (.slice none 0 0):=by
  rw [<- o];have:=Bx2.made ((w.alloc (.cells #[.int .i64 k,.slice pa p.length pc,.string v] 46)).alloc (.cells #[.slice a S.l.length c,.slice x S.n d] 40)) (.slice none 0 0) (.slice none 0 0) 40;exact(by simpa using this:Bx2 _ (w.heap.size+1+1) _ _).allocs _
 have Q0:Bx2 W (w.heap.size+1+1+1) (.slice none 0 0) (.slice none 0 0):=by
  rw [<- o];simpa using Bx2.made (((w.alloc (.cells #[.int .i64 k,.slice pa p.length pc,.string v] 46)).alloc (.cells #[.slice a S.l.length c,.slice x S.n d] 40)).alloc (.cells #[.slice none 0 0,.slice none 0 0] 40)) (.slice none 0 0) (.slice none 0 0) 40
 have R:=h.bw P;have T:=hseg.bw P;have B:Hid ((k=1/\ Cl 78 #[.agg #[.slice a S.l.length c,.slice x S.n d],.int .i64 id,.slice pa p.length pc,.string v] W fun e w'=>ChI X Y C W e w') \/(k=4/\ Cl 80 #[.agg #[.slice a S.l.length c,.slice x S.n d],.slice pa p.length pc] W fun e w'=>ChI X Y C W e w') \/k≠1/\ k≠4/\ (k=2 \/k=3)/\ Cl 79 #[.agg #[.slice a S.l.length c,.slice x S.n d],.int .i64 id,.slice pa p.length pc,.bool (k==2)] W fun e w'=>ChI X Y C W e w'):=hid (by
  unfold chg at hq;by_cases V:k=1
  ·rw [if_pos V] at hq;injection hq with g1 g2;injection g2 with g2 g3;subst g1 g2 g3;exact .inl ⟨V,Qfp a x pa c d pc S id p v W hm.1 hm.2 R hp T hv hid'⟩
  ·rw [if_neg V] at hq;by_cases L:k=4
   ·rw [if_pos L] at hq;injection hq with g1 g2;injection g2 with g2 g3;subst g1 g2 g3;exact .inr (.inl ⟨L,Qhv a x pa c d pc S p W hm.1 hm.2 R hp T⟩)
   ·rw [if_neg L] at hq;injection hq with g1 g2;injection g2 with g2 g3;subst g1 g2 g3;unfold opB at ho;simp only [Bool.and_eq_true,decide_eq_true_eq] at ho;exact .inr (.inr ⟨V,L,by omega,QfY a x pa c d pc S id p (k==2) W hm.1 hm.2 R hp T hid'⟩))
 have U:=hid R0;have Q:=hid Q0;have D:=hid P;have F:Hid (w.heap.size+4<=W.heap.size):=hid (by omega);obtain⟨k0,k1⟩:=A0.q2;obtain⟨o0,o1,o2⟩:=O0.q3;clear P zW A0 O0 R0 Q0 h hseg hq ho R T;rcases B.out with ⟨rfl,h⟩|⟨rfl,h⟩|⟨V,L,Ha,h⟩
 ·have i:=hid h;clear h B;go_enter Tryz.func47,Tryz.ntmps47;go_wp2_with fail;try rw [o]
  clear o;try go_wp2_with fail
  refine i.mono ?_;rintro e w4 ⟨j,q,z,u,m,r,g,y,N,rfl,M,O,t⟩;have I:=hid (U.bw t U.lt);have J:=hid (Q.bw t Q.lt);have H:=hid (Qaa D t);have b:=hid M;have s:=hid O;clear t M O i k0 k1 o0 o1 o2;obtain⟨r0,r1,rf,q0,q1,qf,K⟩:=Qeo I J (.slice j X.l.length q) (.slice z X.n u) (.slice m Y.l.length r) (.slice g Y.n y);go_wp2_with fail;obtain⟨A,E⟩:=K.out;refine zF (v:=.tuple #[.agg #[.slice j X.l.length q,.slice z X.n u],.agg #[.slice m Y.l.length r,.slice g Y.n y],.int .i64 C]) (by simp [results,Tryz.results47,go_sem,A.c0,A.c1,E.c0,E.c1]) ?_;have hz:=F.out;have h1:=b.hl;have h2:=s.hl;have Z:=Qhg (r1:=w.heap.size+1+1) (r2:=w.heap.size+1+1+1) b (by omega) (by omega) (.slice j X.l.length q) (.slice z X.n u) (.slice m Y.l.length r) (.slice g Y.n y);have G:=Qhg (r1:=w.heap.size+1+1) (r2:=w.heap.size+1+1+1) s (by omega) (by omega) (.slice j X.l.length q) (.slice z X.n u) (.slice m Y.l.length r) (.slice g Y.n y);exact⟨j,q,z,u,m,r,g,y,N,rfl,Z.wide (by omega) zL (by rw [QdH];omega),G.wide zL (by rw [QdH];exact Nat.le_refl _) zL,Qbg H (by omega) (by omega) _ _ _ _⟩
 ·have i:=hid h;clear h B;go_enter Tryz.func47,Tryz.ntmps47;go_wp2_with fail;try rw [o]
  clear o;try go_wp2_with fail
  refine i.mono ?_;rintro e w4 ⟨j,q,z,u,m,r,g,y,N,rfl,M,O,t⟩;have I:=hid (U.bw t U.lt);have J:=hid (Q.bw t Q.lt);have H:=hid (Qaa D t);have b:=hid M;have s:=hid O;clear t M O i k0 k1 o0 o1 o2;obtain⟨r0,r1,rf,q0,q1,qf,K⟩:=Qeo I J (.slice j X.l.length q) (.slice z X.n u) (.slice m Y.l.length r) (.slice g Y.n y);go_wp2_with fail;obtain⟨A,E⟩:=K.out;refine zF (v:=.tuple #[.agg #[.slice j X.l.length q,.slice z X.n u],.agg #[.slice m Y.l.length r,.slice g Y.n y],.int .i64 C]) (by simp [results,Tryz.results47,go_sem,A.c0,A.c1,E.c0,E.c1]) ?_;have hz:=F.out;have h1:=b.hl;have h2:=s.hl;have Z:=Qhg (r1:=w.heap.size+1+1) (r2:=w.heap.size+1+1+1) b (by omega) (by omega) (.slice j X.l.length q) (.slice z X.n u) (.slice m Y.l.length r) (.slice g Y.n y);have G:=Qhg (r1:=w.heap.size+1+1) (r2:=w.heap.size+1+1+1) s (by omega) (by omega) (.slice j X.l.length q) (.slice z X.n u) (.slice m Y.l.length r) (.slice g Y.n y);exact⟨j,q,z,u,m,r,g,y,N,rfl,Z.wide (by omega) zL (by rw [QdH];omega),G.wide zL (by rw [QdH];exact Nat.le_refl _) zL,Qbg H (by omega) (by omega) _ _ _ _⟩
 ·have d1:(k==1)=false:=by simpa using V
  rcases Ha with rfl|rfl
  ·have i:=hid h;clear h B V L;go_enter Tryz.func47,Tryz.ntmps47;go_wp2_with fail;try rw [o]
   clear o;try go_wp2_with fail
   refine i.mono ?_;rintro e w4 ⟨j,q,z,u,m,r,g,y,N,rfl,M,O,t⟩;have I:=hid (U.bw t U.lt);have J:=hid (Q.bw t Q.lt);have H:=hid (Qaa D t);have b:=hid M;have s:=hid O;clear t M O i k0 k1 o0 o1 o2;obtain⟨r0,r1,rf,q0,q1,qf,K⟩:=Qeo I J (.slice j X.l.length q) (.slice z X.n u) (.slice m Y.l.length r) (.slice g Y.n y);go_wp2_with fail;obtain⟨A,E⟩:=K.out;refine zF (v:=.tuple #[.agg #[.slice j X.l.length q,.slice z X.n u],.agg #[.slice m Y.l.length r,.slice g Y.n y],.int .i64 C]) (by simp [results,Tryz.results47,go_sem,A.c0,A.c1,E.c0,E.c1]) ?_;have hz:=F.out;have h1:=b.hl;have h2:=s.hl;have Z:=Qhg (r1:=w.heap.size+1+1) (r2:=w.heap.size+1+1+1) b (by omega) (by omega) (.slice j X.l.length q) (.slice z X.n u) (.slice m Y.l.length r) (.slice g Y.n y);have G:=Qhg (r1:=w.heap.size+1+1) (r2:=w.heap.size+1+1+1) s (by omega) (by omega) (.slice j X.l.length q) (.slice z X.n u) (.slice m Y.l.length r) (.slice g Y.n y);exact⟨j,q,z,u,m,r,g,y,N,rfl,Z.wide (by omega) zL (by rw [QdH];omega),G.wide zL (by rw [QdH];exact Nat.le_refl _) zL,Qbg H (by omega) (by omega) _ _ _ _⟩
  ·have i:=hid h;clear h B V L;go_enter Tryz.func47,Tryz.ntmps47;go_wp2_with fail;try rw [o]
   clear o;try go_wp2_with fail
   refine i.mono ?_;rintro e w4 ⟨j,q,z,u,m,r,g,y,N,rfl,M,O,t⟩;have I:=hid (U.bw t U.lt);have J:=hid (Q.bw t Q.lt);have H:=hid (Qaa D t);have b:=hid M;have s:=hid O;clear t M O i k0 k1 o0 o1 o2;obtain⟨r0,r1,rf,q0,q1,qf,K⟩:=Qeo I J (.slice j X.l.length q) (.slice z X.n u) (.slice m Y.l.length r) (.slice g Y.n y);go_wp2_with fail;obtain⟨A,E⟩:=K.out;refine zF (v:=.tuple #[.agg #[.slice j X.l.length q,.slice z X.n u],.agg #[.slice m Y.l.length r,.slice g Y.n y],.int .i64 C]) (by simp [results,Tryz.results47,go_sem,A.c0,A.c1,E.c0,E.c1]) ?_;have hz:=F.out;have h1:=b.hl;have h2:=s.hl;have Z:=Qhg (r1:=w.heap.size+1+1) (r2:=w.heap.size+1+1+1) b (by omega) (by omega) (.slice j X.l.length q) (.slice z X.n u) (.slice m Y.l.length r) (.slice g Y.n y);have G:=Qhg (r1:=w.heap.size+1+1) (r2:=w.heap.size+1+1+1) s (by omega) (by omega) (.slice j X.l.length q) (.slice z X.n u) (.slice m Y.l.length r) (.slice g Y.n y);exact⟨j,q,z,u,m,r,g,y,N,rfl,Z.wide (by omega) zL (by rw [QdH];omega),G.wide zL (by rw [QdH];exact Nat.le_refl _) zL,Qbg H (by omega) (by omega) _ _ _ _⟩
def JfP (S Y:Sx)(B:Bool)(w:World)(e:Ending)(w':World):Prop:=∃J ja jc jx jd er,e=.returned (.tuple #[.agg #[.slice ja J.l.length jc,.slice jx J.n jd],er])/\ (B=true ->J=jnZ S Y)/\ (B=true/\ er=.nilIface \/B=false/\∃t u,er=.iface t u)/\ SOw w' w.heap.size w'.heap.size ja jx jd J/\ Bl w w'
theorem QjB (a x a' x':Option Addr)(c d c' d':Nat)(S Y:Sx)(w:World)(hm:SmI S)(hm':SmI Y)(h:SAt w a x S)(h':SAt w a' x' Y)(t:TypeId)(u:Value)(V:w.cell? ⟨3,0,none⟩=some (.iface t u)):
  Cl 49 #[.agg #[.slice a S.l.length c,.slice x S.n d],.agg #[.slice a' Y.l.length c',.slice x' Y.n d']] w fun e w'=>JfP S Y (jnB S Y && QcG (jnZ S Y)) w e w':=by
 obtain⟨W,o⟩:=zE (((w.alloc (.cells #[.slice a S.l.length c,.slice x S.n d] 40)).alloc (.cells #[.slice a' Y.l.length c',.slice x' Y.n d'] 40)).alloc (.cells #[.slice none 0 0,.slice none 0 0] 40));have H:Bl w W:=by rw [<- o];exact(Qae _ _ _).alloc (by simp;omega) _
 have zW:W.heap.size=w.heap.size+3:=by rw [<- o];simp
 have A0:Bx2 W w.heap.size (.slice a S.l.length c) (.slice x S.n d):=by rw [<- o];exact((Bx2.made w _ _ _).allocs _).allocs _
 have D0:Bx2 W (w.heap.size+1) (.slice a' Y.l.length c') (.slice x' Y.n d'):=by
  rw [<- o];have:=Bx2.made (w.alloc (.cells #[.slice a S.l.length c,.slice x S.n d] 40)) (.slice a' Y.l.length c') (.slice x' Y.n d') 40;exact(by simpa using this:Bx2 _ (w.heap.size+1) _ _).allocs _
 have R0:Bx2 W (w.heap.size+1+1) (.slice none 0 0) (.slice none 0 0):=by
  rw [<- o];simpa using Bx2.made ((w.alloc (.cells #[.slice a S.l.length c,.slice x S.n d] 40)).alloc (.cells #[.slice a' Y.l.length c',.slice x' Y.n d'] 40)) (.slice none 0 0) (.slice none 0 0) 40
 have HJ:=hid (Qiq a x a' x' c d c' d' S Y W hm.1 hm'.1 hm.2 hm'.2 (h.bw H) (h'.bw H));have Hd:=Qit S Y;obtain⟨J,I⟩:=zE (jnZ S Y);obtain⟨B,hB⟩:=zE (jnB S Y);obtain⟨F,hF⟩:=zE (QcG J);rw [I,hB] at HJ;rw [I] at Hd;rw [hB];have Hf:(B && QcG (jnZ S Y))=(B && F):=by rw [I,hF]
 rw [Hf];clear Hf;have HF:=hid hF;have Hg:=hid I;have P:Hid (3<w.heap.size):=hid (block_lt_of_cell V);have He:=hid ((H.cell (p:=⟨3,0,none⟩) (block_lt_of_cell V)).trans V);have O:=hid R0;have HB:=hid H;have HZ:Hid (w.heap.size+3<=W.heap.size):=hid (by omega);obtain⟨a0,a1⟩:=A0.q2;obtain⟨y0,D⟩:=D0.q2;clear H zW A0 D0 R0 h h' I hB hF V hm hm';go_enter Tryz.func49,Tryz.ntmps49;go_wp2_with fail;try rw [o]
 clear o;refine HJ.mono ?_;rintro e R ⟨s,A,M,E,rfl,o4,b4⟩;obtain⟨U,Q⟩:=zE (R.alloc (.cells #[.slice s J.l.length A,.slice M J.n E] 40));have b5:Bl R U:=by rw [<- Q];exact zO _ _
 have J5:Bx2 U R.heap.size (.slice s J.l.length A) (.slice M J.n E):=by rw [<- Q];exact Bx2.made _ _ _ _
 have HO:=hid (o4.bw b5);have T:=hid (Qaa b4 b5);have Hc:=hid J5;obtain⟨j0,j1⟩:=J5.q2;clear o4 b4 b5 J5 HJ a0 a1 y0 D;cases B with
 | false=>
  have y:=hid (Below.refl U.heap.size U);have j:=Qaa T y;have r:=O.bw j O.lt;have q:=hid r;have Z:=hid (Qaa HB j);have Ha:Hid (∀w',Bl U w' ->(w'.cell? ⟨3,0,none⟩=some (.iface t u)/\ w'.cell? ⟨w.heap.size+1+1,0,none⟩=some (.slice none 0 0)/\ w'.cell? ⟨w.heap.size+1+1,1,none⟩=some (.slice none 0 0)/\ (∀i,w'.frozen? ⟨w.heap.size+1+1,i,none⟩=false))):=hid (fun w' hb=>by
   have z:=q.bw hb q.lt;have hz:=HZ.out;exact⟨((Qaa j hb).cell (p:=⟨3,0,none⟩) (by have:=P.out;show 3<W.heap.size;omega)).trans He,z.c0,z.c1,z.f⟩)
  clear j r;go_wp2_with fail;try rw [Q]
  clear Q;refine zS Ha (fun qh=> ?_);refine tZ 0 21 ?_;refine tZ 1 22 ?_;obtain⟨z0,b⟩:=zE U.drew;have g:Bl U z0:=by rw [<- b];exact zI.drew
  rw [b] at qh ⊢;clear b;obtain⟨N,m2,m3,m4⟩:=qh;have k:=q.bw g q.lt;have m:=k.set (.slice none 0 0) (.slice none 0 0);have D:=(k.set0 (.slice none 0 0)).c1;have yf:=(k.set0 (.slice none 0 0)).f;refine cZ 2 ?_;intro K L;go_simp;have V:=P.out;refine L.out _ _ ⟨(by rw [World.cell?_setCell_far _ _ _ _ (by simp;omega),World.cell?_setCell_far _ _ _ _ (by simp;omega)];exact N),m.c0,m.c1,m.f⟩ (fun qh=> ?_);clear L K;try simp only [zP]
  refine tZ 3 5 ?_;refine zD ?_;obtain⟨x0,C⟩:=m.q2;have G:=hid (((Qaa Z g).setCell (p:=⟨w.heap.size+1+1,0,none⟩) (by simp;omega) (.slice none 0 0)).setCell (p:=⟨w.heap.size+1+1,1,none⟩) (by simp;omega) (.slice none 0 0));clear k m D yf N m2 m3 m4 g;go_wp2_with fail;refine zF (v:=.tuple #[.agg #[.slice none 0 0,.slice none 0 0],.iface t u]) (by simp [results,Tryz.results49,go_sem,x0,C]) ?_;exact⟨Sx.mt,none,0,none,0,.iface t u,rfl,(fun h=>by cases h),.inr ⟨rfl,t,u,rfl⟩,SOw.mt _ Sx.mt rfl rfl _ _ ⟨G.size,Nat.le_refl _⟩ _ _ _,G⟩
 | true=>
  have Hb:=hid (Qny s M A E J U Hd.2 Hd.1 HO.at);rw [HF.out] at Hb;go_wp2_with fail;try rw [Q]
  clear Q;refine Hb.mono ?_;rintro e X ⟨rfl,b6⟩;have y:=hid b6;clear b6 Hb;cases F with
  | false=>
   have j:=Qaa T y;have r:=O.bw j O.lt;have q:=hid r;have Z:=hid (Qaa HB j);have Ha:Hid (∀w',Bl X w' ->(w'.cell? ⟨3,0,none⟩=some (.iface t u)/\ w'.cell? ⟨w.heap.size+1+1,0,none⟩=some (.slice none 0 0)/\ w'.cell? ⟨w.heap.size+1+1,1,none⟩=some (.slice none 0 0)/\ (∀i,w'.frozen? ⟨w.heap.size+1+1,i,none⟩=false))):=hid (fun w' hb=>by
    have z:=q.bw hb q.lt;have hz:=HZ.out;exact⟨((Qaa j hb).cell (p:=⟨3,0,none⟩) (by have:=P.out;show 3<W.heap.size;omega)).trans He,z.c0,z.c1,z.f⟩)
   clear j r;go_wp2_with fail;refine zS Ha (fun qh=> ?_);refine tZ 0 21 ?_;refine tZ 1 22 ?_;obtain⟨z0,b⟩:=zE X.drew;have g:Bl X z0:=by rw [<- b];exact zI.drew
   rw [b] at qh ⊢;clear b;obtain⟨N,m2,m3,m4⟩:=qh;have k:=q.bw g q.lt;have m:=k.set (.slice none 0 0) (.slice none 0 0);have D:=(k.set0 (.slice none 0 0)).c1;have yf:=(k.set0 (.slice none 0 0)).f;refine cZ 2 ?_;intro K L;go_simp;have V:=P.out;refine L.out _ _ ⟨(by rw [World.cell?_setCell_far _ _ _ _ (by simp;omega),World.cell?_setCell_far _ _ _ _ (by simp;omega)];exact N),m.c0,m.c1,m.f⟩ (fun qh=> ?_);clear L K;try simp only [zP]
   refine tZ 3 5 ?_;refine zD ?_;obtain⟨x0,C⟩:=m.q2;have G:=hid (((Qaa Z g).setCell (p:=⟨w.heap.size+1+1,0,none⟩) (by simp;omega) (.slice none 0 0)).setCell (p:=⟨w.heap.size+1+1,1,none⟩) (by simp;omega) (.slice none 0 0));clear k m D yf N m2 m3 m4 g;go_wp2_with fail;refine zF (v:=.tuple #[.agg #[.slice none 0 0,.slice none 0 0],.iface t u]) (by simp [results,Tryz.results49,go_sem,x0,C]) ?_;exact⟨Sx.mt,none,0,none,0,.iface t u,rfl,(fun h=>by cases h),.inr ⟨rfl,t,u,rfl⟩,SOw.mt _ Sx.mt rfl rfl _ _ ⟨G.size,Nat.le_refl _⟩ _ _ _,G⟩
  | true=>
   have j:=Qaa T y;have r:=O.bw j O.lt;have J6:=Hc.bw y Hc.lt;obtain⟨j0,j1⟩:=J6.q2;obtain⟨r0,r1,rf⟩:=r.p2;have k:=hid (r.set (.slice s J.l.length A) (.slice M J.n E));have Z:=hid (Qaa HB j);have Hh:=hid (HO.bw y);have Hi:Hid (R.heap.size<=X.heap.size/\ W.heap.size<=X.heap.size):=hid ⟨by have h1:=y.size;have h2:=Hc.lt;omega,j.size⟩;clear j r J6;go_wp2_with fail;obtain⟨x0,C⟩:=k.q2;refine zF (v:=.tuple #[.agg #[.slice s J.l.length A,.slice M J.n E],.nilIface]) (by simp [results,Tryz.results49,go_sem,x0,C]) ?_;have hz:=HZ.out;have G1:=(Hh.set ⟨w.heap.size+1+1,0,none⟩ (.slice s J.l.length A) (.inl (by show w.heap.size+1+1<_;omega))).set ⟨w.heap.size+1+1,1,none⟩ (.slice M J.n E) (.inl (by show w.heap.size+1+1<_;omega));exact⟨J,s,A,M,E,.nilIface,rfl,fun _=>Hg.symm,.inl ⟨rfl,rfl⟩,G1.wide (by omega) (by have:=Hi.out;simp [World.setCell];omega) zL,(Z.setCell (p:=⟨w.heap.size+1+1,0,none⟩) (by simp;omega) _).setCell (p:=⟨w.heap.size+1+1,1,none⟩) (by simp;omega) _⟩
theorem QlK {P:Program}{ops:Array Oper}{Q:Exit ->Act ->World ->Prop}{md:Region.Mode}{S:World ->Prop}{i j:Nat}{d d' d'':Option Tmp}{fuel:Nat}{listed:Array Bool}{a:Act}
  (hd:ops[i]?.map (fun o=>o.dst)=some d) (hd':ops[j]?.map (fun o=>o.dst)=some d') (hd'':ops[k]?.map (fun o=>o.dst)=some d'') (hr:Region.ready md ops listed=[i,j,k])
  (h:∀o,ops[i]? =some o ->o.dst=d ->∀K':Act ->World ->Prop,Shut (∀a w,S w ->(S w ->wpAnyH P md ops Q S fuel (listed.setIfInBounds i true) a w) ->K' a w) ->if Region.wanted o (yielded ops a.tmps)=true then Oper.wp P o a w K' Q else K' (a.put o.dst undef) w)
  (h':∀o,ops[j]? =some o ->o.dst=d' ->∀K':Act ->World ->Prop,Shut (∀a w,S w ->(S w ->wpAnyH P md ops Q S fuel (listed.setIfInBounds j true) a w) ->K' a w) ->if Region.wanted o (yielded ops a.tmps)=true then Oper.wp P o a w K' Q else K' (a.put o.dst undef) w)
  (h'':∀o,ops[k]? =some o ->o.dst=d'' ->∀K':Act ->World ->Prop,Shut (∀a w,S w ->(S w ->wpAnyH P md ops Q S fuel (listed.setIfInBounds k true) a w) ->K' a w) ->if Region.wanted o (yielded ops a.tmps)=true then Oper.wp P o a w K' Q else K' (a.put o.dst undef) w):
  wpAnyH P md ops Q S (fuel+1) listed a w:=by
 obtain⟨o,m,u⟩:=Option.map_eq_some_iff.1 hd;obtain⟨z,q,v⟩:=Option.map_eq_some_iff.1 hd';obtain⟨g,r,y⟩:=Option.map_eq_some_iff.1 hd'';exact wpAnyH_ready hr (by simp) (AllReadyH.cons m (h o m u) (AllReadyH.cons q (h' z q v) (AllReadyH.cons r (h'' g r y) AllReadyH.nil)))
structure RpO (w:World)(rb:Nat)(id:Int)(lo mid hi:Nat)(a x a' x':Option Addr)(c d c' d':Nat)(S D:Sx):Prop where
 bx:Bx5 w rb (.int .i64 id) (.slice a S.l.length c) (.slice x S.n d) (.slice a' D.l.length c') (.slice x' D.n d')
 s:SOw w lo mid a x d S
 t:SOw w mid hi a' x' d' D
theorem RpO.bw{id:Int}(h:RpO w rb id lo mid hi a x a' x' c d c' d' S D)(hb:Bl w w1):RpO w1 rb id lo mid hi a x a' x' c d c' d' S D:=⟨h.bx.bw hb h.bx.lt,h.s.bw hb,h.t.bw hb⟩
def CgP (rb:Nat)(id:Int)(B:Nat)(X Z:Sx)(C:Int)(w:World)(e:Ending)(w':World):Prop:=∃er lo mid hi a x a' x' c d c' d',e=.returned er/\ (C=0/\ er=.nilIface \/∃b,er=.iface 84 (.pointer (some ⟨b,0,none⟩))/\ w'.cell? ⟨b,0,none⟩=some (.int .i64 C))/\ RpO w' rb id lo mid hi a x a' x' c d c' d' X Z/\ B<=lo/\ w.grownBy w' (some rb)
theorem QhR{id:Int}(h:RpO w1 rb id lo mid hi a x a' x' c d c' d' S D)(hB:B<=lo)(hb:Bl w w1)(er:Value):CgP rb id B S D C w (.returned (.iface 84 (.pointer (some ⟨w1.heap.size,0,none⟩)))) (w1.alloc (.cells #[.int .i64 C,er] 86)):=by
 have m:Bl w1 (w1.alloc (.cells #[.int .i64 C,er] 86)):=zO _ _;have j:=Qaa hb m;exact⟨_,lo,mid,hi,a,x,a',x',c,d,c',d',rfl,.inr ⟨_,rfl,by simp⟩,h.bw m,hB,j.os,j.tape,j.output,j.size,fun k hk _=>j.block k hk⟩
theorem Qom(h:Bl w w1)(v1 v2 v3 v4:Value):w.grownBy ((((w1.setCell ⟨rb,1,none⟩ v1).setCell ⟨rb,2,none⟩ v2).setCell ⟨rb,3,none⟩ v3).setCell ⟨rb,4,none⟩ v4) (some rb):=
 ⟨h.os,h.tape,h.output,by simpa [World.setCell] using h.size,fun k hk hne=>by
  have e:∀i,k≠(⟨rb,i,none⟩:Addr).block:=fun i e=>hne (by rw [e]);rw [zH _ _ _ _ (e _),zH _ _ _ _ (e _),zH _ _ _ _ (e _),zH _ _ _ _ (e _)];exact h.block k hk⟩
theorem QlP(h:SOw w lo hi a x d S)(hr:rb<lo)(v1 v2 v3 v4:Value):SOw ((((w.setCell ⟨rb,1,none⟩ v1).setCell ⟨rb,2,none⟩ v2).setCell ⟨rb,3,none⟩ v3).setCell ⟨rb,4,none⟩ v4) lo hi a x d S:=
 (((h.set ⟨rb,1,none⟩ _ (.inl hr)).set ⟨rb,2,none⟩ _ (.inl hr)).set ⟨rb,3,none⟩ _ (.inl hr)).set ⟨rb,4,none⟩ _ (.inl hr)
structure AfA (U wx:World)(A5 A6:Nat)(xa xx xa' xx':Option Addr)(xc xd xc' xd' lo mid hi:Nat)(X Y:Sx):Prop where
 b5:Bx2 wx A5 (.slice xa X.l.length xc) (.slice xx X.n xd)
 b6:Bx2 wx A6 (.slice xa' Y.l.length xc') (.slice xx' Y.n xd')
 sx:SOw wx lo mid xa xx xd X
 sy:SOw wx mid hi xa' xx' xd' Y
 lo:U.heap.size<=lo
 low:Bl U wx
theorem AfA.made {U:World}{A5 A6:Nat}{xa xx xa' xx':Option Addr}{xc xd xc' xd':Nat}{u0 u1 u2 u3:Value}(h5:Bx2 w A5 u0 u1)(h6:Bx2 w A6 u2 u3)(hne:A5≠A6)(hx:SOw w lo mid xa xx xd X)(hy:SOw w mid hi xa' xx' xd' Y)(hlo:U.heap.size<=lo)(hb:Bl U w)(k5:U.heap.size<=A5)(k6:U.heap.size<=A6)(g5:A5<lo \/hi<=A5)(g6:A6<lo \/hi<=A6):
  AfA U ((((w.setCell ⟨A5,0,none⟩ (.slice xa X.l.length xc)).setCell ⟨A5,1,none⟩ (.slice xx X.n xd)).setCell ⟨A6,0,none⟩ (.slice xa' Y.l.length xc')).setCell ⟨A6,1,none⟩ (.slice xx' Y.n xd')) A5 A6 xa xx xa' xx' xc xd xc' xd' lo mid hi X Y:=by
 have j:=Qhn h5 h6 hne (.slice xa X.l.length xc) (.slice xx X.n xd) (.slice xa' Y.l.length xc') (.slice xx' Y.n xd');have k:=hx.hl;have m:=hy.hl;exact⟨j.2.1,j.2.2,(((hx.set ⟨A5,0,none⟩ _ (by show A5<lo \/mid<=A5;omega)).set ⟨A5,1,none⟩ _ (by show A5<lo \/mid<=A5;omega)).set ⟨A6,0,none⟩ _ (by show A6<lo \/mid<=A6;omega)).set ⟨A6,1,none⟩ _ (by show A6<lo \/mid<=A6;omega),(((hy.set ⟨A5,0,none⟩ _ (by show A5<mid \/hi<=A5;omega)).set ⟨A5,1,none⟩ _ (by show A5<mid \/hi<=A5;omega)).set ⟨A6,0,none⟩ _ (by show A6<mid \/hi<=A6;omega)).set ⟨A6,1,none⟩ _ (by show A6<mid \/hi<=A6;omega),hlo,Qbg hb k5 k6 _ _ _ _⟩
structure ErD (w:World):Prop where
 e1:∃t u,w.cell? ⟨0,0,none⟩=some (.iface t u)
 e2:∃t u,w.cell? ⟨1,0,none⟩=some (.iface t u)
 e3:∃t u,w.cell? ⟨2,0,none⟩=some (.iface t u)
 e4:∃t u,w.cell? ⟨3,0,none⟩=some (.iface t u)
 gY:w.cell? ⟨4,0,none⟩=some (.iface 173 (.agg #[.pointer (some ⟨5,65,none⟩)]))
theorem ErD.bw(h:ErD w)(hb:Bl w w'):ErD w':=by
 have k:∀g,(∃t u,w.cell? ⟨g,0,none⟩=some (.iface t u)) ->∃t u,w'.cell? ⟨g,0,none⟩=some (.iface t u):=fun g ⟨t,u,e⟩=>⟨t,u,(hb.cell (p:=⟨g,0,none⟩) (block_lt_of_cell e)).trans e⟩;exact⟨k _ h.e1,k _ h.e2,k _ h.e3,k _ h.e4,(hb.cell (p:=⟨4,0,none⟩) (block_lt_of_cell h.gY)).trans h.gY⟩
theorem Qjp (rb:Nat)(id:Int)(lo Hl hi pc:Nat)(a x a' x' pa:Option Addr)(c d c' d':Nat)(S D:Sx)(k:Int)(p:List ByteArray)(v:ByteArray)(X Z:Sx)(C:Int)(w:World)(hq:doR id S D k p v=(X,Z,C))(hm:SmI S)(hm':SmI D)(h:RpO w rb id lo Hl hi a x a' x' c d c' d' S D)(hp:p.length<=1048576)(hseg:Qaw w pa p)(hv:v.size<=1048576)(hid':(Lit.int .i64 id).wf=true)(hG:ErD w):
  Cl 25 #[.pointer (some ⟨rb,0,none⟩),.agg #[.int .i64 k,.slice pa p.length pc,.string v]] w fun e w'=>CgP rb id lo X Z C w e w':=by
 obtain⟨W,hW⟩:=zE (w.alloc (.cells #[.int .i64 k,.slice pa p.length pc,.string v] 46));have b0:Bl w W:=by rw [<- hW];exact zO _ _
 have O0:Bx3 W w.heap.size (.int .i64 k) (.slice pa p.length pc) (.string v):=by rw [<- hW];exact Bx3.made _ _ _ _ _
 have R0:=h.bw b0;have G0:=hG.bw b0;have Gq:=hid (Qe6 id a x a' x' c d c' d' S D W hm.2 hm'.2 hm.1 hm'.1 R0.s.at R0.t.at);have Gr:=hid (fun u=>QnL k pa pc p v u);obtain⟨A,P,C1,hc⟩:∃A P C1,chg S id k p v=(A,P,C1):=⟨_,_,_,rfl⟩;have Gn:Hid (opB k v=true ->∀u,Bl W u ->Cl 47 #[.agg #[.int .i64 k,.slice pa p.length pc,.string v],.agg #[.slice a S.l.length c,.slice x S.n d],.int .i64 id] u fun e w'=>ChI A P C1 u e w'):=hid (fun M u hb=>Qmh id a x pa c d pc S k p v A P C1 u hc M hm (R0.s.at.bw hb) hp ((hseg.bw b0).bw hb) hv hid');have Gj:=hid (QfM hc);have Gu:=hid hm';have HQ:=hid hq;have Gc:=hid hc;have HO:=hid O0;have HR:=hid R0;have HB:=hid b0;have HG:=hid G0;obtain⟨k0,k1,k2,k3,k4⟩:=R0.bx.q5;clear b0 O0 R0 G0 h hG hseg hq hc;go_enter Tryz.func25,Tryz.ntmps25;go_wp2_with fail;try rw [hW]
 clear hW;refine Gq.mono ?_;rintro e w1 ⟨rfl,b1⟩;have H1:=hid b1;clear b1 Gq k0 k1 k2 k3 k4;cases hr:rpB id S D with
 | false=>
  have e:=HQ.out;rw [Qob hr] at e;injection e with e1 e2;injection e2 with e2 e3;subst e1 e2 e3;obtain⟨tt,uu,gg⟩:=(HG.bw H1).e1;have HE:=hid (QhR (C:=1) (HR.bw H1) zL (Qaa HB H1) (.iface tt uu));clear HQ;go_wp2_with fail;go_ret;exact HE
 | true=>
 have O1:=HO.bw H1 HO.lt;obtain⟨o0,o1,o2⟩:=O1.q3;clear O1;go_wp2_with fail;refine(Gr w1).mono ?_;rintro e U ⟨rfl,b2⟩;have H2:=hid (Qaa H1 b2);clear b2 Gr o0 o1 o2;cases M:opB k v with
 | false=>
  have e:=HQ.out;rw [Qoc hr M] at e;injection e with e1 e2;injection e2 with e2 e3;subst e1 e2 e3;obtain⟨tt,uu,gg⟩:=(HG.bw H2).e2;have HE:=hid (QhR (C:=5) (HR.bw H2) zL (Qaa HB H2) (.iface tt uu));clear HQ;go_wp2_with fail;go_ret;exact HE
 | true=>
 have Hy:=hid (fun u(hb:Bl U u)=>Gn.out M u (Qaa H2 hb));have O:Hid (∀w',Bl U w' ->(w'.cell? ⟨w.heap.size,0,none⟩=some (.int .i64 k)/\ w'.cell? ⟨w.heap.size,1,none⟩=some (.slice pa p.length pc)/\ w'.cell? ⟨w.heap.size,2,none⟩=some (.string v)/\ w'.cell? ⟨rb,0,none⟩=some (.int .i64 id)/\ w'.cell? ⟨rb,1,none⟩=some (.slice a S.l.length c)/\ w'.cell? ⟨rb,2,none⟩=some (.slice x S.n d))):=hid (fun w' hb=>by
  have O2:=HO.bw (Qaa H2 hb) HO.lt;have R2:=HR.bx.bw (Qaa H2 hb) HR.bx.lt;exact⟨O2.c0,O2.c1,O2.c2,R2.c0,R2.c1,R2.c2⟩)
 clear Gn;go_upto_region 5 with fail;go_cut [5,6,7] from 26 to 39 (fun v5 v6 v7 wx=>∃b A6 I xc N L Hd xc' Hf He l Hl hh,v5=.pointer (some ⟨b,0,none⟩)/\ v6=.pointer (some ⟨A6,0,none⟩)/\ v7=.int .i64 C1/\ Hid (AfA U wx b A6 I N Hd Hf xc L xc' He l Hl hh A P));case first=>
  refine zS O (fun qh=> ?_);refine tZ 0 27 ?_;refine tZ 1 28 ?_;refine tZ 2 29 ?_;refine tZ 3 30 ?_;refine tZ 4 31 ?_;refine tZ 5 32 ?_;refine tZ 6 33 ?_;refine tZ 7 34 ?_;refine tZ 8 35 ?_;obtain⟨H,Hx⟩:=zE U.drew;have Ho:Bl U H:=by rw [<- Hx];exact zI.drew
  rw [Hx];clear Hx;refine QlK (i:=9) (j:=14) (k:=15) (d:=some 36) (d':=some 5) (d'':=some 6) (by kernel_rfl) (by kernel_rfl) (by kernel_rfl) (by kernel_rfl) ?_ ?_ ?_
  ·skip;intro o M Hw K m;simp only [gZa,gZb,gZc,gZd] at M;subst M;go_simp;obtain⟨l,hl⟩:=zE H.heap.size;refine(Hy _ Ho).mono ?_;rintro e y ⟨I,xc,N,L,Hd,xc',Hf,He,Hl,rfl,Q,Y,q⟩;have Hb:=Qaa Ho q;obtain⟨hh,Hk⟩:=zE y.heap.size;have H7:=q.size;have H6:=Ho.size;rw [hl] at Q;rw [Hk] at Y;replace hl:H.heap.size<=l/\ l<=H.heap.size:=by omega
   replace Hk:y.heap.size<=hh/\ hh<=y.heap.size:=by omega
   refine m.out _ _ (O _ Hb) (fun qh=> ?_);clear m K;try simp only [zP]
   clear q;refine tZ 10 26 ?_;refine tZ 11 37 ?_;refine tZ 12 38 ?_;refine tZ 13 39 ?_;refine Qa0 (i:=14) (j:=15) (d:=some 5) (d':=some 6) (by kernel_rfl) (by kernel_rfl) (by kernel_rfl) ?_ ?_
   ·skip;intro o M Hw K m;simp only [gZa,gZb,gZc,gZd] at M;subst M;go_simp;obtain⟨r,T⟩:=zE (y.alloc (.cells #[.slice none 0 0,.slice none 0 0] 40));have q:Bl y r:=by rw [<- T];exact zO _ _
    have z:Bx2 r y.heap.size (.slice none 0 0) (.slice none 0 0):=by rw [<- T];exact Bx2.made _ _ _ _
    have Gd:=Hb.size;have Gf:r.heap.size<=y.heap.size+1/\ y.heap.size+1<=r.heap.size:=by rw [<- T];simp
    have R:=Qaa Hb q;obtain⟨b,Hi⟩:=zE y.heap.size;rw [Hi] at z ⊢;rw [T];clear T;replace Hi:y.heap.size<=b/\ b<=y.heap.size:=by omega
    replace Q:=Q.bw q
    replace Y:=Y.bw q
    refine m.out _ _ (O _ R) (fun qh=> ?_);clear m K;try simp only [zP]
    clear q;refine cZ 15 ?_;intro K m;go_simp;obtain⟨z3,Ha⟩:=zE (r.alloc (.cells #[.slice none 0 0,.slice none 0 0] 40));have q:Bl r z3:=by rw [<- Ha];exact zO _ _
    have g:Bx2 z3 r.heap.size (.slice none 0 0) (.slice none 0 0):=by rw [<- Ha];exact Bx2.made _ _ _ _
    have Ge:=R.size;have Gg:z3.heap.size<=r.heap.size+1/\ r.heap.size+1<=z3.heap.size:=by rw [<- Ha];simp
    have Hc:=Qaa R q;obtain⟨A6,Hj⟩:=zE r.heap.size;rw [Hj] at g ⊢;rw [Ha];clear Ha;replace Hj:r.heap.size<=A6/\ A6<=r.heap.size:=by omega
    have Ga:=z.lt;replace z:=z.bw q z.lt
    replace Q:=Q.bw q
    replace Y:=Y.bw q
    refine m.out _ _ (O _ Hc) (fun qh=> ?_);clear m K;try simp only [zP]
    clear q;obtain⟨Hm,Hn,Hp⟩:=z.p2;refine cZ 16 ?_;intro K m;go_simp;have T6:=Qhn z g (by omega) (.slice I A.l.length xc) (.slice N A.n L) (.slice Hd P.l.length xc') (.slice Hf P.n He);have G:=AfA.made (xc:=xc) (xc':=xc') z g (by omega) Q Y (by omega) Hc (by omega) (by omega) (by omega) (by omega);have Hg:=(Hc.setCell (p:=⟨b,0,none⟩) (by show U.heap.size<=b;omega) (.slice I A.l.length xc)).setCell (p:=⟨b,1,none⟩) (by show U.heap.size<=b;omega) (.slice N A.n L);refine m.out _ _ (O _ Hg) (fun qh=> ?_);clear m K;try simp only [zP]
    obtain⟨Hq,Hr,Hs⟩:=T6.1.p2;refine cZ 17 ?_;intro K m;go_simp;refine m.out _ _ (O _ G.low) (fun qh=> ?_);clear m K;try simp only [zP]
    refine tZ 18 7 ?_;refine zD ?_;have Hh:=hid G;clear G Hg T6 Hm Hn Hp Hq Hr Hs z g Q Y qh;go_wp2_with fail;go_meet;exact⟨b,A6,I,xc,N,L,Hd,xc',Hf,He,l,Hl,hh,rfl,rfl,rfl,Hh⟩
   ·skip;intro o M Hw K m;simp only [gZa,gZb,gZc,gZd] at M;subst M;go_simp;obtain⟨r,Ha⟩:=zE (y.alloc (.cells #[.slice none 0 0,.slice none 0 0] 40));have q:Bl y r:=by rw [<- Ha];exact zO _ _
    have g:Bx2 r y.heap.size (.slice none 0 0) (.slice none 0 0):=by rw [<- Ha];exact Bx2.made _ _ _ _
    have Ge:=Hb.size;have Gg:r.heap.size<=y.heap.size+1/\ y.heap.size+1<=r.heap.size:=by rw [<- Ha];simp
    have R:=Qaa Hb q;obtain⟨A6,Hj⟩:=zE y.heap.size;rw [Hj] at g ⊢;rw [Ha];clear Ha;replace Hj:y.heap.size<=A6/\ A6<=y.heap.size:=by omega
    replace Q:=Q.bw q
    replace Y:=Y.bw q
    refine m.out _ _ (O _ R) (fun qh=> ?_);clear m K;try simp only [zP]
    clear q;refine cZ 14 ?_;intro K m;go_simp;obtain⟨z3,T⟩:=zE (r.alloc (.cells #[.slice none 0 0,.slice none 0 0] 40));have q:Bl r z3:=by rw [<- T];exact zO _ _
    have z:Bx2 z3 r.heap.size (.slice none 0 0) (.slice none 0 0):=by rw [<- T];exact Bx2.made _ _ _ _
    have Gd:=R.size;have Gf:z3.heap.size<=r.heap.size+1/\ r.heap.size+1<=z3.heap.size:=by rw [<- T];simp
    have Hc:=Qaa R q;obtain⟨b,Hi⟩:=zE r.heap.size;rw [Hi] at z ⊢;rw [T];clear T;replace Hi:r.heap.size<=b/\ b<=r.heap.size:=by omega
    have Gb:=g.lt;replace g:=g.bw q g.lt
    replace Q:=Q.bw q
    replace Y:=Y.bw q
    refine m.out _ _ (O _ Hc) (fun qh=> ?_);clear m K;try simp only [zP]
    clear q;obtain⟨Hm,Hn,Hp⟩:=z.p2;refine cZ 16 ?_;intro K m;go_simp;have T6:=Qhn z g (by omega) (.slice I A.l.length xc) (.slice N A.n L) (.slice Hd P.l.length xc') (.slice Hf P.n He);have G:=AfA.made (xc:=xc) (xc':=xc') z g (by omega) Q Y (by omega) Hc (by omega) (by omega) (by omega) (by omega);have Hg:=(Hc.setCell (p:=⟨b,0,none⟩) (by show U.heap.size<=b;omega) (.slice I A.l.length xc)).setCell (p:=⟨b,1,none⟩) (by show U.heap.size<=b;omega) (.slice N A.n L);refine m.out _ _ (O _ Hg) (fun qh=> ?_);clear m K;try simp only [zP]
    obtain⟨Hq,Hr,Hs⟩:=T6.1.p2;refine cZ 17 ?_;intro K m;go_simp;refine m.out _ _ (O _ G.low) (fun qh=> ?_);clear m K;try simp only [zP]
    refine tZ 18 7 ?_;refine zD ?_;have Hh:=hid G;clear G Hg T6 Hm Hn Hp Hq Hr Hs z g Q Y qh;go_wp2_with fail;go_meet;exact⟨b,A6,I,xc,N,L,Hd,xc',Hf,He,l,Hl,hh,rfl,rfl,rfl,Hh⟩
  ·skip;intro o M Hw K m;simp only [gZa,gZb,gZc,gZd] at M;subst M;go_simp;obtain⟨y,T⟩:=zE (H.alloc (.cells #[.slice none 0 0,.slice none 0 0] 40));have q:Bl H y:=by rw [<- T];exact zO _ _
   have z:Bx2 y H.heap.size (.slice none 0 0) (.slice none 0 0):=by rw [<- T];exact Bx2.made _ _ _ _
   have Gd:=Ho.size;have Gf:y.heap.size<=H.heap.size+1/\ H.heap.size+1<=y.heap.size:=by rw [<- T];simp
   have Hb:=Qaa Ho q;obtain⟨b,Hi⟩:=zE H.heap.size;rw [Hi] at z ⊢;rw [T];clear T;replace Hi:H.heap.size<=b/\ b<=H.heap.size:=by omega
   refine m.out _ _ (O _ Hb) (fun qh=> ?_);clear m K;try simp only [zP]
   clear q;refine Qa0 (i:=9) (j:=15) (d:=some 36) (d':=some 6) (by kernel_rfl) (by kernel_rfl) (by kernel_rfl) ?_ ?_
   ·skip;intro o M Hw K m;simp only [gZa,gZb,gZc,gZd] at M;subst M;go_simp;obtain⟨l,hl⟩:=zE y.heap.size;refine(Hy _ Hb).mono ?_;rintro e r ⟨I,xc,N,L,Hd,xc',Hf,He,Hl,rfl,Q,Y,q⟩;have R:=Qaa Hb q;obtain⟨hh,Hk⟩:=zE r.heap.size;have H7:=q.size;have H6:=Hb.size;have Gs:=z.lt;replace z:=z.bw q z.lt
    rw [hl] at Q;rw [Hk] at Y;replace hl:y.heap.size<=l/\ l<=y.heap.size:=by omega
    replace Hk:r.heap.size<=hh/\ hh<=r.heap.size:=by omega
    refine m.out _ _ (O _ R) (fun qh=> ?_);clear m K;try simp only [zP]
    clear q;refine tZ 10 26 ?_;refine tZ 11 37 ?_;refine tZ 12 38 ?_;refine tZ 13 39 ?_;refine cZ 15 ?_;intro K m;go_simp;obtain⟨z3,Ha⟩:=zE (r.alloc (.cells #[.slice none 0 0,.slice none 0 0] 40));have q:Bl r z3:=by rw [<- Ha];exact zO _ _
    have g:Bx2 z3 r.heap.size (.slice none 0 0) (.slice none 0 0):=by rw [<- Ha];exact Bx2.made _ _ _ _
    have Ge:=R.size;have Gg:z3.heap.size<=r.heap.size+1/\ r.heap.size+1<=z3.heap.size:=by rw [<- Ha];simp
    have Hc:=Qaa R q;obtain⟨A6,Hj⟩:=zE r.heap.size;rw [Hj] at g ⊢;rw [Ha];clear Ha;replace Hj:r.heap.size<=A6/\ A6<=r.heap.size:=by omega
    have Ga:=z.lt;replace z:=z.bw q z.lt
    replace Q:=Q.bw q
    replace Y:=Y.bw q
    refine m.out _ _ (O _ Hc) (fun qh=> ?_);clear m K;try simp only [zP]
    clear q;obtain⟨Hm,Hn,Hp⟩:=z.p2;refine cZ 16 ?_;intro K m;go_simp;have T6:=Qhn z g (by omega) (.slice I A.l.length xc) (.slice N A.n L) (.slice Hd P.l.length xc') (.slice Hf P.n He);have G:=AfA.made (xc:=xc) (xc':=xc') z g (by omega) Q Y (by omega) Hc (by omega) (by omega) (by omega) (by omega);have Hg:=(Hc.setCell (p:=⟨b,0,none⟩) (by show U.heap.size<=b;omega) (.slice I A.l.length xc)).setCell (p:=⟨b,1,none⟩) (by show U.heap.size<=b;omega) (.slice N A.n L);refine m.out _ _ (O _ Hg) (fun qh=> ?_);clear m K;try simp only [zP]
    obtain⟨Hq,Hr,Hs⟩:=T6.1.p2;refine cZ 17 ?_;intro K m;go_simp;refine m.out _ _ (O _ G.low) (fun qh=> ?_);clear m K;try simp only [zP]
    refine tZ 18 7 ?_;refine zD ?_;have Hh:=hid G;clear G Hg T6 Hm Hn Hp Hq Hr Hs z g Q Y qh;go_wp2_with fail;go_meet;exact⟨b,A6,I,xc,N,L,Hd,xc',Hf,He,l,Hl,hh,rfl,rfl,rfl,Hh⟩
   ·skip;intro o M Hw K m;simp only [gZa,gZb,gZc,gZd] at M;subst M;go_simp;obtain⟨r,Ha⟩:=zE (y.alloc (.cells #[.slice none 0 0,.slice none 0 0] 40));have q:Bl y r:=by rw [<- Ha];exact zO _ _
    have g:Bx2 r y.heap.size (.slice none 0 0) (.slice none 0 0):=by rw [<- Ha];exact Bx2.made _ _ _ _
    have Ge:=Hb.size;have Gg:r.heap.size<=y.heap.size+1/\ y.heap.size+1<=r.heap.size:=by rw [<- Ha];simp
    have R:=Qaa Hb q;obtain⟨A6,Hj⟩:=zE y.heap.size;rw [Hj] at g ⊢;rw [Ha];clear Ha;replace Hj:y.heap.size<=A6/\ A6<=y.heap.size:=by omega
    have Ga:=z.lt;replace z:=z.bw q z.lt
    refine m.out _ _ (O _ R) (fun qh=> ?_);clear m K;try simp only [zP]
    clear q;refine cZ 9 ?_;intro K m;go_simp;obtain⟨l,hl⟩:=zE r.heap.size;refine(Hy _ R).mono ?_;rintro e z3 ⟨I,xc,N,L,Hd,xc',Hf,He,Hl,rfl,Q,Y,q⟩;have Hc:=Qaa R q;obtain⟨hh,Hk⟩:=zE z3.heap.size;have H7:=q.size;have H6:=R.size;have Gs:=z.lt;replace z:=z.bw q z.lt
    have Gt:=g.lt;replace g:=g.bw q g.lt
    rw [hl] at Q;rw [Hk] at Y;replace hl:r.heap.size<=l/\ l<=r.heap.size:=by omega
    replace Hk:z3.heap.size<=hh/\ hh<=z3.heap.size:=by omega
    refine m.out _ _ (O _ Hc) (fun qh=> ?_);clear m K;try simp only [zP]
    clear q;refine tZ 10 26 ?_;refine tZ 11 37 ?_;refine tZ 12 38 ?_;refine tZ 13 39 ?_;obtain⟨Hm,Hn,Hp⟩:=z.p2;refine cZ 16 ?_;intro K m;go_simp;have T6:=Qhn z g (by omega) (.slice I A.l.length xc) (.slice N A.n L) (.slice Hd P.l.length xc') (.slice Hf P.n He);have G:=AfA.made (xc:=xc) (xc':=xc') z g (by omega) Q Y (by omega) Hc (by omega) (by omega) (by omega) (by omega);have Hg:=(Hc.setCell (p:=⟨b,0,none⟩) (by show U.heap.size<=b;omega) (.slice I A.l.length xc)).setCell (p:=⟨b,1,none⟩) (by show U.heap.size<=b;omega) (.slice N A.n L);refine m.out _ _ (O _ Hg) (fun qh=> ?_);clear m K;try simp only [zP]
    obtain⟨Hq,Hr,Hs⟩:=T6.1.p2;refine cZ 17 ?_;intro K m;go_simp;refine m.out _ _ (O _ G.low) (fun qh=> ?_);clear m K;try simp only [zP]
    refine tZ 18 7 ?_;refine zD ?_;have Hh:=hid G;clear G Hg T6 Hm Hn Hp Hq Hr Hs z g Q Y qh;go_wp2_with fail;go_meet;exact⟨b,A6,I,xc,N,L,Hd,xc',Hf,He,l,Hl,hh,rfl,rfl,rfl,Hh⟩
  ·skip;intro o M Hw K m;simp only [gZa,gZb,gZc,gZd] at M;subst M;go_simp;obtain⟨y,Ha⟩:=zE (H.alloc (.cells #[.slice none 0 0,.slice none 0 0] 40));have q:Bl H y:=by rw [<- Ha];exact zO _ _
   have g:Bx2 y H.heap.size (.slice none 0 0) (.slice none 0 0):=by rw [<- Ha];exact Bx2.made _ _ _ _
   have Ge:=Ho.size;have Gg:y.heap.size<=H.heap.size+1/\ H.heap.size+1<=y.heap.size:=by rw [<- Ha];simp
   have Hb:=Qaa Ho q;obtain⟨A6,Hj⟩:=zE H.heap.size;rw [Hj] at g ⊢;rw [Ha];clear Ha;replace Hj:H.heap.size<=A6/\ A6<=H.heap.size:=by omega
   refine m.out _ _ (O _ Hb) (fun qh=> ?_);clear m K;try simp only [zP]
   clear q;refine Qa0 (i:=9) (j:=14) (d:=some 36) (d':=some 5) (by kernel_rfl) (by kernel_rfl) (by kernel_rfl) ?_ ?_
   ·skip;intro o M Hw K m;simp only [gZa,gZb,gZc,gZd] at M;subst M;go_simp;obtain⟨l,hl⟩:=zE y.heap.size;refine(Hy _ Hb).mono ?_;rintro e r ⟨I,xc,N,L,Hd,xc',Hf,He,Hl,rfl,Q,Y,q⟩;have R:=Qaa Hb q;obtain⟨hh,Hk⟩:=zE r.heap.size;have H7:=q.size;have H6:=Hb.size;have Gt:=g.lt;replace g:=g.bw q g.lt
    rw [hl] at Q;rw [Hk] at Y;replace hl:y.heap.size<=l/\ l<=y.heap.size:=by omega
    replace Hk:r.heap.size<=hh/\ hh<=r.heap.size:=by omega
    refine m.out _ _ (O _ R) (fun qh=> ?_);clear m K;try simp only [zP]
    clear q;refine tZ 10 26 ?_;refine tZ 11 37 ?_;refine tZ 12 38 ?_;refine tZ 13 39 ?_;refine cZ 14 ?_;intro K m;go_simp;obtain⟨z3,T⟩:=zE (r.alloc (.cells #[.slice none 0 0,.slice none 0 0] 40));have q:Bl r z3:=by rw [<- T];exact zO _ _
    have z:Bx2 z3 r.heap.size (.slice none 0 0) (.slice none 0 0):=by rw [<- T];exact Bx2.made _ _ _ _
    have Gd:=R.size;have Gf:z3.heap.size<=r.heap.size+1/\ r.heap.size+1<=z3.heap.size:=by rw [<- T];simp
    have Hc:=Qaa R q;obtain⟨b,Hi⟩:=zE r.heap.size;rw [Hi] at z ⊢;rw [T];clear T;replace Hi:r.heap.size<=b/\ b<=r.heap.size:=by omega
    have Gb:=g.lt;replace g:=g.bw q g.lt
    replace Q:=Q.bw q
    replace Y:=Y.bw q
    refine m.out _ _ (O _ Hc) (fun qh=> ?_);clear m K;try simp only [zP]
    clear q;obtain⟨Hm,Hn,Hp⟩:=z.p2;refine cZ 16 ?_;intro K m;go_simp;have T6:=Qhn z g (by omega) (.slice I A.l.length xc) (.slice N A.n L) (.slice Hd P.l.length xc') (.slice Hf P.n He);have G:=AfA.made (xc:=xc) (xc':=xc') z g (by omega) Q Y (by omega) Hc (by omega) (by omega) (by omega) (by omega);have Hg:=(Hc.setCell (p:=⟨b,0,none⟩) (by show U.heap.size<=b;omega) (.slice I A.l.length xc)).setCell (p:=⟨b,1,none⟩) (by show U.heap.size<=b;omega) (.slice N A.n L);refine m.out _ _ (O _ Hg) (fun qh=> ?_);clear m K;try simp only [zP]
    obtain⟨Hq,Hr,Hs⟩:=T6.1.p2;refine cZ 17 ?_;intro K m;go_simp;refine m.out _ _ (O _ G.low) (fun qh=> ?_);clear m K;try simp only [zP]
    refine tZ 18 7 ?_;refine zD ?_;have Hh:=hid G;clear G Hg T6 Hm Hn Hp Hq Hr Hs z g Q Y qh;go_wp2_with fail;go_meet;exact⟨b,A6,I,xc,N,L,Hd,xc',Hf,He,l,Hl,hh,rfl,rfl,rfl,Hh⟩
   ·skip;intro o M Hw K m;simp only [gZa,gZb,gZc,gZd] at M;subst M;go_simp;obtain⟨r,T⟩:=zE (y.alloc (.cells #[.slice none 0 0,.slice none 0 0] 40));have q:Bl y r:=by rw [<- T];exact zO _ _
    have z:Bx2 r y.heap.size (.slice none 0 0) (.slice none 0 0):=by rw [<- T];exact Bx2.made _ _ _ _
    have Gd:=Hb.size;have Gf:r.heap.size<=y.heap.size+1/\ y.heap.size+1<=r.heap.size:=by rw [<- T];simp
    have R:=Qaa Hb q;obtain⟨b,Hi⟩:=zE y.heap.size;rw [Hi] at z ⊢;rw [T];clear T;replace Hi:y.heap.size<=b/\ b<=y.heap.size:=by omega
    have Gb:=g.lt;replace g:=g.bw q g.lt
    refine m.out _ _ (O _ R) (fun qh=> ?_);clear m K;try simp only [zP]
    clear q;refine cZ 9 ?_;intro K m;go_simp;obtain⟨l,hl⟩:=zE r.heap.size;refine(Hy _ R).mono ?_;rintro e z3 ⟨I,xc,N,L,Hd,xc',Hf,He,Hl,rfl,Q,Y,q⟩;have Hc:=Qaa R q;obtain⟨hh,Hk⟩:=zE z3.heap.size;have H7:=q.size;have H6:=R.size;have Gs:=z.lt;replace z:=z.bw q z.lt
    have Gt:=g.lt;replace g:=g.bw q g.lt
    rw [hl] at Q;rw [Hk] at Y;replace hl:r.heap.size<=l/\ l<=r.heap.size:=by omega
    replace Hk:z3.heap.size<=hh/\ hh<=z3.heap.size:=by omega
    refine m.out _ _ (O _ Hc) (fun qh=> ?_);clear m K;try simp only [zP]
    clear q;refine tZ 10 26 ?_;refine tZ 11 37 ?_;refine tZ 12 38 ?_;refine tZ 13 39 ?_;obtain⟨Hm,Hn,Hp⟩:=z.p2;refine cZ 16 ?_;intro K m;go_simp;have T6:=Qhn z g (by omega) (.slice I A.l.length xc) (.slice N A.n L) (.slice Hd P.l.length xc') (.slice Hf P.n He);have G:=AfA.made (xc:=xc) (xc':=xc') z g (by omega) Q Y (by omega) Hc (by omega) (by omega) (by omega) (by omega);have Hg:=(Hc.setCell (p:=⟨b,0,none⟩) (by show U.heap.size<=b;omega) (.slice I A.l.length xc)).setCell (p:=⟨b,1,none⟩) (by show U.heap.size<=b;omega) (.slice N A.n L);refine m.out _ _ (O _ Hg) (fun qh=> ?_);clear m K;try simp only [zP]
    obtain⟨Hq,Hr,Hs⟩:=T6.1.p2;refine cZ 17 ?_;intro K m;go_simp;refine m.out _ _ (O _ G.low) (fun qh=> ?_);clear m K;try simp only [zP]
    refine tZ 18 7 ?_;refine zD ?_;have Hh:=hid G;clear G Hg T6 Hm Hn Hp Hq Hr Hs z g Q Y qh;go_wp2_with fail;go_meet;exact⟨b,A6,I,xc,N,L,Hd,xc',Hf,He,l,Hl,hh,rfl,rfl,rfl,Hh⟩
 case rest=>
 obtain⟨b,A6,I,xc,N,L,Hd,xc',Hf,He,l,md,hh,rfl,rfl,rfl,HF⟩:=hcut;have H3:=hid (Qaa H2 HF.low);clear O Hy;by_cases hC:C1=0
 ·subst hC;obtain⟨Hm,Hn⟩:=HF.b5.q2;have Gh:=hid (Qny I N xc L A wc Gj.1.2 Gj.1.1 HF.sx.at);obtain⟨F,hF⟩:=zE (QcG A);have Go:=hid hF;rw [hF] at Gh;clear hF;go_wp2_with fail;refine Gh.mono ?_;rintro e V ⟨rfl,b4⟩;have H4:=hid (Qaa H3 b4);have HV:=hid b4;clear b4 Gh Hm Hn;cases F with
  | false=>
   have H9:jfB A D P=false:=by unfold jfB;rw [Go.out];simp
   have e:=HQ.out;rw [Qn8 hr M Gc.out H9] at e;injection e with e1 e2;injection e2 with e2 e3;subst e1 e2 e3;obtain⟨tt,uu,gg⟩:=(HG.bw H4).e4;have HE:=hid (QhR (C:=4) (HR.bw H4) zL (Qaa HB H4) (.iface tt uu));clear HQ;go_wp2_with fail;go_ret;exact HE
  | true=>
   have O:Hid (∀w',Bl V w' ->(w'.cell? ⟨rb,3,none⟩=some (.slice a' D.l.length c')/\ w'.cell? ⟨rb,4,none⟩=some (.slice x' D.n d')/\ w'.cell? ⟨A6,0,none⟩=some (.slice Hd P.l.length xc')/\ w'.cell? ⟨A6,1,none⟩=some (.slice Hf P.n He))):=hid (fun w' hb=>by
    have R2:=HR.bx.bw (Qaa H4 hb) HR.bx.lt;have Y2:=HF.b6.bw (Qaa HV hb) HF.b6.lt;exact⟨R2.c3,R2.c4,Y2.c0,Y2.c1⟩)
   have HJ:Hid (∀u,Bl V u ->Cl 49 #[.agg #[.slice a' D.l.length c',.slice x' D.n d'],.agg #[.slice Hd P.l.length xc',.slice Hf P.n He]] u fun e w'=>JfP D P (jnB D P && QcG (jnZ D P)) u e w'):=hid (fun u hb=>by
    obtain⟨tt,uu,gg⟩:=(HG.bw (Qaa H4 hb)).e4;exact QjB a' x' Hd Hf c' d' xc' He D P u Gu Gj.2 (HR.t.at.bw (Qaa H4 hb)) (HF.sy.at.bw (Qaa HV hb)) tt uu gg)
   obtain⟨B,hB⟩:=zE ((jnB D P && QcG (jnZ D P)));have Gp:=hid hB;rw [hB] at HJ;clear hB;go_upto_region 10 with fail;go_cut [8,9] from 54 to 62 (fun v8 v9 wx=>∃E ja jc jx jd l2 J,v8=.pointer (some ⟨E,0,none⟩)/\ (B=true/\ v9=.nilIface \/B=false/\∃t u,v9=.iface t u)/\ Hid (Bx2 wx E (.slice ja J.l.length jc) (.slice jx J.n jd)/\ (B=true ->J=jnZ D P)/\ SOw wx l2 wx.heap.size ja jx jd J/\ V.heap.size<=l2/\ Bl V wx/\ V.heap.size<=E));case first=>
    refine zS O (fun qh=> ?_);refine tZ 0 55 ?_;refine tZ 1 56 ?_;refine tZ 2 57 ?_;refine tZ 3 58 ?_;refine tZ 4 59 ?_;obtain⟨H,Hx⟩:=zE V.drew;have Ho:Bl V H:=by rw [<- Hx];exact zI.drew
    rw [Hx];clear Hx;refine Qa0 (i:=5) (j:=9) (d:=some 60) (d':=some 8) (by kernel_rfl) (by kernel_rfl) (by kernel_rfl) ?_ ?_
    ·skip;intro o M Hw K m;simp only [gZa,gZb,gZc,gZd] at M;subst M;go_simp;obtain⟨l2,H0⟩:=zE H.heap.size;refine(HJ _ Ho).mono ?_;rintro e y ⟨J,ja,jc,jx,jd,er,rfl,hJ,H8,oj,q⟩;have Hb:=Qaa Ho q;obtain⟨Ht,Hu⟩:=zE y.heap.size;have H7:=q.size;have H6:=Ho.size;rw [H0,Hu] at oj;replace H0:H.heap.size<=l2/\ l2<=H.heap.size:=by omega
     replace Hu:y.heap.size<=Ht/\ Ht<=y.heap.size:=by omega
     refine m.out _ _ (O _ Hb) (fun qh=> ?_);clear m K;try simp only [zP]
     clear q;refine tZ 6 54 ?_;refine tZ 7 61 ?_;refine tZ 8 62 ?_;refine cZ 9 ?_;intro K m;go_simp;obtain⟨r,Hv⟩:=zE (y.alloc (.cells #[.slice none 0 0,.slice none 0 0] 40));have q:Bl y r:=by rw [<- Hv];exact zO _ _
     have h8:Bx2 r y.heap.size (.slice none 0 0) (.slice none 0 0):=by rw [<- Hv];exact Bx2.made _ _ _ _
     have Gw:=Hb.size;have Gx:r.heap.size<=y.heap.size+1/\ y.heap.size+1<=r.heap.size:=by rw [<- Hv];simp
     have R:=Qaa Hb q;obtain⟨E,Hz⟩:=zE y.heap.size;rw [Hz] at h8 ⊢;rw [Hv];clear Hv;replace Hz:y.heap.size<=E/\ E<=y.heap.size:=by omega
     replace oj:=oj.bw q
     refine m.out _ _ (O _ R) (fun qh=> ?_);clear m K;try simp only [zP]
     clear q;obtain⟨Gk,Gl,Gm⟩:=h8.p2;refine cZ 10 ?_;intro K m;go_simp;have G1:=h8.set (.slice ja J.l.length jc) (.slice jx J.n jd);have G2:=((oj.set ⟨E,0,none⟩ (.slice ja J.l.length jc) (by show E<l2 \/Ht<=E;omega)).set ⟨E,1,none⟩ (.slice jx J.n jd) (by show E<l2 \/Ht<=E;omega)).wide zL (show Ht<=((r.setCell ⟨E,0,none⟩ (.slice ja J.l.length jc)).setCell ⟨E,1,none⟩ (.slice jx J.n jd)).heap.size by simp [World.setCell];omega) zL;have G3:=(R.setCell (p:=⟨E,0,none⟩) (by show V.heap.size<=E;omega) (.slice ja J.l.length jc)).setCell (p:=⟨E,1,none⟩) (by show V.heap.size<=E;omega) (.slice jx J.n jd);refine m.out _ _ (O _ G3) (fun qh=> ?_);clear m K;try simp only [zP]
     refine tZ 11 9 ?_;refine zD ?_;have Hh:=hid (And.intro G1 (And.intro hJ (And.intro G2 (And.intro (show V.heap.size<=l2 by omega) (And.intro G3 (show V.heap.size<=E by omega))))));clear G1 G2 G3 Gk Gl Gm h8 oj qh hJ;go_wp2_with fail;go_meet;exact⟨E,ja,jc,jx,jd,l2,J,rfl,H8,Hh⟩
    ·skip;intro o M Hw K m;simp only [gZa,gZb,gZc,gZd] at M;subst M;go_simp;obtain⟨y,Hv⟩:=zE (H.alloc (.cells #[.slice none 0 0,.slice none 0 0] 40));have q:Bl H y:=by rw [<- Hv];exact zO _ _
     have h8:Bx2 y H.heap.size (.slice none 0 0) (.slice none 0 0):=by rw [<- Hv];exact Bx2.made _ _ _ _
     have Gw:=Ho.size;have Gx:y.heap.size<=H.heap.size+1/\ H.heap.size+1<=y.heap.size:=by rw [<- Hv];simp
     have Hb:=Qaa Ho q;obtain⟨E,Hz⟩:=zE H.heap.size;rw [Hz] at h8 ⊢;rw [Hv];clear Hv;replace Hz:H.heap.size<=E/\ E<=H.heap.size:=by omega
     refine m.out _ _ (O _ Hb) (fun qh=> ?_);clear m K;try simp only [zP]
     clear q;refine cZ 5 ?_;intro K m;go_simp;obtain⟨l2,H0⟩:=zE y.heap.size;refine(HJ _ Hb).mono ?_;rintro e r ⟨J,ja,jc,jx,jd,er,rfl,hJ,H8,oj,q⟩;have R:=Qaa Hb q;obtain⟨Ht,Hu⟩:=zE r.heap.size;have H7:=q.size;have H6:=Hb.size;have Gz:=h8.lt;replace h8:=h8.bw q h8.lt
     rw [H0,Hu] at oj;replace H0:y.heap.size<=l2/\ l2<=y.heap.size:=by omega
     replace Hu:r.heap.size<=Ht/\ Ht<=r.heap.size:=by omega
     refine m.out _ _ (O _ R) (fun qh=> ?_);clear m K;try simp only [zP]
     clear q;refine tZ 6 54 ?_;refine tZ 7 61 ?_;refine tZ 8 62 ?_;obtain⟨Gk,Gl,Gm⟩:=h8.p2;refine cZ 10 ?_;intro K m;go_simp;have G1:=h8.set (.slice ja J.l.length jc) (.slice jx J.n jd);have G2:=((oj.set ⟨E,0,none⟩ (.slice ja J.l.length jc) (by show E<l2 \/Ht<=E;omega)).set ⟨E,1,none⟩ (.slice jx J.n jd) (by show E<l2 \/Ht<=E;omega)).wide zL (show Ht<=((r.setCell ⟨E,0,none⟩ (.slice ja J.l.length jc)).setCell ⟨E,1,none⟩ (.slice jx J.n jd)).heap.size by simp [World.setCell];omega) zL;have G3:=(R.setCell (p:=⟨E,0,none⟩) (by show V.heap.size<=E;omega) (.slice ja J.l.length jc)).setCell (p:=⟨E,1,none⟩) (by show V.heap.size<=E;omega) (.slice jx J.n jd);refine m.out _ _ (O _ G3) (fun qh=> ?_);clear m K;try simp only [zP]
     refine tZ 11 9 ?_;refine zD ?_;have Hh:=hid (And.intro G1 (And.intro hJ (And.intro G2 (And.intro (show V.heap.size<=l2 by omega) (And.intro G3 (show V.heap.size<=E by omega))))));clear G1 G2 G3 Gk Gl Gm h8 oj qh hJ;go_wp2_with fail;go_meet;exact⟨E,ja,jc,jx,jd,l2,J,rfl,H8,Hh⟩
   case rest=>
   obtain⟨E,ja,jc,jx,jd,l2,J,rfl,H8,Gi⟩:=hcut;have H5:=hid (Qaa H4 Gi.2.2.2.2.1);clear O HJ;rcases H8 with ⟨rfl,rfl⟩|⟨rfl,t,u,rfl⟩
   ·have H9:jfB A D P=true:=by unfold jfB;rw [Go.out];have:=Gp.out;simp only [Bool.and_eq_true] at this;rw [this.1,this.2];rfl
    have e:=HQ.out;rw [Qoa hr M Gc.out H9,<- Gi.2.1 rfl] at e;injection e with e1 e2;injection e2 with e2 e3;subst e1 e2 e3;obtain⟨j8,Gv,oj,H0,bj,Hz⟩:=Gi.out;clear Gv;have X5:=HF.b5.bw (Qaa HV bj) HF.b5.lt;have R5:=HR.bx.bw H5 HR.bx.lt;have SX:=HF.sx.bw (Qaa HV bj);have G4:=HR.bx.lt;have hl:=HF.lo;have hU:=H2.size;have G7:=HF.sx.hl;have G6:=HV.size;have M1:=(R5.set1 (.slice I A.l.length xc)).set2 (.slice N A.n L);have M2:=(M1.set3 (.slice ja J.l.length jc)).set4 (.slice jx J.n jd);have X6:∀u0 u1,Bx2 ((wc.setCell ⟨rb,1,none⟩ u0).setCell ⟨rb,2,none⟩ u1) E (.slice ja J.l.length jc) (.slice jx J.n jd):=fun u0 u1=>(j8.setAt _ _ (by show rb≠E;omega)).setAt _ _ (by show rb≠E;omega);obtain⟨p0,p1⟩:=X5.q2;have r1:=R5.c1;have r2:=R5.c2;have rf:=R5.f;have q0:=(X6 (.slice I A.l.length xc) (.slice N A.n L)).c0;have q1:=(X6 (.slice I A.l.length xc) (.slice N A.n L)).c1;have m3:=M1.c3;have m4:=M1.c4;have mf:=M1.f;have G8:=HF.sy.hl;have G5:=HR.s.hl;have Gy:=bj.size;have GX:=(QlP SX (rb:=rb) (by omega) (.slice I A.l.length xc) (.slice N A.n L) (.slice ja J.l.length jc) (.slice jx J.n jd)).wide (hi':=l2) zL (by omega) (by simp [World.setCell];exact oj.hl.1);have GJ:=QlP oj (rb:=rb) (by omega) (.slice I A.l.length xc) (.slice N A.n L) (.slice ja J.l.length jc) (.slice jx J.n jd);have HE:Hid (CgP rb id lo A J 0 w (.returned .nilIface) _):=hid ⟨.nilIface,l,l2,_,I,N,ja,jx,xc,L,jc,jd,rfl,.inl ⟨rfl,rfl⟩,⟨M2,GX,GJ⟩,by omega,Qom (Qaa HB H5) _ _ _ _⟩;clear HQ GX GJ M1 M2 X5 X6 R5 SX j8 oj;go_wp2_with fail;go_ret;exact HE
   ·have H9:jfB A D P=false:=by unfold jfB;rw [<- Bool.and_assoc,Gp.out];rfl
    have e:=HQ.out;rw [Qn8 hr M Gc.out H9] at e;injection e with e1 e2;injection e2 with e2 e3;subst e1 e2 e3;obtain⟨tt,uu,gg⟩:=(HG.bw H5).e4;have HE:=hid (QhR (C:=4) (HR.bw H5) zL (Qaa HB H5) (.iface t u));clear HQ;go_wp2_with fail;go_ret;exact HE
 ·have dC:(C1 !=0)=true:=by simpa using hC
  have e:=HQ.out;rw [Qod hr M Gc.out hC] at e;injection e with e1 e2;injection e2 with e2 e3;subst e1 e2 e3;obtain⟨tt,uu,gg⟩:=(HG.bw H3).e3;have HE:=hid (QhR (C:=C1) (HR.bw H3) zL (Qaa HB H3) (.iface tt uu));clear HQ;go_wp2_with fail;go_ret;exact HE
theorem Qnm(h:SOw w lo hi a x d S)(hr:r<lo)(v0 v1 v2 v3 v4:Value):SOw (((((w.setCell ⟨r,0,none⟩ v0).setCell ⟨r,1,none⟩ v1).setCell ⟨r,2,none⟩ v2).setCell ⟨r,3,none⟩ v3).setCell ⟨r,4,none⟩ v4) lo hi a x d S:=QlP (h.set ⟨r,0,none⟩ v0 (.inl hr)) hr _ _ _ _
def DoI (id:Int)(X Z:Sx)(C:Int)(w:World)(e:Ending)(w':World):Prop:=∃a ca x dx a' ca' x' dx' mid,e=.returned (.tuple #[.agg #[.int .i64 id,.slice a X.l.length ca,.slice x X.n dx,.slice a' Z.l.length ca',.slice x' Z.n dx'],.int .i64 C])/\ SOw w' w.heap.size mid a x dx X/\ SOw w' mid w'.heap.size a' x' dx' Z/\ Bl w w'
theorem QmC (id:Int)(g h g' h' lo mid hi pc:Nat)(S D:Sx)(k:Int)(pa:Option Addr)(p:List ByteArray)(v:ByteArray)(X Z:Sx)(C:Int)(w:World)(hq:doR id S D k p v=(X,Z,C))(hm:SmI S)(hm':SmI D)(hS:SNw w lo mid g h S)(hD:SNw w mid hi g' h' D)(hp:p.length<=1048576)(hseg:Qaw w pa p)(hv:v.size<=1048576)(hid':(Lit.int .i64 id).wf=true)(hG:ErD w):
  Cl 9 #[.agg #[.int .i64 id,.slice (some ⟨g,0,none⟩) S.l.length S.l.length,.slice (some ⟨h,0,none⟩) S.n S.n,.slice (some ⟨g',0,none⟩) D.l.length D.l.length,.slice (some ⟨h',0,none⟩) D.n D.n],.agg #[.int .i64 k,.slice pa p.length pc,.string v]] w fun e w'=>DoI id X Z C w e w':=by
 obtain⟨W,z⟩:=zE (((w.alloc (.cells #[.int .i64 id,.slice (some ⟨g,0,none⟩) S.l.length S.l.length,.slice (some ⟨h,0,none⟩) S.n S.n,.slice (some ⟨g',0,none⟩) D.l.length D.l.length,.slice (some ⟨h',0,none⟩) D.n D.n] 42)).alloc (.cells #[.int .i64 k,.slice pa p.length pc,.string v] 46)).alloc (.cells #[.int .i64 0,.slice none 0 0,.slice none 0 0,.slice none 0 0,.slice none 0 0] 42));have A:Bl w W:=by rw [<- z];exact(Qae _ _ _).alloc (by simp;omega) _
 have zW:W.heap.size=w.heap.size+3:=by rw [<- z];simp
 have A0:Bx5 W w.heap.size (.int .i64 id) (.slice (some ⟨g,0,none⟩) S.l.length S.l.length) (.slice (some ⟨h,0,none⟩) S.n S.n) (.slice (some ⟨g',0,none⟩) D.l.length D.l.length) (.slice (some ⟨h',0,none⟩) D.n D.n):=by rw [<- z];exact((Bx5.new w _ _ _ _ _ _).up _).up _
 have O0:Bx3 W (w.heap.size+1) (.int .i64 k) (.slice pa p.length pc) (.string v):=by
  rw [<- z];have:=Bx3.made (w.alloc (.cells #[.int .i64 id,.slice (some ⟨g,0,none⟩) S.l.length S.l.length,.slice (some ⟨h,0,none⟩) S.n S.n,.slice (some ⟨g',0,none⟩) D.l.length D.l.length,.slice (some ⟨h',0,none⟩) D.n D.n] 42)) (.int .i64 k) (.slice pa p.length pc) (.string v) 46;exact(by simpa using this:Bx3 _ (w.heap.size+1) _ _ _).up _
 have R0:Bx5 W (w.heap.size+1+1) (.int .i64 0) (.slice none 0 0) (.slice none 0 0) (.slice none 0 0) (.slice none 0 0):=by
  rw [<- z];simpa using Bx5.new ((w.alloc (.cells #[.int .i64 id,.slice (some ⟨g,0,none⟩) S.l.length S.l.length,.slice (some ⟨h,0,none⟩) S.n S.n,.slice (some ⟨g',0,none⟩) D.l.length D.l.length,.slice (some ⟨h',0,none⟩) D.n D.n] 42)).alloc (.cells #[.int .i64 k,.slice pa p.length pc,.string v] 46)) (.int .i64 0) (.slice none 0 0) (.slice none 0 0) (.slice none 0 0) (.slice none 0 0) 42
 have Hb:=hid (Qff id g h g' h' lo mid hi S.l.length S.n D.l.length D.n S D W hm.1 hm'.1 (hS.bw A) (hD.bw A));have Ha:=hid (fun(u:World)(rb l m hh:Nat)(a x j q:Option Addr)(c d c' d':Nat)(hb:Bl W u)(h:RpO u rb id l m hh a x j q c d c' d' S D)=>Qjp rb id l m hh pc a x j q pa c d c' d' S D k p v X Z C u hq hm hm' h hp ((hseg.bw A).bw hb) hv hid' ((hG.bw A).bw hb));have HG:=hid hG;have HO:=hid O0;have HR:=hid R0;have HB:=hid A;have Hh:Hid (w.heap.size+3<=W.heap.size):=hid (by omega);obtain⟨k0,k1,k2,k3,k4⟩:=A0.q5;clear A zW A0 O0 R0 hS hD hseg hq hG;go_enter Tryz.func9,Tryz.ntmps9;go_wp2_with fail;try rw [z]
 clear z;refine Hb.mono ?_;rintro e w1 ⟨a,B,x,P,j,F,q,R,m2,rfl,s1,s2,N⟩;obtain⟨U,Y⟩:=zE (w1.alloc (.cells #[.int .i64 id,.slice a S.l.length B,.slice x S.n P,.slice j D.l.length F,.slice q D.n R] 42));have V:Bl w1 U:=by rw [<- Y];exact zO _ _
 have N2:Bx5 U w1.heap.size (.int .i64 id) (.slice a S.l.length B) (.slice x S.n P) (.slice j D.l.length F) (.slice q D.n R):=by rw [<- Y];exact Bx5.new _ _ _ _ _ _ _
 have Q:=hid (Qaa N V);have O2:=HO.bw Q HO.lt;obtain⟨o0,o1,o2⟩:=O2.q3;have HC:=hid (Ha U w1.heap.size _ _ _ a x j q B P F R Q ⟨N2,s1.bw V,s2.bw V⟩);have HN:Hid (W.heap.size<=w1.heap.size):=hid N.size;clear s1 s2 N V N2 O2 Hb Ha k0 k1 k2 k3 k4;go_wp2_with fail;try rw [Y]
 clear Y;refine HC.mono ?_;rintro e H ⟨er,l,md,hh,a,x,j,q,c,d,c',d',rfl,He,hR,O,hg⟩;have J:Hid (Bl W H):=hid (Q.grown hg Q.size (fun k e=>by injection e with e;have:=HN.out;omega));have o:=hid hR;have HL:=hid O;have Hg:Hid (∀u,Bl H u ->Cl 26 #[er] u (Rt u (.int .i64 C))):=hid (fun u hb=>by
  rcases He with ⟨rfl,rfl⟩|⟨b,rfl,hc⟩
  ·exact QnN u
  ·exact Qnd b C u (HG.bw (Qaa HB (Qaa J hb))).gY ((hb.cell (p:=⟨b,0,none⟩) (block_lt_of_cell hc)).trans hc))
 have Hc:Hid (∀u,Bl H u ->(u.cell? ⟨w1.heap.size,0,none⟩=some (.int .i64 id)/\ u.cell? ⟨w1.heap.size,1,none⟩=some (.slice a X.l.length c)/\ u.cell? ⟨w1.heap.size,2,none⟩=some (.slice x X.n d)/\ u.cell? ⟨w1.heap.size,3,none⟩=some (.slice j Z.l.length c')/\ u.cell? ⟨w1.heap.size,4,none⟩=some (.slice q Z.n d'))):=hid (fun u hb=>by
  have E:=o.bx.bw hb o.bx.lt;exact⟨E.c0,E.c1,E.c2,E.c3,E.c4⟩)
 clear He hR O hg HC o0 o1 o2;go_wp2_with fail;refine zS Hc (fun qh=> ?_);refine tZ 0 12 ?_;refine tZ 1 13 ?_;refine cZ 2 ?_;intro K M;go_simp;refine(Hg _ zI.drew).mono ?_;rintro e I ⟨rfl,b5⟩;have y:Bl H I:=Qaa zI.drew b5;refine M.out _ _ (Hc _ y) (fun qh=> ?_);clear M K;try simp only [zP]
 have L:=HR.bw (Qaa J y) HR.lt;obtain⟨r0,r1,r2,r3,r4,rf⟩:=L.p5;refine cZ 3 ?_;intro K M;go_simp;have hz:=Hh.out;have hn:=HN.out;have Hj:=HL.out;have Hi:=y.size;have G:=o.s.bw y;have T:=o.t.bw y;have GX:=(Qnm G (r:=w.heap.size+1+1) (by omega) (.int .i64 id) (.slice a X.l.length c) (.slice x X.n d) (.slice j Z.l.length c') (.slice q Z.n d')).wide (lo':=w.heap.size) (by omega) zL (by simp [World.setCell];exact G.hl.2);have GZ:=(Qnm T (r:=w.heap.size+1+1) (by have:=G.hl;omega) (.int .i64 id) (.slice a X.l.length c) (.slice x X.n d) (.slice j Z.l.length c') (.slice q Z.n d')).wide (hi':=(((((I.setCell ⟨w.heap.size+1+1,0,none⟩ (.int .i64 id)).setCell ⟨w.heap.size+1+1,1,none⟩ (.slice a X.l.length c)).setCell ⟨w.heap.size+1+1,2,none⟩ (.slice x X.n d)).setCell ⟨w.heap.size+1+1,3,none⟩ (.slice j Z.l.length c')).setCell ⟨w.heap.size+1+1,4,none⟩ (.slice q Z.n d')).heap.size) zL (by simp [World.setCell];exact T.hl.2) zL;have Hd:=Qaa HB (Qaa J y);have GB:Bl w (((((I.setCell ⟨w.heap.size+1+1,0,none⟩ (.int .i64 id)).setCell ⟨w.heap.size+1+1,1,none⟩ (.slice a X.l.length c)).setCell ⟨w.heap.size+1+1,2,none⟩ (.slice x X.n d)).setCell ⟨w.heap.size+1+1,3,none⟩ (.slice j Z.l.length c')).setCell ⟨w.heap.size+1+1,4,none⟩ (.slice q Z.n d')):=((((Hd.setCell (p:=⟨w.heap.size+1+1,0,none⟩) (by simp;omega) _).setCell (p:=⟨w.heap.size+1+1,1,none⟩) (by simp;omega) _).setCell (p:=⟨w.heap.size+1+1,2,none⟩) (by simp;omega) _).setCell (p:=⟨w.heap.size+1+1,3,none⟩) (by simp;omega) _).setCell (p:=⟨w.heap.size+1+1,4,none⟩) (by simp;omega) _;have i:Bx5 (((((I.setCell ⟨w.heap.size+1+1,0,none⟩ (.int .i64 id)).setCell ⟨w.heap.size+1+1,1,none⟩ (.slice a X.l.length c)).setCell ⟨w.heap.size+1+1,2,none⟩ (.slice x X.n d)).setCell ⟨w.heap.size+1+1,3,none⟩ (.slice j Z.l.length c')).setCell ⟨w.heap.size+1+1,4,none⟩ (.slice q Z.n d')) w1.heap.size (.int .i64 id) (.slice a X.l.length c) (.slice x X.n d) (.slice j Z.l.length c') (.slice q Z.n d'):=(((((o.bx.bw y o.bx.lt).setAt _ _ (by show w.heap.size+1+1≠_;omega)).setAt _ _ (by show w.heap.size+1+1≠_;omega)).setAt _ _ (by show w.heap.size+1+1≠_;omega)).setAt _ _ (by show w.heap.size+1+1≠_;omega)).setAt _ _ (by show w.heap.size+1+1≠_;omega);have Q5:=((((L.set0 (.int .i64 id)).set1 (.slice a X.l.length c)).set2 (.slice x X.n d)).set3 (.slice j Z.l.length c')).set4 (.slice q Z.n d');refine M.out _ _ ⟨i.c0,i.c1,i.c2,i.c3,i.c4⟩ (fun qh=> ?_);clear M K;try simp only [zP]
 refine tZ 4 5 ?_;refine zD ?_;have HE:Hid (DoI id X Z C w _ _):=hid ⟨a,c,x,d,j,c',q,d',md,rfl,GX,GZ,GB⟩;have Hf:=hid Q5;clear GX GZ GB i Q5 L G T Hd y b5 qh;go_wp2_with fail;obtain⟨q0,q1,q2,q3,q4⟩:=Hf.q5;refine zF (v:=.tuple #[.agg #[.int .i64 id,.slice a X.l.length c,.slice x X.n d,.slice j Z.l.length c',.slice q Z.n d'],.int .i64 C]) (by simp [results,Tryz.results9,go_sem,q0,q1,q2,q3,q4]) ?_;exact HE
end Go.Proofs.YtgmjgboibfdaeaaGreatDoor
