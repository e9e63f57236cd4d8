import Derived.Test.YtpfmeafmepgimaaGreatFkg13
import Derived.Test.YtpfmeafmepgimaaGreatFkg16
import Derived.Test.YtpfmeafmepgimaaGreatFkg17
import Derived.Test.YtpfmeafmepgimaaGreatFkg20
import Derived.Test.YtpfmeafmepgimaaGreatFkg06
set_option linter.unusedVariables false
set_option linter.unusedSimpArgs false
set_option maxRecDepth 100000
set_option maxHeartbeats 40000000
namespace Go.Proofs.YtpfmeafmepgimaaGreat
open Go.ChangeShapes Go.WideShapes Go.ChangeAt Go.RowKit Go.Deep
theorem own_wrF {w:World}{B g n cap size:Nat}{e:TypeId}{C:Nat ->Value}(h:w.ownsRow B e size (.slice (some ⟨g,0,none⟩) n cap) n ((List.range (n*size)).map C)):Wr w g e (n*size) C:=by
 rcases h.2 with ⟨h0,_⟩|⟨g',cap',cur,hv,hbase,hb,h1,h2,h3,h4⟩
 ·cases h0
 ·have eg:g=g':=by injection hv with e1 _ _;exact congrArg Addr.block (Option.some.inj e1)
  rw [<- eg] at hb;refine⟨cur,hb,?_,fun j hj=> ?_⟩
  ·have:=congrArg List.length h4;simp at this;omega
  ·have e1:(cur.toList.take (n*size))[j]? =((List.range (n*size)).map C)[j]? :=by rw [h4]
   rw [List.getElem?_take_of_lt hj] at e1;rw [<- Array.getElem?_toList,e1];simp [List.getElem?_range hj]
theorem copyRowE (t e:TypeId)(i:TypeInfo)(z:Value)(size bytes:Nat)(ht:Tryz.prog.underlying t=some (.slice e))(hi:Tryz.prog.info? e=some i)(hz:i.zero=some z)(hsize:i.size=size)(hby:i.bytes=bytes)(hzs:z.cells.size=size)(hsz:0<size)(hb2:bytes<=64)(q g off m c:Nat)(C:Nat ->Value)(w:World)(B:Nat)(hm:m<=1048576)(ho:w.ownsRow B e size (.slice (some ⟨q,0,none⟩) 0 0) 0 [])(hB:B<=w.heap.size)(hC:∀j,j<m*size ->w.cell? ⟨g,off+j,none⟩=some (C j))(h1:∀j,j<m*size ->(C j).oneCell'=true):
  ∃q' cap w',(Builtin.append_ #[t,t] t #[.slice (some ⟨q,0,none⟩) 0 0,.slice (some ⟨g,off,none⟩) m c]).run Tryz.prog w=.ok (.slice (some ⟨q',0,none⟩) m cap) w'/\ w'.ownsRow B e size (.slice (some ⟨q',0,none⟩) m cap) m ((List.range (m*size)).map C)/\ w.grownBy w' (some q)/\ (q'=q \/q'=w.heap.size):=by
 obtain⟨v',w',hr,h2,h3,h4,h5⟩:=run_append_own_at (P:=Tryz.prog) w B t t e i z size bytes ht hi hz hsize hby hzs hsz (.slice (some ⟨q,0,none⟩) 0 0) 0 [] ho ⟨g,off,none⟩ m c ((List.range (m*size)).map C) (by simp) (fun j u hj=>by
  simp only [List.getElem?_map,Option.map_eq_some_iff] at hj;obtain⟨q,hq,rfl⟩:=hj;have hlt:j<m*size:=by
   rcases Nat.lt_or_ge j (m*size) with h|h
   ·exact h
   ·rw [List.getElem?_eq_none (by simpa using h)] at hq;cases hq
  rw [List.getElem?_range hlt] at hq;have hq:=Option.some.inj hq;rw [<- hq,addr_addP];exact hC j hlt) (fun u hu=>by
  obtain⟨j,hj,rfl⟩:=List.mem_map.1 hu;exact h1 j (by simpa using hj)) (by unfold maxLen;omega) (by
   have:m*bytes<=1048576*64:=Nat.mul_le_mul hm hb2;rw [Nat.zero_add];omega) hB
 rw [Nat.zero_add,List.nil_append] at h2;rcases h2.2 with ⟨hv,_⟩|⟨q',cap,cur,rfl,r⟩
 ·have:=h4.1 hv;exact absurd this.1 (by simp)
 ·refine⟨q',cap,w',hr,h2,h3,?_⟩;rcases h5 with h5|h5
  ·exact .inl (by simpa [Value.ownBlock] using h5)
  ·exact .inr (by simpa [Value.ownBlock] using h5)
def lCp (l:List Lf)(P Q:Nat ->Nat)(j:Nat):Value:=
 if j%5=0 then .slice (some ⟨P (j/5),0,none⟩) (gL l (j/5)).p.length (Q (j/5)) else if j%5=1 then .bool (gL l (j/5)).fl else if j%5=2 then .int .i64 (gL l (j/5)).r else if j%5=3 then .int .i64 (gL l (j/5)).q else .string (gL l (j/5)).v
theorem lCp0 (l:List Lf)(P Q:Nat ->Nat)(i:Nat):lCp l P Q (i*5)=.slice (some ⟨P i,0,none⟩) (gL l i).p.length (Q i)/\ lCp l P Q (i*5+1)=.bool (gL l i).fl/\ lCp l P Q (i*5+2)=.int .i64 (gL l i).r/\ lCp l P Q (i*5+3)=.int .i64 (gL l i).q/\ lCp l P Q (i*5+4)=.string (gL l i).v:=by
 unfold lCp;refine⟨?_,?_,?_,?_,?_⟩
 ·rw [if_pos (by omega),show i*5/5=i by omega]
 ·rw [if_neg (by omega),if_pos (by omega),show (i*5+1)/5=i by omega]
 ·rw [if_neg (by omega),if_neg (by omega),if_pos (by omega),show (i*5+2)/5=i by omega]
 ·rw [if_neg (by omega),if_neg (by omega),if_neg (by omega),if_pos (by omega),show (i*5+3)/5=i by omega]
 ·rw [if_neg (by omega),if_neg (by omega),if_neg (by omega),if_neg (by omega),show (i*5+4)/5=i by omega]
theorem lCp_snoc (l:List Lf)(P Q:Nat ->Nat)(k p q:Nat):(List.range ((k+1)*5)).map (lCp l (fun i=>if i=k then p else P i) (fun i=>if i=k then q else Q i))=(List.range (k*5)).map (lCp l P Q)++[.slice (some ⟨p,0,none⟩) (gL l k).p.length q,.bool (gL l k).fl,.int .i64 (gL l k).r,.int .i64 (gL l k).q,.string (gL l k).v]:=by
 rw [show (k+1)*5=k*5+1+1+1+1+1 by omega];simp only [List.range_succ,List.map_append,List.map_cons,List.map_nil,List.append_assoc,List.cons_append,List.nil_append];obtain⟨d0,d1,d2,d3,d4⟩:=lCp0 l (fun i=>if i=k then p else P i) (fun i=>if i=k then q else Q i) k;rw [d0,d1,d2,d3,d4];simp only [if_pos];congr 1;refine List.map_congr_left fun j hj=> ?_;have hj':j<k*5:=by simpa using hj
 unfold lCp;have hne:j/5≠k:=by omega
 simp only [if_neg hne]
theorem cell_five_new (w:World)(v0 v1 v2 v3 v4:Value)(t:TypeId):∀j u,[v0,v1,v2,v3,v4][j]? =some u ->(w.alloc (.cells #[v0,v1,v2,v3,v4] t)).cell? ((⟨w.heap.size,0,none⟩:Addr).add j)=some u:=by
 intro j u hj;have hB:=Bx5.new w v0 v1 v2 v3 v4 t;rw [addr_addP,Nat.zero_add];match j,hj with
 | 0,hj=>rw [hB.c0];simpa using hj
 | 1,hj=>rw [hB.c1];simpa using hj
 | 2,hj=>rw [hB.c2];simpa using hj
 | 3,hj=>rw [hB.c3];simpa using hj
 | 4,hj=>rw [hB.c4];simpa using hj
 | j+5,hj=>simp at hj
structure LC (w:World)(lo:Nat)(v:Value)(l:List Lf)(P Q:Nat ->Nat):Prop where
 row:w.ownsRow lo 65 5 v l.length ((List.range (l.length*5)).map (lCp l P Q))
 pt:∀i,i<l.length ->lo<=P i/\ P i<w.heap.size/\ some (P i)≠v.ownBlock/\ Wr w (P i) 9 (gL l i).p.length (fun t=> .string (gS (gL l i).p t))/\ (gL l i).p.length<=Q i/\ Q i<=9223372036854775807
def Sep (P:Nat ->Nat)(n:Nat):Prop:=∀i j,i<n ->j<n ->i≠j ->P i≠P j
def LB (w:World)(lo:Nat)(v:Value)(l:List Lf):Prop:=∃P Q,LC w lo v l P Q/\ Sep P l.length
section
variable {w w' : World} {lo : Nat} {v : Value} {l : List Lf} {P Q : Nat -> Nat}
theorem LC.nil (w:World)(lo:Nat)(P Q:Nat ->Nat):LC w lo (.slice none 0 0) [] P Q:=⟨⟨rfl,.inl ⟨rfl,rfl⟩⟩,fun i hi=>by simp at hi⟩
theorem LC.move (h:LC w lo v l P Q)(hz:w.heap.size<=w'.heap.size)(hs:∀q,lo<=q ->q<w.heap.size ->w'.heap[q]? =w.heap[q]?):LC w' lo v l P Q:=
 ⟨own_at5 h.row (fun g hg=>hs g (h.row.lt g hg).1 (h.row.lt g hg).2),fun i hi=>by
  obtain⟨e1,e2,e3,e4⟩:=h.pt i hi;exact⟨e1,Nat.lt_of_lt_of_le e2 hz,e3,e4.1.same (hs _ e1 e2),e4.2⟩⟩
theorem LC.below (h:LC w lo v l P Q)(hb:Below w.heap.size w w'):LC w' lo v l P Q:=h.move hb.size (fun q _ h2=>hb.block q h2)
theorem LB.move (h:LB w lo v l)(hz:w.heap.size<=w'.heap.size)(hs:∀q,lo<=q ->q<w.heap.size ->w'.heap[q]? =w.heap[q]?):LB w' lo v l:=by
 obtain⟨P,Q,h1,h2⟩:=h;exact⟨P,Q,h1.move hz hs,h2⟩
theorem LB.below (h:LB w lo v l)(hb:Below w.heap.size w w'):LB w' lo v l:=h.move hb.size (fun q _ h2=>hb.block q h2)
theorem LB.lt (h:LB w lo v l):∀g,v.ownBlock=some g ->lo<=g/\ g<w.heap.size:=by
 obtain⟨P,Q,h1,h2⟩:=h;exact fun g hg=>h1.row.lt g hg
theorem LB.nil (w:World)(lo:Nat):LB w lo (.slice none 0 0) []:=⟨fun _=>0,fun _=>0,LC.nil w lo _ _,fun i j hi=>by simp at hi⟩
end
theorem LB.form {w:World}{lo:Nat}{v:Value}{l:List Lf}(h:LB w lo v l):∃a c,v=.slice a l.length c:=by
 obtain⟨P,Q,h1,_⟩:=h;rcases h1.row.2 with ⟨e,e0⟩|⟨g,cap,cur,e,_⟩
 ·exact⟨none,0,by rw [e,e0]⟩
 ·exact⟨_,cap,e⟩
theorem gL_pre (l:List Lf)(y:Lf){i:Nat}(hi:i<l.length):gL (l++[y]) i=gL l i:=by simp [gL,List.getD,List.getElem?_append_left hi]
theorem gL_end (l:List Lf)(y:Lf):gL (l++[y]) l.length=y:=by simp [gL,List.getD]
theorem lCp_end (l:List Lf)(y:Lf)(P Q:Nat ->Nat)(p q:Nat):(List.range ((l.length+1)*5)).map (lCp (l++[y]) (fun i=>if i=l.length then p else P i) (fun i=>if i=l.length then q else Q i))=(List.range (l.length*5)).map (lCp l P Q)++[.slice (some ⟨p,0,none⟩) y.p.length q,.bool y.fl,.int .i64 y.r,.int .i64 y.q,.string y.v]:=by
 rw [lCp_snoc,gL_end];congr 1;refine List.map_congr_left fun j hj=> ?_;have hj':j<l.length*5:=by simpa using hj
 unfold lCp;rw [gL_pre l y (show j/5<l.length by omega)]
theorem LC.app {w w1:World}{lo:Nat}{v:Value}{l:List Lf}{P Q:Nat ->Nat}(h:LC w lo v l P Q)(hb:Below w.heap.size w w1)(hlo:lo<=w.heap.size)(hk:l.length<=1048576)(y:Lf)(p pc:Nat)(hp1:lo<=p)(hp2:p<w1.heap.size)(hp3:some p≠v.ownBlock)(hw:Wr w1 p 9 y.p.length (fun t=> .string (gS y.p t)))(hpc:y.p.length<=pc/\ pc<=9223372036854775807):
  ∃q' cap' w3,(Builtin.append_ #[23,23] 23 #[v,.slice (some ⟨w1.heap.size,0,none⟩) 1 1]).run Tryz.prog (w1.alloc (.cells #[.slice (some ⟨p,0,none⟩) y.p.length pc,.bool y.fl,.int .i64 y.r,.int .i64 y.q,.string y.v] 65))=.ok (.slice (some ⟨q',0,none⟩) (l.length+1) cap') w3/\
   LC w3 lo (.slice (some ⟨q',0,none⟩) (l.length+1) cap') (l++[y]) (fun i=>if i=l.length then p else P i) (fun i=>if i=l.length then pc else Q i)/\ Gr w1 w3 v (.slice (some ⟨q',0,none⟩) (l.length+1) cap'):=by
 obtain⟨i0,hi,hz0,hz1,hz2⟩:=info_parts infoLeaf;have h1:=h.below hb;have b2:Below w1.heap.size w1 (w1.alloc (.cells #[.slice (some ⟨p,0,none⟩) y.p.length pc,.bool y.fl,.int .i64 y.r,.int .i64 y.q,.string y.v] 65)):=(Below.refl _ _).alloc (Nat.le_refl _) _;have h2:=h1.below b2;have hw2:=hw.same (b2.block p hp2);have hn5:=cell_five_new w1 (.slice (some ⟨p,0,none⟩) y.p.length pc) (.bool y.fl) (.int .i64 y.r) (.int .i64 y.q) (.string y.v) 65;obtain⟨W2,hW2⟩:∃W2,w1.alloc (.cells #[.slice (some ⟨p,0,none⟩) y.p.length pc,.bool y.fl,.int .i64 y.r,.int .i64 y.q,.string y.v] 65)=W2:=⟨_,rfl⟩;rw [hW2] at h2 hw2 hn5 b2 ⊢;have hz:W2.heap.size=w1.heap.size+1:=by rw [<- hW2];simp
 have hsz1:=hb.size;obtain⟨v',w3,hr,g2,g3,g4,g5⟩:=run_append_own_at (P:=Tryz.prog) W2 lo 23 23 65 i0 _ 5 64 Tryz.underlying23 hi hz0 hz1 hz2 rfl (by decide) v l.length _ h2.row ⟨w1.heap.size,0,none⟩ 1 1 [.slice (some ⟨p,0,none⟩) y.p.length pc,.bool y.fl,.int .i64 y.r,.int .i64 y.q,.string y.v] rfl hn5 (fun u hu=>by
  simp only [List.mem_cons,List.not_mem_nil,or_false] at hu;rcases hu with e|e|e|e|e<;>rw [e]<;>rfl) (by unfold maxLen;omega) (by omega) (by omega)
 rcases g2.2 with ⟨hv,h0⟩|⟨q',cap',cur,hv,r⟩
 ·omega
 rw [hv] at hr g2 g5;have hqq:some q'=v.ownBlock \/q'=W2.heap.size:=by
  rcases g5 with g5|g5
  ·exact .inl (by simpa [Value.ownBlock] using g5)
  ·exact .inr (by simpa [Value.ownBlock] using g5)
 have hs3:=g3.size;have gr:Gr w1 w3 v (.slice (some ⟨q',0,none⟩) (l.length+1) cap'):=by
  refine(Gr.of_below (b:=v) b2).trans ⟨g3,?_⟩;rcases hqq with e|e
  ·exact .inl e
  ·exact .inr ⟨q',rfl,by omega⟩
 refine⟨q',cap',w3,hr,⟨?_,fun i hi=> ?_⟩,gr⟩
 ·rw [List.length_append,List.length_singleton,lCp_end];exact g2
 ·have hown:∀b,some b≠v.ownBlock ->b<W2.heap.size ->some b≠(Value.slice (some ⟨q',0,none⟩) (l.length+1) cap').ownBlock:=fun b hb1 hb2 e=>by
   have e:b=q':=by simpa [Value.ownBlock] using e
   rcases hqq with e2|e2
   ·exact hb1 (by rw [e];exact e2)
   ·omega
  by_cases e:i=l.length
  ·subst e;simp only [if_pos];rw [gL_end];exact⟨hp1,by omega,hown p hp3 (by omega),hw2.same (g3.block p (by omega) hp3),hpc⟩
  ·have hi':i<l.length:=by simp at hi;omega
   simp only [if_neg e];rw [gL_pre l y hi'];obtain⟨e1,e2,e3,e4⟩:=h2.pt i hi';exact⟨e1,by omega,hown _ e3 e2,e4.1.same (g3.block _ e2 e3),e4.2⟩
theorem Sep.app {P:Nat ->Nat}{n p:Nat}(h:Sep P n)(hp:∀i,i<n ->P i≠p):Sep (fun i=>if i=n then p else P i) (n+1):=by
 intro i j hi hj hne;dsimp only;by_cases e:i=n
 ·rw [if_pos e,if_neg (by omega)];exact fun e2=>hp j (by omega) e2.symm
 ·rw [if_neg e];by_cases e2:j=n
  ·rw [if_pos e2];exact hp i (by omega)
  ·rw [if_neg e2];exact h i j (by omega) (by omega) hne
theorem LB.app {w w1:World}{lo:Nat}{v:Value}{l:List Lf}(h:LB w lo v l)(hb:Below w.heap.size w w1)(hlo:lo<=w.heap.size)(hk:l.length<=1048576)(y:Lf)(p pc:Nat)(hp1:w.heap.size<=p)(hp2:p<w1.heap.size)(hw:Wr w1 p 9 y.p.length (fun t=> .string (gS y.p t)))(hpc:y.p.length<=pc/\ pc<=9223372036854775807):
  ∃q' cap' w3,(Builtin.append_ #[23,23] 23 #[v,.slice (some ⟨w1.heap.size,0,none⟩) 1 1]).run Tryz.prog (w1.alloc (.cells #[.slice (some ⟨p,0,none⟩) y.p.length pc,.bool y.fl,.int .i64 y.r,.int .i64 y.q,.string y.v] 65))=.ok (.slice (some ⟨q',0,none⟩) (l.length+1) cap') w3/\
   LB w3 lo (.slice (some ⟨q',0,none⟩) (l.length+1) cap') (l++[y])/\ Gr w1 w3 v (.slice (some ⟨q',0,none⟩) (l.length+1) cap'):=by
 obtain⟨P,Q,h1,h2⟩:=h;obtain⟨q',cap',w3,e1,e2,e3⟩:=h1.app hb hlo hk y p pc (by omega) hp2 (fun e=>by have:=(h1.row.lt p e.symm).2;omega) hw hpc;exact⟨q',cap',w3,e1,⟨_,_,e2,by rw [List.length_append,List.length_singleton];exact h2.app (fun i hi=>by have:=(h1.pt i hi).2.1;omega)⟩,e3⟩
def PWay (w:World)(vw:Value)(p:List ByteArray):Prop:=(vw=.slice none 0 0/\ p=[]) \/∃g c,vw=.slice (some ⟨g,0,none⟩) p.length c/\ g<w.heap.size/\∀t,t<p.length ->w.cell? ⟨g,t,none⟩=some (.string (gS p t))
theorem PWay.move {w w':World}{vw:Value}{p:List ByteArray}(h:PWay w vw p)(hz:w.heap.size<=w'.heap.size)(hs:∀g,vw.ownBlock=some g ->w'.heap[g]? =w.heap[g]?):PWay w' vw p:=by
 rcases h with h|⟨g,c,rfl,h1,h2⟩
 ·exact .inl h
 ·exact .inr ⟨g,c,rfl,by omega,fun t ht=>(World.cell?_of_block (a:=⟨g,t,none⟩) (hs g rfl)).trans (h2 t ht)⟩
theorem PWay.lt {w:World}{vw:Value}{p:List ByteArray}(h:PWay w vw p):∀g,vw.ownBlock=some g ->g<w.heap.size:=by
 rcases h with ⟨rfl,_⟩|⟨g,c,rfl,h1,h2⟩
 ·intro g e;cases e
 ·intro g' e;have e:g=g':=by simpa [Value.ownBlock] using e
  omega
theorem PWay.below {w w':World}{vw:Value}{p:List ByteArray}(h:PWay w vw p)(hb:Below w.heap.size w w'):PWay w' vw p:=h.move hb.size (fun g hg=>hb.block g (h.lt g hg))
def sRow (p:List ByteArray):List Value:=(List.range (p.length*1)).map fun t=> .string (gS p t)
theorem gS_pre (p:List ByteArray)(s:ByteArray){i:Nat}(hi:i<p.length):gS (p++[s]) i=gS p i:=by simp [gS,List.getD,List.getElem?_append_left hi]
theorem gS_end (p:List ByteArray)(s:ByteArray):gS (p++[s]) p.length=s:=by simp [gS,List.getD]
theorem sRow_snoc (p:List ByteArray)(s:ByteArray):sRow (p++[s])=sRow p++[.string s]:=by
 unfold sRow;rw [Nat.mul_one,Nat.mul_one,List.length_append,List.length_singleton,List.range_succ,List.map_append,List.map_singleton,gS_end];congr 1;refine List.map_congr_left fun j hj=> ?_;rw [gS_pre p s (by simpa using hj)]
theorem cloneS (g m c:Nat)(p:List ByteArray)(w:World)(hp:p.length=m)(hm:m<=1048576)(hg:g<w.heap.size)(h:∀t,t<m ->w.cell? ⟨g,t,none⟩=some (.string (gS p t))):
  Calls Tryz.prog 70 #[.slice (some ⟨g,0,none⟩) m c] w fun e w'=>∃q cap,e=.returned (.slice (some ⟨q,0,none⟩) m cap)/\ Below w.heap.size w w'/\ w'.ownsRow w.heap.size 9 1 (.slice (some ⟨q,0,none⟩) m cap) m (sRow p):=by
 obtain⟨i0,hi,hz0,hz1,hz2⟩:=info_parts infoStr;have b0:Below w.heap.size w (w.alloc (.cells #[] 9)):=(Below.refl _ _).alloc (Nat.le_refl _) _;have ho:(w.alloc (.cells #[] 9)).ownsRow w.heap.size 9 1 (.slice (some ⟨w.heap.size,0,none⟩) 0 0) 0 []:=by
  have:=World.ownsRow_lit (base:=w.heap.size) (e:=9) (size:=1) w #[] 0 (Nat.le_refl _) (by unfold maxLen;omega) rfl;simpa using this
 obtain⟨q,cap,w',happ,hw,hgr,hq⟩:=copyRowE 61 9 i0 _ 1 16 Tryz.underlying61 hi hz0 hz1 hz2 rfl (by decide) (by omega) w.heap.size g 0 m c (fun t=> .string (gS p t)) (w.alloc (.cells #[] 9)) w.heap.size hm ho (by simp) (fun j hj=>by rw [Nat.zero_add];exact(b0.cell (p:=⟨g,j,none⟩) hg).trans (h j (by omega))) (fun _ _=>rfl);have HB:Hid (Below w.heap.size w w'):=hid (b0.grown hgr b0.size (fun k e=>by injection e with e;omega));have HW:Hid (w'.ownsRow w.heap.size 9 1 (.slice (some ⟨q,0,none⟩) m cap) m (sRow p)):=hid (by unfold sRow;rw [hp];exact hw);have he:∀w:World,(binOp .eql 61 (.slice (some ⟨g,0,none⟩) m c) (.slice none 0 0)).run Tryz.prog w=.ok (.bool false) w:=fun _=>rfl;clear hw hgr hq h ho b0;go_enter Tryz.func70,Tryz.ntmps70;go_wp2_with (at_builtin;refine wpList_app2 rfl _ _ _ _ rfl happ (by rfl) (by rfl) rfl ?_;clear happ);go_ret;exact⟨q,cap,rfl,HB.out,HW.out⟩
theorem cloneN (w:World):Calls Tryz.prog 70 #[.slice none 0 0] w fun e w'=>e=.returned (.slice none 0 0)/\ w'=w:=by
 have he:∀w:World,(binOp .eql 61 (.slice none 0 0) (.slice none 0 0)).run Tryz.prog w=.ok (.bool true) w:=fun _=>rfl;go_enter Tryz.func70,Tryz.ntmps70;go_wp2_with fail;go_ret;exact⟨rfl,rfl⟩
theorem cloneW (vw:Value)(p:List ByteArray)(w:World)(hp:p.length<=1048576)(h:PWay w vw p):
  Calls Tryz.prog 70 #[vw] w fun e w'=>∃v,e=.returned v/\ Below w.heap.size w w'/\ w'.ownsRow w.heap.size 9 1 v p.length (sRow p):=by
 rcases h with ⟨rfl,rfl⟩|⟨g,c,rfl,h1,h2⟩
 ·refine(cloneN w).mono ?_;rintro e w' ⟨rfl,rfl⟩;exact⟨_,rfl,Below.refl _ _,⟨rfl,.inl ⟨rfl,rfl⟩⟩⟩
 ·refine(cloneS g p.length c p w rfl hp h1 h2).mono ?_;rintro e w' ⟨q,cap,rfl,h3,h4⟩;exact⟨_,rfl,h3,h4⟩
theorem pthAppL {w:World}{lo:Nat}{v:Value}{p:List ByteArray}(h:w.ownsRow lo 9 1 v p.length (sRow p))(hlo:lo<=w.heap.size)(hp:p.length<=1048576)(s:ByteArray)(b:Nat)(hb:w.cell? ⟨b,0,none⟩=some (.string s)):
  ∃q cap w3,(Builtin.append_ #[61,61] 61 #[v,.slice (some ⟨b,0,none⟩) 1 1]).run Tryz.prog w=.ok (.slice (some ⟨q,0,none⟩) (p.length+1) cap) w3/\ w3.ownsRow lo 9 1 (.slice (some ⟨q,0,none⟩) (p.length+1) cap) (p.length+1) (sRow (p++[s]))/\ w.grownBy w3 v.ownBlock/\ lo<=q/\ (v.ownBlock=some q \/q=w.heap.size):=by
 obtain⟨i0,hi,hz0,hz1,hz2⟩:=info_parts infoStr;obtain⟨v',w3,hr,g2,g3,g4,g5⟩:=run_append_own_at (P:=Tryz.prog) w lo 61 61 9 i0 _ 1 16 Tryz.underlying61 hi hz0 hz1 hz2 rfl (by decide) v p.length _ h ⟨b,0,none⟩ 1 1 [.string s] rfl (fun j u hj=>by
  match j,hj with
  | 0,hj=>simp at hj;rw [<- hj,addr_addP];exact hb
  | j+1,hj=>simp at hj) (fun u hu=>by
  simp only [List.mem_cons,List.not_mem_nil,or_false] at hu;rw [hu];rfl) (by unfold maxLen;omega) (by omega) (by omega)
 rcases g2.2 with ⟨hv,h0⟩|⟨q',cap',cur,hv,r⟩
 ·omega
 rw [hv] at hr g2 g5;exact⟨q',cap',w3,hr,by rw [sRow_snoc];exact g2,g3,(g2.lt q' rfl).1,g5.imp (fun e=>e.symm) (fun e=>by simpa [Value.ownBlock] using e)⟩
theorem pthApp {w:World}{lo:Nat}{v:Value}{p:List ByteArray}(h:w.ownsRow lo 9 1 v p.length (sRow p))(hlo:lo<=w.heap.size)(hp:p.length<=1048576)(s:ByteArray)(b:Nat)(hb:w.cell? ⟨b,0,none⟩=some (.string s)):
  ∃q cap w3,(Builtin.append_ #[61,61] 61 #[v,.slice (some ⟨b,0,none⟩) 1 1]).run Tryz.prog w=.ok (.slice (some ⟨q,0,none⟩) (p.length+1) cap) w3/\ w3.ownsRow lo 9 1 (.slice (some ⟨q,0,none⟩) (p.length+1) cap) (p.length+1) (sRow (p++[s]))/\ w.grownBy w3 v.ownBlock/\ lo<=q:=by
 obtain⟨q,cap,w3,a1,a2,a3,a4,_⟩:=pthAppL h hlo hp s b hb;exact⟨q,cap,w3,a1,a2,a3,a4⟩
theorem own_way {w:World}{lo q m cap:Nat}{p:List ByteArray}(h:w.ownsRow lo 9 1 (.slice (some ⟨q,0,none⟩) m cap) m (sRow p))(hp:p.length=m):PWay w (.slice (some ⟨q,0,none⟩) m cap) p/\ Wr w q 9 m (fun t=> .string (gS p t)):=by
 unfold sRow at h;rw [hp] at h;have hw:=own_wrF h;rw [Nat.mul_one] at hw;exact⟨.inr ⟨q,cap,by rw [hp],hw.lt,fun t ht=>hw.cell (by omega)⟩,hw⟩
end Go.Proofs.YtpfmeafmepgimaaGreat
namespace Go.Proofs.YtpfmeafmepgimaaGreat
open Go.ChangeShapes Go.WideShapes Go.ChangeAt Go.RowKit
noncomputable def uL (l:List Lf)(p:List ByteArray):Nat ->List Lf
 | 0=>[]
 | k+1=>if yes (nx p (gL l k)≠none)=true then uL l p k++[gL l k] else uL l p k
noncomputable def wL (l:List Lf):Nat ->List ByteArray ->List Lf
 | 0,_=>[]
 | f+1,p=>(kS l p l.length).flatMap fun y=>if y.2=3 then wL l f (p++[y.1]) else dsK l p y l.length
theorem dsK_uL (l:List Lf)(p:List ByteArray)(s:ByteArray):∀k,dsK l p (s,3) k=uL l (p++[s]) k
 | 0=>rfl
 | k+1=>by
  have ih:=dsK_uL l p s k;by_cases h:nx p (gL l k)=some (s,3)
  ·rw [dsK_yes h];simp only [uL];rw [if_pos (yes_t (nx_map.1 h)),ih]
  ·rw [dsK_no h];simp only [uL];rw [if_neg (by rw [yes_f (fun hh=>h (nx_map.2 hh))];simp),ih]
theorem flat_same {α β:Type}{f g:α ->List β}:∀{ys:List α},(∀y∈ys,f y=g y) ->ys.flatMap f=ys.flatMap g
 | [],_=>rfl
 | a::r,h=>by
  rw [List.flatMap_cons,List.flatMap_cons,h a (List.mem_cons_self),flat_same (fun y hy=>h y (List.mem_cons_of_mem _ hy))]
theorem groups_uL {R F T:Nat ->Int}{n:Nat}{l:List Lf}(p:List ByteArray)(h:LvOk R F T n l l.length):∀k,k<=l.length ->(kS l p k).flatMap (fun y=>dsK l p y k)=uL l p k
 | 0,_=>rfl
 | k+1,hk=>by
  have ih:=groups_uL p h k (by omega);cases e:nx p (gL l k) with
  | none=>
   rw [kS_none e];have:(kS l p k).flatMap (fun y=>dsK l p y (k+1))=(kS l p k).flatMap (fun y=>dsK l p y k):=flat_same fun y _=>dsK_no (by rw [e];simp);rw [this,ih];simp only [uL];rw [if_neg (by rw [yes_f (fun hh=>hh e)];simp)]
  | some y=>
   have hu:uL l p (k+1)=uL l p k++[gL l k]:=by simp only [uL];rw [if_pos (yes_t (by rw [e];simp))]
   obtain⟨k1,k2⟩:=kS_ok p h k (by omega);rw [hu,<- ih,kS_some e];by_cases hl:(kS l p k).getLast? =some y
   ·rw [if_pos (yes_t hl)];obtain⟨ys,hys⟩:=List.getLast?_eq_some_iff.1 hl;have hny:y ∉ ys:=fun hm=>by
     rw [hys] at k1;have:=(List.pairwise_append.1 k1).2.2 y hm y (List.mem_singleton.2 rfl);rw [CmpT.key.irr] at this;omega
    rw [hys,List.flatMap_append,List.flatMap_append];simp only [List.flatMap_cons,List.flatMap_nil,List.append_nil];rw [dsK_yes e,<- List.append_assoc];congr 2;exact flat_same fun z hz=>dsK_no (by rw [e];simp;exact fun hh=>hny (hh ▸ hz))
   ·rw [if_neg (by rw [yes_f hl];simp)];have hny:y ∉ kS l p k:=fun hm=>by
     obtain⟨ys,hys⟩:∃ys,kS l p k=ys:=⟨_,rfl⟩;rw [hys] at k1 hl hm;rcases List.eq_nil_or_concat ys with h0|⟨zs,z,hz⟩
     ·rw [h0] at hm;cases hm
     ·rw [hz] at hl hm k1;simp only [List.concat_eq_append] at hl hm k1;have hzy:z≠y:=fun hh=>hl (by rw [hh];simp);rcases List.mem_append.1 hm with h3|h3
      ·have h4:=(List.pairwise_append.1 k1).2.2 y h3 z (List.mem_singleton.2 rfl);obtain⟨j,hj,ej⟩:=(k2 z).1 (by rw [hys,hz];simp);have h5:=nx_order (h.lt k hj (by omega)) ej e;have h6:=(CmpT.key.neg y z).1 h4;omega
      ·exact hzy (List.mem_singleton.1 h3).symm
    have hds:dsK l p y k=[]:=by
     cases hd:dsK l p y k with
     | nil=>rfl
     | cons x xs=>
      obtain⟨j,hj,ej,_⟩:=dsK_mem.1 (show x∈dsK l p y k by rw [hd];exact List.mem_cons_self);exact absurd ((k2 y).2 ⟨j,hj,ej⟩) hny
    rw [List.flatMap_append];simp only [List.flatMap_cons,List.flatMap_nil,List.append_nil];rw [dsK_yes e,hds,List.nil_append];congr 1;exact flat_same fun z hz=>dsK_no (by rw [e];simp;exact fun hh=>hny (hh ▸ hz))
theorem wL_uL {R F T:Nat ->Int}{n:Nat}{l:List Lf}(h:LvOk R F T n l l.length):∀f p,p.length+f=8 ->wL l f p=uL l p l.length
 | 0,p,hp=>by
  have:∀k,k<=l.length ->uL l p k=[]:=fun k=>by
   induction k with
   | zero=>intro _;rfl
   | succ k ih=>
    intro hk;simp only [uL];rw [if_neg (by
     rw [yes_f (fun hh=> ?_)]
     ·simp
     ·have:=(nx_ne.1 hh).2;have:=(h k (by omega)).1.1.2.1;omega),ih (by omega)]
  exact(this _ (Nat.le_refl _)).symm
 | f+1,p,hp=>by
  rw [<- groups_uL p h l.length (Nat.le_refl _)];show (kS l p l.length).flatMap _=_;refine flat_same fun y _=> ?_;by_cases e3:y.2=3
  ·rw [if_pos e3,wL_uL h f (p++[y.1]) (by rw [List.length_append];simp;omega),<- dsK_uL];rw [show (y.1,(3:Int))=y by rw [<- e3]]
  ·rw [if_neg e3]
theorem uL_all {R F T:Nat ->Int}{n:Nat}{l:List Lf}(h:LvOk R F T n l l.length):∀k,k<=l.length ->uL l [] k=l.take k
 | 0,_=>by simp [uL]
 | k+1,hk=>by
  simp only [uL];rw [if_pos (yes_t (nx_ne.2 ⟨List.nil_prefix,by have:=(h k (by omega)).1.1.1;simp;omega⟩)),uL_all h k (by omega),List.take_add_one];congr 1;simp [gL,List.getD,show k<l.length by omega]
theorem wL_all {R F T:Nat ->Int}{n:Nat}{l:List Lf}(h:LvOk R F T n l l.length):wL l 8 []=l:=by
 rw [wL_uL h 8 [] rfl,uL_all h _ (Nat.le_refl _),List.take_length]
def lfK (x:Lf):List ByteArray×Int×Dt:=(x.p,kd x.fl,x.r,x.q)
theorem lfK_cmp:CmpT (fun x y:List ByteArray×Int×Dt=>orI (cmpP x.1 y.1) (orI (cmpI x.2.1 y.2.1) (cmpDt x.2.2 y.2.2))):=CmpT.path.pair (CmpT.int.pair CmpT.dot)
theorem cmpL_neg (x y:Lf):cmpL x y<0↔0<cmpL y x:=lfK_cmp.neg (lfK x) (lfK y)
theorem cmpL_z (x y:Lf):cmpL x y=0↔lfK x=lfK y:=lfK_cmp.z (lfK x) (lfK y)
theorem lfK_way {x y:Lf}(h:lfK x=lfK y):x.p=y.p/\ x.fl=y.fl/\ x.r=y.r/\ x.q=y.q:=by
 unfold lfK at h;have h1:=congrArg Prod.fst h;have h2:=congrArg (fun z=>z.2.1) h;have h3:=congrArg (fun z=>z.2.2.1) h;have h4:=congrArg (fun z=>z.2.2.2) h;exact⟨h1,kd_inj h2,h3,h4⟩
noncomputable def insL (x:Lf):List Lf ->List Lf
 | []=>[x]
 | y::r=>if yes (cmpL y x<0)=true then y::insL x r else x::y::r
theorem insL_mem {x z:Lf}:∀{ls:List Lf},z∈insL x ls↔z=x \/z∈ls
 | []=>by simp [insL]
 | y::r=>by
  have ih:=insL_mem (x:=x) (z:=z) (ls:=r);simp only [insL];split
  ·rw [List.mem_cons,ih,List.mem_cons];constructor
   ·rintro(h|h|h)
    ·exact .inr (.inl h)
    ·exact .inl h
    ·exact .inr (.inr h)
   ·rintro(h|h|h)
    ·exact .inr (.inl h)
    ·exact .inl h
    ·exact .inr (.inr h)
  ·rw [List.mem_cons]
theorem insL_len (x:Lf):∀ls:List Lf,(insL x ls).length=ls.length+1
 | []=>rfl
 | y::r=>by
  simp only [insL];split
  ·simp [insL_len x r]
  ·simp
theorem insL_sorted {x:Lf}:∀{ls:List Lf},ls.Pairwise (fun a b=>cmpL a b<0) ->(∀y∈ls,lfK y≠lfK x) ->(insL x ls).Pairwise (fun a b=>cmpL a b<0)
 | [],_,_=>by simp [insL]
 | y::r,h,hne=>by
  have hr:=List.pairwise_cons.1 h;have ih:=insL_sorted hr.2 (fun z hz=>hne z (List.mem_cons_of_mem _ hz));simp only [insL];by_cases hc:cmpL y x<0
  ·rw [if_pos (yes_t hc)];refine List.pairwise_cons.2 ⟨fun z hz=> ?_,ih⟩;rcases insL_mem.1 hz with e|e
   ·rw [e];exact hc
   ·exact hr.1 z e
  ·rw [if_neg (by rw [yes_f hc];simp)];have h0:cmpL y x≠0:=fun e=>hne y (List.mem_cons_self) ((cmpL_z y x).1 e);have h1:cmpL x y<0:=(cmpL_neg x y).2 (by omega);refine List.pairwise_cons.2 ⟨fun z hz=> ?_,h⟩;rcases List.mem_cons.1 hz with e|e
   ·rw [e];exact h1
   ·exact cmpL_tr h1 (hr.1 z e)
noncomputable def putL (P:Lf ->Prop)(ls:List Lf)(out:List Lf):Nat ->List Lf
 | 0=>out
 | k+1=>if yes (P (gL ls k))=true then insL (gL ls k) (putL P ls out k) else putL P ls out k
theorem putL_yes {P:Lf ->Prop}{ls out:List Lf}{k:Nat}(h:P (gL ls k)):putL P ls out (k+1)=insL (gL ls k) (putL P ls out k):=by simp only [putL];rw [if_pos (yes_t h)]
theorem putL_no {P:Lf ->Prop}{ls out:List Lf}{k:Nat}(h:¬P (gL ls k)):putL P ls out (k+1)=putL P ls out k:=by simp only [putL];rw [if_neg (by rw [yes_f h];simp)]
theorem putL_mem {P:Lf ->Prop}{ls out:List Lf}{z:Lf}:∀{k:Nat},z∈putL P ls out k↔z∈out \/∃j,j<k/\ P (gL ls j)/\ gL ls j=z
 | 0=>by simp [putL]
 | k+1=>by
  have ih:=putL_mem (P:=P) (ls:=ls) (out:=out) (z:=z) (k:=k);by_cases h:P (gL ls k)
  ·rw [putL_yes h,insL_mem,ih];constructor
   ·rintro(e|e|⟨j,h1,h2,h3⟩)
    ·exact .inr ⟨k,by omega,h,e.symm⟩
    ·exact .inl e
    ·exact .inr ⟨j,by omega,h2,h3⟩
   ·rintro(e|⟨j,h1,h2,h3⟩)
    ·exact .inr (.inl e)
    ·by_cases ej:j=k
     ·subst ej;exact .inl h3.symm
     ·exact .inr (.inr ⟨j,by omega,h2,h3⟩)
  ·rw [putL_no h,ih];constructor
   ·rintro(e|⟨j,h1,h2,h3⟩)
    ·exact .inl e
    ·exact .inr ⟨j,by omega,h2,h3⟩
   ·rintro(e|⟨j,h1,h2,h3⟩)
    ·exact .inl e
    ·by_cases ej:j=k
     ·subst ej;exact absurd h2 h
     ·exact .inr ⟨j,by omega,h2,h3⟩
theorem putL_len {P:Lf ->Prop}{ls out:List Lf}:∀k,(putL P ls out k).length<=out.length+k
 | 0=>by simp [putL]
 | k+1=>by
  have ih:=putL_len (P:=P) (ls:=ls) (out:=out) k;simp only [putL];split
  ·rw [insL_len];omega
  ·omega
theorem putL_sorted {P:Lf ->Prop}{ls out:List Lf}(ho:out.Pairwise (fun a b=>cmpL a b<0))(hl:∀i j,i<j ->j<ls.length ->cmpL (gL ls i) (gL ls j)<0)(hne:∀j,j<ls.length ->P (gL ls j) ->∀y∈out,lfK y≠lfK (gL ls j)):∀k,k<=ls.length ->(putL P ls out k).Pairwise (fun a b=>cmpL a b<0)
 | 0,_=>ho
 | k+1,hk=>by
  have ih:=putL_sorted ho hl hne k (by omega);by_cases h:P (gL ls k)
  ·rw [putL_yes h];refine insL_sorted ih (fun y hy=> ?_);rcases putL_mem.1 hy with e|⟨j,h1,h2,h3⟩
   ·exact hne k (by omega) h y e
   ·intro e;rw [<- h3] at e;have:=(cmpL_z _ _).2 e;have:=hl j k h1 (by omega);omega
  ·rw [putL_no h];exact ih
noncomputable def jnL (la lb:List Lf)(hasA hasB:Lf ->Prop):List Lf:=putL (fun x=>¬hasA x) lb (putL (fun x=>x∈lb \/¬hasB x) la [] la.length) lb.length
theorem gL_mem {l:List Lf}{x:Lf}:x∈l↔∃j,j<l.length/\ gL l j=x:=by
 constructor
 ·intro h;obtain⟨j,hj,e⟩:=List.getElem_of_mem h;exact⟨j,hj,by simp [gL,List.getD,hj,e]⟩
 ·rintro⟨j,hj,e⟩;rw [<- e];have:gL l j=l[j]:=by simp [gL,List.getD,hj]
  rw [this];exact List.getElem_mem hj
theorem jnL_mem {la lb:List Lf}{hasA hasB:Lf ->Prop}{z:Lf}:z∈jnL la lb hasA hasB↔(z∈la/\ (z∈lb \/¬hasB z)) \/(z∈lb/\¬hasA z):=by
 unfold jnL;rw [putL_mem,putL_mem];constructor
 ·rintro((e|⟨j,h1,h2,h3⟩)|⟨j,h1,h2,h3⟩)
  ·cases e
  ·rw [h3] at h2;exact .inl ⟨gL_mem.2 ⟨j,h1,h3⟩,h2⟩
  ·rw [h3] at h2;exact .inr ⟨gL_mem.2 ⟨j,h1,h3⟩,h2⟩
 ·rintro(⟨h1,h2⟩|⟨h1,h2⟩)
  ·obtain⟨j,hj,e⟩:=gL_mem.1 h1;exact .inl (.inr ⟨j,hj,by rw [e];exact h2,e⟩)
  ·obtain⟨j,hj,e⟩:=gL_mem.1 h1;exact .inr ⟨j,hj,by rw [e];exact h2,e⟩
theorem jnL_sorted {la lb:List Lf}{hasA hasB:Lf ->Prop}(hA:∀i j,i<j ->j<la.length ->cmpL (gL la i) (gL la j)<0)(hB:∀i j,i<j ->j<lb.length ->cmpL (gL lb i) (gL lb j)<0)(hk:∀x∈la,hasA x)(hd:∀x y,lfK x=lfK y ->(hasA x↔hasA y)):(jnL la lb hasA hasB).Pairwise (fun a b=>cmpL a b<0):=by
 unfold jnL;refine putL_sorted (putL_sorted List.Pairwise.nil hA (fun j _ _ y hy=>by cases hy) _ (Nat.le_refl _)) hB (fun j hj hP y hy e=> ?_) _ (Nat.le_refl _);rcases putL_mem.1 hy with h|⟨i,h1,_,h3⟩
 ·cases h
 ·exact hP ((hd _ _ e).1 (hk y (gL_mem.2 ⟨i,h1,h3⟩)))
theorem lfs_uniq:∀{a b:List Lf},a.Pairwise (fun x y=>cmpL x y<0) ->b.Pairwise (fun x y=>cmpL x y<0) ->(∀z,z∈a↔z∈b) ->a=b
 | [],[],_,_,_=>rfl
 | [],y::_,_,_,h=>by have:=(h y).2 (List.mem_cons_self);cases this
 | x::_,[],_,_,h=>by have:=(h x).1 (List.mem_cons_self);cases this
 | x::r,y::s,ha,hb,h=>by
  have ha':=List.pairwise_cons.1 ha;have hb':=List.pairwise_cons.1 hb;have irr:∀z:Lf,¬cmpL z z<0:=fun z hz=>by have:=(cmpL_neg z z).1 hz;omega
  have e:x=y:=by
   rcases List.mem_cons.1 ((h x).1 (List.mem_cons_self)) with e|e
   ·exact e
   ·rcases List.mem_cons.1 ((h y).2 (List.mem_cons_self)) with e2|e2
    ·exact e2.symm
    ·exact absurd (cmpL_tr (ha'.1 y e2) (hb'.1 x e)) (irr x)
  subst e;congr 1;refine lfs_uniq ha'.2 hb'.2 fun z=> ?_;constructor
  ·intro hz;rcases List.mem_cons.1 ((h z).1 (List.mem_cons_of_mem _ hz)) with e|e
   ·subst e;exact absurd (ha'.1 z hz) (irr z)
   ·exact e
  ·intro hz;rcases List.mem_cons.1 ((h z).2 (List.mem_cons_of_mem _ hz)) with e|e
   ·subst e;exact absurd (hb'.1 z hz) (irr z)
   ·exact e
end Go.Proofs.YtpfmeafmepgimaaGreat
