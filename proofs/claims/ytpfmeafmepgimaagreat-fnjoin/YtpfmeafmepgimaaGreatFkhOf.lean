import Derived.Test.YtpfmeafmepgimaaGreatRows
import Derived.WalkKit
import Derived.ProofKit
import Derived.Below
import Derived.Maps.AppendAt
import Derived.Deep.AppendSrc
set_option linter.unusedVariables false
set_option linter.unusedSimpArgs false
set_option maxRecDepth 100000
set_option maxHeartbeats 40000000
namespace Go.Proofs.YtpfmeafmepgimaaGreat
open Go.ChangeShapes Go.WideShapes Go.ChangeAt Go.RowKit
def OffV (w:World)(B size:Nat)(v:Value)(n:Nat)(xs:List Value):Prop:=
 ∃g off c,v=.slice (some ⟨g,off,none⟩) n c/\ B<=g/\ g<w.heap.size/\ n<=c/\ c<=maxLen/\ xs.length=n*size/\ (∀j,j<n*size ->w.cell? ⟨g,off+j,none⟩=xs[j]?)/\ (∀j,j<c*size ->(w.cell? ⟨g,off+j,none⟩).isSome=true)/\ (∀j,j<c*size ->w.frozen? ⟨g,off+j,none⟩=false)
theorem off_of_row {w:World}{B:Nat}{e:TypeId}{size:Nat}{v:Value}{n:Nat}{xs:List Value}(h:w.ownsRow B e size v n xs)(hv:v≠.slice none 0 0):OffV w B size v n xs:=by
 rcases h.2 with ⟨e,_⟩|⟨g,cap,cur,e,hbg,hg,hnc,hcm,hcs,htk⟩
 ·exact absurd e hv
 ·subst e;refine⟨g,0,cap,rfl,hbg,(h.lt g rfl).2,hnc,hcm,h.1,fun j hj=> ?_,fun j hj=> ?_,fun j hj=> ?_⟩
  ·rw [Nat.zero_add];exact h.cellAt j hj
  ·rw [Nat.zero_add];have:j<cur.size:=by rw [hcs];exact hj
   simp [World.cell?,hg,this]
  ·rw [Nat.zero_add];exact h.frozenAt j
theorem OffV.below {w w':World}{B C size:Nat}{v:Value}{n:Nat}{xs:List Value}(h:OffV w B size v n xs)(hb:Below C w w')(hC:w.heap.size<=C):OffV w' B size v n xs:=by
 obtain⟨g,off,c,e,hB,hg,hn,hc,hl,h1,h2,h3⟩:=h;have hgC:g<C:=Nat.lt_of_lt_of_le hg hC;exact⟨g,off,c,e,hB,Nat.lt_of_lt_of_le hg hb.size,hn,hc,hl,fun j hj=>(hb.cell (p:=⟨g,off+j,none⟩) hgC).trans (h1 j hj),fun j hj=>by rw [hb.cell (p:=⟨g,off+j,none⟩) hgC];exact h2 j hj,fun j hj=>(hb.frozen (p:=⟨g,off+j,none⟩) hgC).trans (h3 j hj)⟩
theorem OffV.gr {w w':World}{B size:Nat}{v:Value}{n:Nat}{xs:List Value}{row:Option Nat}(h:OffV w B size v n xs)(hg:w.grownBy w' row)(hne:v.ownBlock≠row):OffV w' B size v n xs:=by
 obtain⟨g,off,c,rfl,hB,hlt,hn,hc,hl,h1,h2,h3⟩:=h;have e:w'.heap[g]? =w.heap[g]? :=hg.block g hlt hne;exact⟨g,off,c,rfl,hB,Nat.lt_of_lt_of_le hlt hg.size,hn,hc,hl,fun j hj=>(World.cell?_of_block e).trans (h1 j hj),fun j hj=>by rw [World.cell?_of_block (a:=⟨g,off+j,none⟩) e];exact h2 j hj,fun j hj=>(World.frozen?_of_block (a:=⟨g,off+j,none⟩) e).trans (h3 j hj)⟩
theorem OffV.weak {w:World}{B B' size:Nat}{v:Value}{n:Nat}{xs:List Value}(h:OffV w B size v n xs)(hB:B'<=B):OffV w B' size v n xs:=by
 obtain⟨g,off,c,e,h0,r⟩:=h;exact⟨g,off,c,e,Nat.le_trans hB h0,r⟩
theorem OffV.lt {w:World}{B size:Nat}{v:Value}{n:Nat}{xs:List Value}(h:OffV w B size v n xs):∃g,v.ownBlock=some g/\ B<=g/\ g<w.heap.size:=by
 obtain⟨g,off,c,rfl,h0,h1,_⟩:=h;exact⟨g,rfl,h0,h1⟩
theorem grown_setCells (b:Nat):∀(vs:List Value) (o:Nat) (w:World),w.grownBy (w.setCells b o vs) (some b)
 | [],o,w=>⟨rfl,rfl,rfl,Nat.le_refl _,fun _ _ _=>rfl⟩
 | v::r,o,w=>by
  have ih:=grown_setCells b r (o+1) (w.setCell ⟨b,o,none⟩ v);have hs:(w.setCell ⟨b,o,none⟩ v).heap.size=w.heap.size:=by simp [World.setCell]
  exact⟨ih.os,ih.tape,ih.output,by have:=ih.size;rw [hs] at this;exact this,fun k hk hne=>(ih.block k (by rw [hs];exact hk) hne).trans (Below.heap_setCell _ _ _ _ (fun e=>hne (by rw [e])))⟩
theorem run_app_off {P:Program}(w:World)(B:Nat)(t ty e:TypeId)(i:TypeInfo)(z:Value)(size bytes:Nat)(ht:P.underlying t=some (.slice e))(hi:P.info? e=some i)(hz:i.zero=some z)
  (hsize:i.size=size) (hby:i.bytes=bytes) (hzs:z.cells.size=size) (v:Value) (n:Nat) (xs:List Value) (hown:OffV w B size v n xs)
  (a:Addr) (m c:Nat) (news:List Value) (hl:news.length=m*size) (hnews:∀j u,news[j]? =some u ->w.cell? (a.add j)=some u) (h1:∀u∈news,u.oneCell'=true)
  (h63:n+m<=maxLen) (hbytes:(n+m)*bytes<=140737488355328) (hbase:B<=w.heap.size):
  ∃v' w',(Builtin.append_ #[t,t] ty #[v,.slice (some a) m c]).run P w=.ok v' w'/\ OffV w' B size v' (n+m) (xs++news)/\ w.grownBy w' v.ownBlock/\ (v'.ownBlock=v.ownBlock \/v'.ownBlock=some w.heap.size):=by
 subst hsize;subst hby;obtain⟨g,off,cap,rfl,hB,hg,hnc,hcm,hlx,k1,k2,k3⟩:=hown;have hsrc:Src P i.size t (.slice (some a) m c) m news w:=Src.ofSlice w ht a m c news hl hnews h1;have hlen:(xs++news).length=(n+m)*i.size:=by rw [List.length_append,hlx,hl,Nat.add_mul]
 have hsm:(n+m)*i.size=n*i.size+m*i.size:=Nat.add_mul _ _ _;by_cases hroom:n+m<=cap
 ·have hcap:(n+m)*i.size<=cap*i.size:=Nat.mul_le_mul_right _ hroom;have q1:∀j,j<news.length ->(w.cell? ⟨g,off+n*i.size+j,none⟩).isSome=true:=fun j hj=>by rw [Nat.add_assoc];exact k2 _ (by omega)
  have hr:=run_append_room_src (P:=P) (w:=w) t t ty e i ht hi g off n cap (.slice (some a) m c) m news hsrc hroom q1 (fun j hj=>by rw [Nat.add_assoc];exact k3 _ (by omega));have hin:=World.cell?_setCells_in g news (off+n*i.size) w q1;refine⟨_,_,hr,⟨g,off,cap,rfl,hB,?_,hroom,hcm,hlen,fun j hj=> ?_,fun j hj=> ?_,fun j hj=> ?_⟩,grown_setCells g news _ w,.inl rfl⟩
  ·exact Nat.lt_of_lt_of_le hg (grown_setCells g news _ w).size
  ·by_cases hj1:j<n*i.size
   ·rw [World.cell?_setCells_out g news _ w _ (fun _ _=> .inl (by show off+j<off+n*i.size;omega)),k1 j hj1,List.getElem?_append_left (by omega)]
   ·have:=hin (j - n*i.size) (by omega);rw [show off+n*i.size+(j - n*i.size)=off+j by omega] at this;rw [this,List.getElem?_append_right (by omega),hlx,List.getElem?_eq_getElem (by omega)]
  ·by_cases hj1:n*i.size<=j/\ j<n*i.size+news.length
   ·have:=hin (j - n*i.size) (by omega);rw [show off+n*i.size+(j - n*i.size)=off+j by omega] at this;rw [this];rfl
   ·rw [World.cell?_setCells_out g news _ w _ (fun _ _=>by show off+j<off+n*i.size \/off+n*i.size+news.length<=off+j;omega)];exact k2 j hj
  ·rw [World.frozen?_setCells];exact k3 j hj
 ·have hold:(Builtin.firstCells i.size n (.slice (some ⟨g,off,none⟩) n cap)).run P w.drew=.ok xs.toArray w.drew:=run_firstCells_some (P:=P) w.drew i.size n ⟨g,off,none⟩ n cap xs hlx (fun j u hu=>by
   have hj:j<xs.length:=(List.getElem?_eq_some_iff.1 hu).1;have:=k1 j (by omega);rw [hu] at this;have e2:(⟨g,off,none⟩:Addr).add j=⟨g,off+j,none⟩:=by
    by_cases h0:j=0
    ·subst h0;simp [Addr.add]
    ·simp [Addr.add,h0]
   rw [e2];exact this)
  have hr:=run_append_grow_src (P:=P) (w:=w) t t ty e i z ht hi hz (some ⟨g,off,none⟩) n cap xs hold (.slice (some a) m c) m news hsrc (by omega) (by unfold maxLen at h63;omega) (growslice_fits (by omega) hbytes);have hge:=grownCap_ge w (n+m) cap e;have hcm':grownCap w (n+m) cap e<=maxLen:=grownCap_le_maxLen w (n+m) cap e h63;obtain⟨C,hC⟩:∃C,grownCap w (n+m) cap e=C:=⟨_,rfl⟩;rw [hC] at hr hge hcm';have hmm:(n+m)*i.size<=C*i.size:=Nat.mul_le_mul_right _ hge;have hsz:((xs++news).toArray++Builtin.zeroCells z.cells (C - (n+m))).size=C*i.size:=by
   simp only [Array.size_append,List.size_toArray,size_zeroCells,hzs];rw [hlen,<- Nat.add_mul];congr 1;omega
  have hcell:∀j,(w.drew.alloc (.cells ((xs++news).toArray++Builtin.zeroCells z.cells (C - (n+m))) e)).cell? ⟨w.heap.size,j,none⟩=((xs++news).toArray++Builtin.zeroCells z.cells (C - (n+m)))[j]? :=fun j=>by
   have:=heap_alloc_new w.drew (.cells ((xs++news).toArray++Builtin.zeroCells z.cells (C - (n+m))) e);rw [show (w.drew).heap.size=w.heap.size from rfl] at this;unfold World.cell?;dsimp only;rw [this];rfl
  refine⟨_,_,hr,⟨w.heap.size,0,C,rfl,hbase,by simp,hge,hcm',hlen,fun j hj=> ?_,fun j hj=> ?_,fun j hj=> ?_⟩,⟨rfl,rfl,rfl,by simp,fun k hk _=>heap_alloc_old w.drew _ hk⟩,.inr rfl⟩
  ·rw [Nat.zero_add,hcell,Array.getElem?_append_left (by rw [List.size_toArray,hlen];exact hj)];simp
  ·rw [Nat.zero_add,hcell,Array.getElem?_eq_getElem (by rw [hsz];exact hj)];rfl
  ·rw [Nat.zero_add];have:=heap_alloc_new w.drew (.cells ((xs++news).toArray++Builtin.zeroCells z.cells (C - (n+m))) e);rw [show (w.drew).heap.size=w.heap.size from rfl] at this;unfold World.frozen?;dsimp only;rw [this];show (decide (0<=j) && decide (j<0))=false;simp
theorem wp_app_off {P:Program}{o:Oper}{a:Act}{w:World}{K:Act ->World ->Prop}{Q:Exit ->Act ->World ->Prop}(s x:Operand)(t:TypeId)
  (ho:o.op=.call {callee:=.builtin .append,args:=#[s,x],argTypes:=#[t,t]})
  (base:Nat) (e:TypeId) (i:TypeInfo) (z:Value) (size bytes:Nat) (ht:P.underlying t=some (.slice e)) (hi:P.info? e=some i) (hz:i.zero=some z)
  (hsize:i.size=size) (hby:i.bytes=bytes) (hzs:z.cells.size=size)
  (v:Value) (n:Nat) (xs:List Value) (hs:a.eval s=v) (hown:OffV w base size v n xs)
  (ad:Addr) (m c:Nat) (news:List Value) (hx:a.eval x=.slice (some ad) m c) (hl:news.length=m*size) (hnews:∀j u,news[j]? =some u ->w.cell? (ad.add j)=some u) (h1:∀u∈news,u.oneCell'=true)
  (h63:n+m<=maxLen) (hbytes:(n+m)*bytes<=140737488355328) (hbase:base<=w.heap.size)
  (h:∀v' w',OffV w' base size v' (n+m) (xs++news) ->w.grownBy w' v.ownBlock ->(v'.ownBlock=v.ownBlock \/v'.ownBlock=some w.heap.size) ->K (a.put o.dst v') w'):o.wp P a w K Q:=by
 obtain⟨v',w',hr,h2,h3,h4⟩:=run_app_off (P:=P) w base t o.type e i z size bytes ht hi hz hsize hby hzs v n xs hown ad m c news hl hnews h1 h63 hbytes hbase;unfold Oper.wp execOp;simp only [ho,resolve,invoke,builtin,Sem.run_bind,Sem.run_pure,Result.andThen_ok,List.map_toArray,List.map_cons,List.map_nil,hs,hx,hr];exact h v' w' h2 h3 h4
theorem wpList_app_off {P:Program}{w:World}{ops:Array Oper}{rest:List Oper}{o:Oper}{a:Act}{Q:Exit ->Act ->World ->Prop}(hgd:o.guard=none)(s x:Operand)(t:TypeId)
  (ho:o.op=.call {callee:=.builtin .append,args:=#[s,x],argTypes:=#[t,t]})
  (base:Nat) (e:TypeId) (i:TypeInfo) (z:Value) (size bytes:Nat) (ht:P.underlying t=some (.slice e)) (hi:P.info? e=some i) (hz:i.zero=some z)
  (hsize:i.size=size) (hby:i.bytes=bytes) (hzs:z.cells.size=size)
  (v:Value) (n:Nat) (xs:List Value) (hs:a.eval s=v) (hown:OffV w base size v n xs)
  (ad:Addr) (m c:Nat) (news:List Value) (hx:a.eval x=.slice (some ad) m c) (hl:news.length=m*size) (hnews:∀j u,news[j]? =some u ->w.cell? (ad.add j)=some u) (h1:∀u∈news,u.oneCell'=true)
  (h63:n+m<=maxLen) (hbytes:(n+m)*bytes<=140737488355328) (hbase:base<=w.heap.size)
  (h:∀v' w',OffV w' base size v' (n+m) (xs++news) ->w.grownBy w' v.ownBlock ->(v'.ownBlock=v.ownBlock \/v'.ownBlock=some w.heap.size) ->wpList P ops Q rest (a.put o.dst v') w'):wpList P ops Q (o::rest) a w:=
 wpList_plain hgd fun _ hK=>wp_app_off s x t ho base e i z size bytes ht hi hz hsize hby hzs v n xs hs hown ad m c news hx hl hnews h1 h63 hbytes hbase fun v' w' h2 h3 h4=>hK _ _ (h v' w' h2 h3 h4)
end Go.Proofs.YtpfmeafmepgimaaGreat
