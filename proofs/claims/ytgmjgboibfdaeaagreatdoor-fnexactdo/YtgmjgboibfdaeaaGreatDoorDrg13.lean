import Derived.Test.YtgmjgboibfdaeaaGreatDoorDrg12
import Derived.Test.YtgmjgboibfdaeaaGreatDoorDrg09
import Derived.Maps.RangeWalk
import Derived.Lib.SlMapMerge
set_option linter.unusedVariables false
set_option linter.unusedSimpArgs false
set_option maxRecDepth 100000
set_option maxHeartbeats 40000000
namespace Go.Proofs.YtgmjgboibfdaeaaGreatDoor
open Go.ChangeShapes Go.WideShapes Go.ChangeAt Go.RowKit Go.Deep
variable {B bm c g i j k lo n s:Nat}{L:Int ->List (Int×Int)}{e:TypeId}{l la lb m:List (Int×Int)}{p q:Int×Int}{r x:Int}{v:Value}{w w1:World}{xs:List Value}
theorem LC.cast{l:List Lf}{P Q P' Q':Nat ->Nat}(h:LC w lo v l P Q)(e:∀i,i<l.length ->P' i=P i/\ Q' i=Q i):LC w lo v l P' Q':=by
 refine⟨?_,fun i hi=> ?_⟩
 ·have:(List.range (l.length*5)).map (lCp l P' Q')=(List.range (l.length*5)).map (lCp l P Q):=List.map_congr_left fun j hj=>by
   have q:j<l.length*5:=by simpa using hj
   obtain⟨k,m⟩:=e (j/5) (by omega);unfold lCp;rw [k,m]
  rw [this];exact h.row
 ·obtain⟨k,m⟩:=e i hi;rw [k,m];exact h.pt i hi
theorem QfZ {y:Lf}:∀{ls:List Lf} {k:Nat},k<=ls.length ->(∀i,i<k ->QaM (gL ls i) y<0) ->(k<ls.length ->¬QaM (gL ls k) y<0) ->Qcq y ls=ls.take k++y::ls.drop k
 | [],k,hk,_,_=>by
  obtain rfl:k=0:=by simpa using hk
  simp [Qcq]
 | x::r,0,_,_,j=>by
  have j:=j (by simp);have e:gL (x::r) 0=x:=rfl;rw [e] at j;simp only [Qcq];rw [if_neg (by rw [Qaf j];simp)];simp
 | x::r,k+1,hk,h1,j=>by
  have e:gL (x::r) 0=x:=rfl;have m:=h1 0 (by omega);rw [e] at m;simp only [Qcq];rw [if_pos (Qah m),QfZ (ls:=r) (k:=k) (by simpa using hk) (fun i hi=>h1 (i+1) (by omega)) (fun hh=>j (by simp;omega))];simp
theorem LC.cell{cap:Nat}{l:List Lf}{P Q:Nat ->Nat}(h:LC w lo (.slice (some ⟨g,0,none⟩) n cap) l P Q)(hn:n=l.length)(hi:i<l.length):
  w.cell? ⟨g,i*5,none⟩=some (.slice (some ⟨P i,0,none⟩) (gL l i).p.length (Q i))/\ w.cell? ⟨g,i*5+1,none⟩=some (.bool (gL l i).fl)/\ w.cell? ⟨g,i*5+2,none⟩=some (.int .i64 (gL l i).r)/\ w.cell? ⟨g,i*5+3,none⟩=some (.int .i64 (gL l i).q)/\ w.cell? ⟨g,i*5+4,none⟩=some (.string (gL l i).v):=by
 subst hn;have j:=QbR h.row;obtain⟨k,m,u,y,z⟩:=QnH l P Q i;exact⟨by rw [j.cell (by omega),k],by rw [j.cell (by omega),m],by rw [j.cell (by omega),u],by rw [j.cell (by omega),y],by rw [j.cell (by omega),z]⟩
theorem LC.seg{l:List Lf}{P Q:Nat ->Nat}(h:LC w lo v l P Q)(hi:i<l.length):Qaw w (some ⟨P i,0,none⟩) (gL l i).p:=by
 obtain⟨m,j,q,k,r⟩:=h.pt i hi;exact .inr ⟨P i,0,rfl,j,fun t ht=>by rw [Nat.zero_add];exact k.cell ht⟩
theorem LC.lt{l:List Lf}{P Q:Nat ->Nat}(h:LC w lo v l P Q):∀g,v.ownBlock=some g ->lo<=g/\ g<w.heap.size:=fun g hg=>h.row.lt g hg
theorem LC.low{lo':Nat}{l:List Lf}{P Q:Nat ->Nat}(h:LC w lo v l P Q)(hl:lo'<=lo):LC w lo' v l P Q:=⟨Qb2 h.row hl,fun i hi=>by obtain⟨j,k⟩:=h.pt i hi;exact⟨Nat.le_trans hl j,k⟩⟩
theorem LC.cap {w:World}{lo g n cap:Nat}{l:List Lf}{P Q:Nat ->Nat}(h:LC w lo (.slice (some ⟨g,0,none⟩) n cap) l P Q):l.length<=cap/\ cap<=9223372036854775807:=by
 rcases h.row.2 with ⟨j,_⟩|⟨u,q,r,m,o,t,v,k,y,z⟩
 ·cases j
 ·injection m with e1 e2 e3;unfold maxLen at k;omega
theorem LC.rest{l:List Lf}{P Q:Nat ->Nat}(h:LC w lo v l P Q)(hlo:lo<=w.heap.size)(l':List Lf)(P' Q':Nat ->Nat)(g k m c off:Nat)(hk:k+m=l'.length)(hl:l.length+m<=1048576)(hoff:0<m ->off=k*5)(hC:∀j,j<l'.length*5 ->w.cell? ⟨g,j,none⟩=some (lCp l' P' Q' j))(hp:∀i,i<l'.length ->lo<=P' i/\ P' i<w.heap.size/\ some (P' i)≠v.ownBlock/\ Wr w (P' i) 9 (gL l' i).p.length (fun t=> .string (gS (gL l' i).p t))/\ (gL l' i).p.length<=Q' i/\ Q' i<=9223372036854775807)(hv:v≠.slice none 0 0):
  ∃y o M,(Builtin.append_ #[35,35] 35 #[v,.slice (some ⟨g,off,none⟩) m c]).run Tryz.prog w=.ok (.slice (some ⟨y,0,none⟩) (l.length+m) o) M/\
   LC M lo (.slice (some ⟨y,0,none⟩) (l.length+m) o) (l++l'.drop k) (fun i=>if i<l.length then P i else P' (k+(i - l.length))) (fun i=>if i<l.length then Q i else Q' (k+(i - l.length)))/\ Gr w M v (.slice (some ⟨y,0,none⟩) (l.length+m) o):=by
 obtain⟨i0,hi,S,T,W⟩:=info_parts QbY;have R:∀j,(lCp l' P' Q' j).oneCell'=true:=fun j=>by unfold lCp;split;rfl;split;rfl;split;rfl;split;rfl;rfl
 obtain⟨v',M,N,Z,V,B,A⟩:=run_append_own_at (P:=Tryz.prog) w lo 35 35 106 i0 _ 5 64 Tryz.underlying35 hi S T W rfl (by decide) v l.length _ h.row ⟨g,off,none⟩ m c ((List.range (m*5)).map fun j=>lCp l' P' Q' (k*5+j)) (by simp) (fun j u s=>by
  simp only [List.getElem?_map,Option.map_eq_some_iff] at s;obtain⟨q,E,rfl⟩:=s;have F:j<m*5:=by
   rcases Nat.lt_or_ge j (m*5) with h|h
   ·exact h
   ·rw [List.getElem?_eq_none (by simpa using h)] at E;cases E
  rw [List.getElem?_range F] at E;have E:=Option.some.inj E;rw [<- E,Qbf,hoff (by omega)];exact hC _ (by omega)) (fun u hu=>by
  obtain⟨j,s,rfl⟩:=List.mem_map.1 hu;exact R _) (by unfold maxLen;omega) (by omega) hlo
 rcases Z.2 with ⟨G,h0⟩|⟨y,o,Ha,G,r⟩
 ·exact absurd (B.1 G).1 hv
 rw [G] at N Z A;have L:some y=v.ownBlock \/y=w.heap.size:=by
  rcases A with A|A
  ·exact .inl (by simpa [Value.ownBlock] using A)
  ·exact .inr (by simpa [Value.ownBlock] using A)
 have Hb:=V.size;have C:Gr w M v (.slice (some ⟨y,0,none⟩) (l.length+m) o):=by
  refine⟨V,?_⟩;rcases L with e|e
  ·exact .inl e
  ·exact .inr ⟨y,rfl,by omega⟩
 have J:(l++l'.drop k).length=l.length+m:=by simp;omega
 have K:∀b,some b≠v.ownBlock ->b<w.heap.size ->some b≠(Value.slice (some ⟨y,0,none⟩) (l.length+m) o).ownBlock:=fun b hb1 hb2 e=>by
  have e:b=y:=by simpa [Value.ownBlock] using e
  rcases L with z|z
  ·exact hb1 (by rw [e];exact z)
  ·omega
 have H:∀i,i<l.length ->gL (l++l'.drop k) i=gL l i:=fun i hi=>by simp [gL,List.getD,List.getElem?_append_left hi]
 have I:∀i,l.length<=i ->gL (l++l'.drop k) i=gL l' (k+(i - l.length)):=fun i hi=>by simp [gL,List.getD,List.getElem?_append_right hi]
 refine⟨y,o,M,N,⟨?_,fun i hi=> ?_⟩,C⟩
 ·rw [J];have X:(List.range ((l.length+m)*5)).map (lCp (l++l'.drop k) (fun i=>if i<l.length then P i else P' (k+(i - l.length))) (fun i=>if i<l.length then Q i else Q' (k+(i - l.length))))=(List.range (l.length*5)).map (lCp l P Q)++(List.range (m*5)).map fun j=>lCp l' P' Q' (k*5+j):=by
   rw [Nat.add_mul,List.range_add,List.map_append,List.map_map];congr 1
   ·refine List.map_congr_left fun j s=> ?_;have D:j<l.length*5:=by simpa using s
    unfold lCp;rw [H (j/5) (by omega)];dsimp only;rw [if_pos (show j/5<l.length by omega),if_pos (show j/5<l.length by omega)]
   ·refine List.map_congr_left fun j s=> ?_;have D:j<m*5:=by simpa using s
    simp only [Function.comp];unfold lCp;rw [I ((l.length*5+j)/5) (by omega)];dsimp only;rw [if_neg (show¬(l.length*5+j)/5<l.length by omega),if_neg (show¬(l.length*5+j)/5<l.length by omega),show k+((l.length*5+j)/5 - l.length)=(k*5+j)/5 by omega,show (l.length*5+j)%5=(k*5+j)%5 by omega]
  rw [X];exact Z
 ·by_cases e:i<l.length
  ·simp only [if_pos e];rw [H i e];obtain⟨Y,z,O,U⟩:=h.pt i e;exact⟨Y,by omega,K _ O z,U.1.same (V.block _ z O),U.2⟩
  ·simp only [if_neg e];rw [I i (by omega)];obtain⟨Y,z,O,U⟩:=hp (k+(i - l.length)) (by rw [J] at hi;omega);exact⟨Y,by omega,K _ O z,U.1.same (V.block _ z O),U.2⟩
theorem Qbk {q:Nat}(h:(Value.slice (some ⟨q,0,none⟩) n c).ownBlock=some k):q=k:=by simpa [Value.ownBlock] using h
theorem Qfu (g cap:Nat)(l:List Lf)(P Q:Nat ->Nat)(w:World)(lo pb pc:Nat)(yp:List ByteArray)(yf:Bool)(yr yq:Int)(yv:ByteArray)(h:LC w lo (.slice (some ⟨g,0,none⟩) l.length cap) l P Q)(hlo:lo<=w.heap.size)(hl:l.length<=100000)(hpl:∀i,i<l.length ->(gL l i).p.length<=1048576)(hyl:yp.length<=1048576)(hy1:lo<=pb/\ pb<w.heap.size)(hyw:Wr w pb 9 yp.length (fun t=> .string (gS yp t)))(hpc:yp.length<=pc/\ pc<=9223372036854775807):
  Cl 70 #[.slice (some ⟨g,0,none⟩) l.length cap,.agg #[.slice (some ⟨pb,0,none⟩) yp.length pc,.bool yf,.int .i64 yr,.int .i64 yq,.string yv]] w fun e w'=>(∃g' cap' s A,e=.returned (.slice (some ⟨g',0,none⟩) (l.length+1) cap')/\ w.heap.size<=g'/\ LC w' lo (.slice (some ⟨g',0,none⟩) (l.length+1) cap') (Qcq ⟨yp,yf,yr,yq,yv⟩ l) s A)/\ Bl w w':=by
 obtain⟨W,hW⟩:=zE ((w.alloc (.cells #[.slice (some ⟨pb,0,none⟩) yp.length pc,.bool yf,.int .i64 yr,.int .i64 yq,.string yv] 106)).alloc (.cells #[] 106));have b0:Bl w W:=by rw [<- hW];exact Qae _ _ _
 have X0:Bx5 W w.heap.size (.slice (some ⟨pb,0,none⟩) yp.length pc) (.bool yf) (.int .i64 yr) (.int .i64 yq) (.string yv):=by rw [<- hW];exact(Bx5.new _ _ _ _ _ _ _).up _
 have zW:W.heap.size=w.heap.size+2:=by rw [<- hW];simp
 have Ht:LC W w.heap.size (.slice (some ⟨w.heap.size+1,0,none⟩) 0 0) [] P Q:=by
  refine⟨?_,fun i hi=>by simp at hi⟩;have:=World.ownsRow_lit (base:=w.heap.size) (e:=106) (size:=5) (w.alloc (.cells #[.slice (some ⟨pb,0,none⟩) yp.length pc,.bool yf,.int .i64 yr,.int .i64 yq,.string yv] 106)) #[] 0 (by simp) (by unfold maxLen;omega) rfl;rw [hW] at this;simpa using this
 have hg:=(h.lt g rfl).2;have HH:=hid h;have HX:=hid X0;have Hs:=hid hyw;have HY:=hid (And.intro hy1 hpc);have H4:=hid hpl;have Hj:=hid hlo;have Hn:=hid Ht;have H7:=h.cap;have Hr:Hid (∀i,i<l.length ->lo<=P i/\ P i<w.heap.size):=hid (fun i hi=>⟨(h.pt i hi).1,(h.pt i hi).2.1⟩);have H0:=hid hg;have H5:=hid zW;have Hy:=hid b0;clear h b0 X0 zW Ht hg hy1 hyw hpc hpl hlo;have H1:Hid (∀wr q k b,Gr W wr (.slice (some ⟨w.heap.size+1,0,none⟩) 0 0) (.slice (some ⟨q,0,none⟩) k b) ->Bl w wr/\ Bx5 wr w.heap.size (.slice (some ⟨pb,0,none⟩) yp.length pc) (.bool yf) (.int .i64 yr) (.int .i64 yq) (.string yv)/\ w.heap.size<q):=hid (fun wr q k b hG=>by
  have hz:=H5.out;have hs:=hG.g.size;have e:=hG.g.block w.heap.size (by omega) (fun e=>by have:=Qbk e.symm;omega);refine⟨Hy.trans (hG.bw (by omega) (fun k X=>by have:=Qbk X;omega)),?_,?_⟩
  ·have q:=fun o=>World.cell?_of_block (w:=W) (w':=wr) (a:=⟨w.heap.size,o,none⟩) e;exact⟨(q 0).trans HX.c0,(q 1).trans HX.c1,(q 2).trans HX.c2,(q 3).trans HX.c3,(q 4).trans HX.c4,fun i=>(World.frozen?_of_block (a:=⟨w.heap.size,i,none⟩) e).trans (HX.f i),by have:=HX.lt;omega⟩
  ·rcases hG.l with E|⟨j,E,h2⟩
   ·have:=Qbk (k:=w.heap.size+1) E;omega
   ·have:=Qbk E;omega)
 have Hp:Hid (∀w1 k q b,k<=l.length ->LC w1 lo (.slice (some ⟨q,0,none⟩) k b) (l.take k) P Q ->Bl w w1 ->w.heap.size<q ->∃z y M,(Builtin.append_ #[35,35] 35 #[.slice (some ⟨q,0,none⟩) k b,.slice (some ⟨w1.heap.size,0,none⟩) 1 1]).run Tryz.prog (w1.alloc (.cells #[.slice (some ⟨pb,0,none⟩) yp.length pc,.bool yf,.int .i64 yr,.int .i64 yq,.string yv] 106))=.ok (.slice (some ⟨z,0,none⟩) (k+1) y) M/\ Bl w M/\ w.heap.size<=z/\
   ∀off c',(k<l.length ->off=k*5) ->∃u G w4 s A,(Builtin.append_ #[35,35] 35 #[.slice (some ⟨z,0,none⟩) (k+1) y,.slice (some ⟨g,off,none⟩) (l.length - k) c']).run Tryz.prog M=.ok (.slice (some ⟨u,0,none⟩) (l.length+1) G) w4/\ Bl w w4/\ w.heap.size<=u/\ LC w4 lo (.slice (some ⟨u,0,none⟩) (l.length+1) G) (l.take k++(⟨yp,yf,yr,yq,yv⟩:Lf)::l.drop k) s A):=hid (fun w1 k q b X hLC O hq=>by
  have He:(l.take k).length=k:=by simp;omega
  have hY:=HY.out;have H6:=O.size;obtain⟨z,y,M,e1,e2,e3⟩:=hLC.app zI (by have:=Hj.out;omega) (by rw [He];omega) ⟨yp,yf,yr,yq,yv⟩ pb pc hY.1.1 (by omega) (fun e=>by have:=Qbk e.symm;omega) (Hs.same (O.block pb hY.1.2)) hY.2;rw [He] at e1 e2 e3;have J:Bl w M:=O.trans (e3.bw H6 (fun k X=>by have:=Qbk X;omega));have Hh:w.heap.size<=z:=by
   rcases e3.l with E|⟨j,E,h2⟩
   ·have:=Qbk (k:=q) E;omega
   ·have:=Qbk E;omega
  refine⟨z,y,M,e1,J,Hh,fun off c' hoff=> ?_⟩;have Hu:=HH.bw J;have Ga:=QbR Hu.row;have Hx:(l.take k++[(⟨yp,yf,yr,yq,yv⟩:Lf)]).length=k+1:=by simp;omega
  obtain⟨u,G,w4,f1,f2,f3⟩:=e2.rest (by have:=J.size;have:=Hj.out;omega) l P Q g k (l.length - k) c' off (by omega) (by rw [Hx];omega) (fun hm=>hoff (by omega)) (fun j hj=>Ga.cell hj) (fun i hi=>by
   obtain⟨x1,x2,x3,x4⟩:=Hu.pt i hi;have:=Hr i hi;exact⟨x1,x2,fun e=>by have:=Qbk e.symm;omega,x4⟩) (by simp)
  rw [Hx,show k+1+(l.length - k)=l.length+1 by omega] at f1 f2 f3;have C:w.heap.size<=u:=by
   rcases f3.l with E|⟨j,E,h2⟩
   ·have:=Qbk (k:=z) E;omega
   ·have:=Qbk E;have:=J.size;omega
  rw [List.append_assoc,List.singleton_append] at f2;exact⟨u,G,w4,_,_,f1,J.trans (f3.bw J.size (fun k X=>by have:=Qbk X;omega)),C,f2⟩)
 go_enter Tryz.func70,Tryz.ntmps70;go_wp2_with fail;try rw [hW]
 clear hW;go_loopw [5,6] (fun b' i wr=>∃(k q b:Nat),k<=l.length/\ i=.int .i64 k/\ b'=.slice (some ⟨q,0,none⟩) k b/\ Hid (∀j,j<k ->QaM (gL l j) ⟨yp,yf,yr,yq,yv⟩<0)/\ Hid (LC wr lo (.slice (some ⟨q,0,none⟩) k b) (l.take k) P Q)/\ Hid (Gr W wr (.slice (some ⟨w.heap.size+1,0,none⟩) 0 0) (.slice (some ⟨q,0,none⟩) k b))) (fun _ i _=>l.length - (intOf i).toNat);case atStart=>exact⟨0,_,0,Nat.zero_le _,rfl,rfl,hid (fun j hj=>by omega),hid (by simpa using Hn.low Hj),hid (Gr.refl _ _)⟩
 case round=>
  obtain⟨k,q,b,X,rfl,rfl,HJ,HL,HG⟩:=hrel;have H9:=HL.cap;have He:(l.take k).length=k:=by simp;omega
  rw [He] at H9;have i1:(0:Int)<=(k:Int):=Int.natCast_nonneg _;obtain⟨bR,xR,hq⟩:=H1 wr q k b HG;have D:=hid bR;have Hk:=hid xR;have HQ:=hid hq;have Hq:=hid He;clear bR xR hq He;by_cases Hb:k<l.length
  ·have i2:(k:Int)<(l.length:Int):=by omega
   have Hm:=HH.bw D;obtain⟨c0,c1,c2,y,G⟩:=Hm.cell rfl Hb;obtain⟨p1,p2,p3,p4,p5⟩:=Hm.pt k Hb;have Hg:=hid (fun w1 (m:Bl wr w1)=>QgQ (some ⟨P k,0,none⟩) (some ⟨pb,0,none⟩) (Q k) pc (gL l k).p yp (gL l k).fl yf (gL l k).r (gL l k).q yr yq (gL l k).v yv w1 (H4 k Hb) hyl p5.1 HY.2.1 p5.2 HY.2.2 ((Hm.seg Hb).bw m) (.inr ⟨pb,0,rfl,by have E:=HY.1.2;have h2:=D.size;have h3:=m.size;omega,fun t ht=>by rw [Nat.zero_add];exact((Hs.same (D.block pb HY.1.2)).same (m.block pb (by have E:=HY.1.2;have h2:=D.size;omega))).cell ht⟩));have Hf:Hid (∀w1,Bl wr w1 ->∃z y M,(Builtin.append_ #[35,35] 35 #[.slice (some ⟨q,0,none⟩) k b,.slice (some ⟨w1.heap.size,0,none⟩) 1 1]).run Tryz.prog (w1.alloc (.cells #[.slice (some ⟨P k,0,none⟩) (gL l k).p.length (Q k),.bool (gL l k).fl,.int .i64 (gL l k).r,.int .i64 (gL l k).q,.string (gL l k).v] 106))=.ok (.slice (some ⟨z,0,none⟩) (k+1) y) M/\ LC M lo (.slice (some ⟨z,0,none⟩) (k+1) y) (l.take (k+1)) P Q/\ Gr w1 M (.slice (some ⟨q,0,none⟩) k b) (.slice (some ⟨z,0,none⟩) (k+1) y)):=hid (fun w1 m=>by
    obtain⟨z,y,M,e1,e2,e3⟩:=HL.app m (by have:=Hj.out;have:=D.size;omega) (by rw [Hq.out];omega) (gL l k) (P k) (Q k) p1 (by have:=m.size;omega) (fun e=>by have:=Qbk e.symm;have E:=(Hr k Hb).2;have h2:=HQ.out;omega) (p4.same (m.block _ p2)) p5;rw [Hq.out] at e1 e2 e3;refine⟨z,y,M,e1,?_,e3⟩;have et:l.take (k+1)=l.take k++[gL l k]:=by rw [List.take_add_one];simp [gL,List.getD,Hb]
    rw [et];exact e2.cast fun i hi=>by
     by_cases e:i=k
     ·rw [if_pos e,if_pos e,e];exact⟨rfl,rfl⟩
     ·rw [if_neg e,if_neg e];exact⟨rfl,rfl⟩)
   have Hc:Hid (yes (QaM (gL l k) ⟨yp,yf,yr,yq,yv⟩<0)=true ->∀j,j<k+1 ->QaM (gL l j) ⟨yp,yf,yr,yq,yv⟩<0):=hid (fun O j hj=>by
    by_cases e:j=k
    ·rw [e];exact Classical.byContradiction fun hn=>by rw [Qaf hn] at O;cases O
    ·exact HJ j (by omega))
   have Hd:Hid (yes (QaM (gL l k) ⟨yp,yf,yr,yq,yv⟩<0)=false ->Qcq ⟨yp,yf,yr,yq,yv⟩ l=l.take k++(⟨yp,yf,yr,yq,yv⟩:Lf)::l.drop k):=hid (fun O=>QfZ X HJ (fun _ hn=>by rw [Qah hn] at O;cases O));have F:Hid (∀w',Bl wr w' ->(w'.cell? ⟨g,k*5,none⟩=some (.slice (some ⟨P k,0,none⟩) (gL l k).p.length (Q k))/\ w'.cell? ⟨g,k*5+1,none⟩=some (.bool (gL l k).fl)/\ w'.cell? ⟨g,k*5+2,none⟩=some (.int .i64 (gL l k).r)/\ w'.cell? ⟨g,k*5+3,none⟩=some (.int .i64 (gL l k).q)/\ w'.cell? ⟨g,k*5+4,none⟩=some (.string (gL l k).v)/\ w'.cell? ⟨w.heap.size,0,none⟩=some (.slice (some ⟨pb,0,none⟩) yp.length pc)/\ w'.cell? ⟨w.heap.size,1,none⟩=some (.bool yf)/\ w'.cell? ⟨w.heap.size,2,none⟩=some (.int .i64 yr)/\ w'.cell? ⟨w.heap.size,3,none⟩=some (.int .i64 yq)/\ w'.cell? ⟨w.heap.size,4,none⟩=some (.string yv))):=hid (fun w' m=>by
    have H8:g<wr.heap.size:=by have E:=H0.out;have h2:=D.size;omega
    have q:=fun o=>m.cell (p:=⟨g,o,none⟩) H8;have Z:=Hk.bw m Hk.lt;exact⟨(q _).trans c0,(q _).trans c1,(q _).trans c2,(q _).trans y,(q _).trans G,Z.c0,Z.c1,Z.c2,Z.c3,Z.c4⟩)
   obtain⟨x,hx⟩:=zE (gL l k);obtain⟨Pk,Hv⟩:=zE (P k);obtain⟨Qk,Hw⟩:=zE (Q k);rw [hx,Hv,Hw] at Hg Hf F;rw [hx] at Hc Hd;obtain⟨xp,xf,xr,xq,xv⟩:=x;dsimp only at Hg Hf F Hc Hd;obtain⟨B,O⟩:=zE (yes (QaM (⟨xp,xf,xr,xq,xv⟩:Lf) ⟨yp,yf,yr,yq,yv⟩<0));rw [O] at Hg Hc Hd;clear hx Hv Hw O Hm c0 c1 c2 y G p1 p2 p3 p4 p5;go_wp2_with fail;refine zR (S:=fun w'=>w'.cell? ⟨g,k*5,none⟩=some (.slice (some ⟨Pk,0,none⟩) xp.length Qk)/\ w'.cell? ⟨g,k*5+1,none⟩=some (.bool xf)/\ w'.cell? ⟨g,k*5+2,none⟩=some (.int .i64 xr)/\ w'.cell? ⟨g,k*5+3,none⟩=some (.int .i64 xq)/\ w'.cell? ⟨g,k*5+4,none⟩=some (.string xv)/\ w'.cell? ⟨w.heap.size,0,none⟩=some (.slice (some ⟨pb,0,none⟩) yp.length pc)/\ w'.cell? ⟨w.heap.size,1,none⟩=some (.bool yf)/\ w'.cell? ⟨w.heap.size,2,none⟩=some (.int .i64 yr)/\ w'.cell? ⟨w.heap.size,3,none⟩=some (.int .i64 yq)/\ w'.cell? ⟨w.heap.size,4,none⟩=some (.string yv)) (F _ zI.drew) (fun qh=> ?_);refine tZ 0 9 ?_;refine tZ 1 10 ?_;refine tZ 2 11 ?_;refine tZ 3 12 ?_;refine tZ 4 13 ?_;refine tZ 5 14 ?_;refine tZ 6 15 ?_;refine tZ 7 16 ?_;refine tZ 8 17 ?_;refine tZ 9 18 ?_;refine cZ 10 ?_;intro K hK;go_simp;refine(Hg _ zI.drew).mono ?_;rintro e w1 ⟨rfl,m⟩;have Hl:Bl wr w1:=⟨m.os,m.tape,m.output,m.size,m.block⟩;refine hK.out _ _ (F _ Hl) (fun qh=> ?_);clear hK K;try simp only [zP]
   refine tZ 11 20 ?_;refine zD ?_;have Hi:=hid Hl;obtain⟨c0,c1,c2,y,G,y0,y1,y2,y3,y4⟩:=F _ Hl;clear qh m Hl F Hg;cases B with
   | true=>
    obtain⟨z,Ho,M,L,l3,g3⟩:=Hf w1 Hi;have H3:=hid l3;have Hz:=hid ((HG.trans (Gr.of_below Hi)).trans g3);have H2:=hid (Hc rfl);clear l3 g3 Hf Hc Hd HJ HL HG;go_wp2_with (at_builtin;refine Qab rfl _ _ _ _ rfl L (by rfl) (by rfl) rfl ?_;clear L);go_roundw;case rel=>exact⟨k+1,z,Ho,Hb,by go_num,rfl,H2,H3,Hz⟩
    case measure=>simp [intOf];omega
   | false=>
    have I:=hid (Hd rfl);obtain⟨z,Ho,M,L,J,Hh,Ha⟩:=Hp w1 k q b X (HL.bw Hi) (D.trans (Hi.mono D.size)) HQ;obtain⟨u,H,w4,s,A,N,R,C,T⟩:=Ha (k*5) (cap - k) (fun _=>rfl);have U:=hid R;have V:=hid T;have Y:=hid C;clear J Hh Ha R T C Hf Hc Hd HJ HL HG;have i3:k<=cap:=by omega
    go_wp2_with (first|(at_builtin;refine Qab rfl _ _ _ _ rfl L (by rfl) (by rfl) rfl ?_;clear L)|(at_builtin;refine Qab rfl _ _ _ _ rfl N (by rfl) (by rfl) rfl ?_;clear N));go_ret;first|exact⟨⟨u,H,rfl,Y,s,A,by rw [I.out];exact V⟩,U⟩|exact⟨⟨u,H,s,A,rfl,Y,by rw [I.out];exact V⟩,U⟩|exact⟨⟨u,H,rfl,s,A,Y,by rw [I.out];exact V⟩,U⟩
  ·obtain rfl:k=l.length:=by omega
   have I:Hid (Qcq ⟨yp,yf,yr,yq,yv⟩ l=l.take l.length++(⟨yp,yf,yr,yq,yv⟩:Lf)::l.drop l.length):=hid (QfZ zL HJ (fun h=>by omega));have F:Hid (∀w',Bl wr w' ->(w'.cell? ⟨w.heap.size,0,none⟩=some (.slice (some ⟨pb,0,none⟩) yp.length pc)/\ w'.cell? ⟨w.heap.size,1,none⟩=some (.bool yf)/\ w'.cell? ⟨w.heap.size,2,none⟩=some (.int .i64 yr)/\ w'.cell? ⟨w.heap.size,3,none⟩=some (.int .i64 yq)/\ w'.cell? ⟨w.heap.size,4,none⟩=some (.string yv))):=hid (fun w' m=>by
    have Z:=Hk.bw m Hk.lt;exact⟨Z.c0,Z.c1,Z.c2,Z.c3,Z.c4⟩)
   go_wp2_with fail;refine zR (S:=fun w'=>True) trivial (fun qh=> ?_);refine tZ 0 9 ?_;refine tZ 1 10 ?_;refine tZ 2 11 ?_;refine tZ 3 12 ?_;refine tZ 4 13 ?_;refine uZ 5 14 ?_;refine uZ 6 15 ?_;refine uZ 7 16 ?_;refine uZ 8 17 ?_;refine uZ 9 18 ?_;refine uZ 10 19 ?_;refine tZ 11 20 ?_;refine zD ?_;obtain⟨y0,y1,y2,y3,y4⟩:=F _ zI.drew;obtain⟨z,Ho,M,L,J,Hh,Ha⟩:=Hp wr.drew l.length q b X (HL.bw zI.drew) D.drew HQ;clear J Hh HJ HL HG qh F;by_cases Gb:l.length<cap
   ·obtain⟨u,H,w4,s,A,N,R,C,T⟩:=Ha (l.length*5) (cap - l.length) (fun _=>rfl);rw [Nat.sub_self] at N;have U:=hid R;have V:=hid T;have Y:=hid C;clear Ha R T C;go_wp2_with (first|(at_builtin;refine Qab rfl _ _ _ _ rfl L (by rfl) (by rfl) rfl ?_;clear L)|(at_builtin;refine Qab rfl _ _ _ _ rfl N (by rfl) (by rfl) rfl ?_;clear N));go_ret;first|exact⟨⟨u,H,rfl,Y,s,A,by rw [I.out];exact V⟩,U⟩|exact⟨⟨u,H,s,A,rfl,Y,by rw [I.out];exact V⟩,U⟩|exact⟨⟨u,H,rfl,s,A,Y,by rw [I.out];exact V⟩,U⟩
   ·obtain⟨u,H,w4,s,A,N,R,C,T⟩:=Ha 0 0 (fun h=>by omega);rw [Nat.sub_self] at N;obtain rfl:cap=l.length:=by omega
    have U:=hid R;have V:=hid T;have Y:=hid C;clear Ha R T C;go_wp2_with (first|(at_builtin;refine Qab rfl _ _ _ _ rfl L (by rfl) (by rfl) rfl ?_;clear L)|(at_builtin;refine Qab rfl _ _ _ _ rfl N (by rfl) (by rfl) rfl ?_;clear N));go_ret;first|exact⟨⟨u,H,rfl,Y,s,A,by rw [I.out];exact V⟩,U⟩|exact⟨⟨u,H,s,A,rfl,Y,by rw [I.out];exact V⟩,U⟩|exact⟨⟨u,H,rfl,s,A,Y,by rw [I.out];exact V⟩,U⟩
open Go.Maps Go.Sort
abbrev Rn:=Int×Int×Int
def Apt (p q:Rn):Prop:=p.1<q.1 \/(p.1=q.1/\ p.2.2+1<q.2.1)
instance (p q:Rn):Decidable (Apt p q):=by unfold Apt;infer_instance
def Rok (p:Rn):Prop:=0<=p.1/\ p.1<8/\ 1<=p.2.1/\ p.2.1<=p.2.2/\ p.2.2<=1000000000
def Qcz (l:List Rn):Prop:=l.Pairwise Apt/\∀p∈l,Rok p
def InR (p:Rn)(r x:Int):Prop:=p.1=r/\ p.2.1<=x/\ x<=p.2.2
def RI (l:List Rn)(r x:Int):Prop:=∃p∈l,InR p r x
theorem Apt.trans {p q s:Rn}(h1:Apt p q)(hq:Rok q)(h2:Apt q s):Apt p s:=by
 unfold Apt Rok at*;omega
theorem Qep {p:Rn}{l:List Rn}:RI (p::l) r x↔InR p r x \/RI l r x:=by simp [RI]
theorem Qbe {l l':List Rn}:RI (l++l') r x↔RI l r x \/RI l' r x:=by
 constructor
 ·rintro⟨p,j,h⟩;rcases List.mem_append.1 j with j|j
  ·exact .inl ⟨p,j,h⟩
  ·exact .inr ⟨p,j,h⟩
 ·rintro(⟨p,j,h⟩|⟨p,j,h⟩)
  ·exact⟨p,List.mem_append.2 (.inl j),h⟩
  ·exact⟨p,List.mem_append.2 (.inr j),h⟩
theorem Qg9 {p:Rn}:RI [p] r x↔InR p r x:=by simp [RI]
theorem QhG:¬RI [] r x:=by simp [RI]
theorem QgI {p q:Rn}{l:List Rn}(h:Qcz (p::l))(j:q∈p::l):p.1<q.1 \/(p.1=q.1/\ p.2.1<=q.2.1):=by
 rcases List.mem_cons.1 j with rfl|j
 ·exact .inr ⟨rfl,Int.le_refl _⟩
 ·have k:=(List.pairwise_cons.1 h.1).1 q j;have m:=h.2 p (List.mem_cons_self);unfold Apt Rok at*;omega
theorem Qjd {p p':Rn}{t t':List Rn}(h:Qcz (p::t))(h':Qcz (p'::t'))(he:∀r x,RI (p::t) r x ->RI (p'::t') r x)(hf:p.1=p'.1/\ p.2.1=p'.2.1):p.2.2<=p'.2.2:=by
 have g:=h.2 p List.mem_cons_self;have o:=h'.2 p' List.mem_cons_self;rcases Int.lt_or_le p'.2.2 p.2.2 with z|m
 ·exfalso;have k:RI (p::t) p.1 (p'.2.2+1):=⟨p,List.mem_cons_self,rfl,by unfold Rok at*;omega,by omega⟩;obtain⟨q,j,u,v,y⟩:=he _ _ k;rcases List.mem_cons.1 j with rfl|j
  ·omega
  ·have:=(List.pairwise_cons.1 h'.1).1 q j;unfold Apt at this;omega
 ·exact m
theorem uniq:∀{l l':List Rn},Qcz l ->Qcz l' ->(∀r x,RI l r x↔RI l' r x) ->l=l'
 | [],[],_,_,_=>rfl
 | [],p'::t',_,h',he=>by
  have y:=h'.2 p' List.mem_cons_self;exact absurd ((he p'.1 p'.2.1).2 ⟨p',List.mem_cons_self,rfl,Int.le_refl _,y.2.2.2.1⟩) QhG
 | p::t,[],h,_,he=>by
  have v:=h.2 p List.mem_cons_self;exact absurd ((he p.1 p.2.1).1 ⟨p,List.mem_cons_self,rfl,Int.le_refl _,v.2.2.2.1⟩) QhG
 | p::t,p'::t',h,h',he=>by
  have v:=h.2 p List.mem_cons_self;have y:=h'.2 p' List.mem_cons_self;have m:p.1=p'.1/\ p.2.1=p'.2.1:=by
   obtain⟨q,j,Q,V,Z⟩:=(he p.1 p.2.1).1 ⟨p,List.mem_cons_self,rfl,Int.le_refl _,v.2.2.2.1⟩;obtain⟨X,A,U,Y,G⟩:=(he p'.1 p'.2.1).2 ⟨p',List.mem_cons_self,rfl,Int.le_refl _,y.2.2.2.1⟩;have a:=QgI h' j;have b:=QgI h A;omega
  have g:=Qjd h h' (fun r x=>(he r x).1) m;have o:=Qjd h' h (fun r x=>(he r x).2) ⟨m.1.symm,m.2.symm⟩;have i:p=p':=by
   obtain⟨a,b,c⟩:=p;obtain⟨O,b',c'⟩:=p';simp at m g o;obtain⟨rfl,rfl⟩:=m;have:c=c':=by omega
   rw [this]
  subst i;have z:∀{s:List Rn},Qcz (p::s) ->∀{r x},RI s r x ->¬InR p r x:=by
   rintro s E r x ⟨q,j,H,I,J⟩ ⟨K,L,N⟩;have:=(List.pairwise_cons.1 E.1).1 q j;unfold Apt at this;omega
  have M:t=t':=by
   refine uniq ⟨(List.pairwise_cons.1 h.1).2,fun q j=>h.2 q (List.mem_cons_of_mem _ j)⟩ ⟨(List.pairwise_cons.1 h'.1).2,fun q j=>h'.2 q (List.mem_cons_of_mem _ j)⟩ (fun r x=> ?_);have e:=he r x;rw [Qep,Qep] at e;constructor
   ·intro u;rcases e.1 (.inr u) with k|k
    ·exact absurd k (z h u)
    ·exact k
   ·intro u;rcases e.2 (.inr u) with k|k
    ·exact absurd k (z h' u)
    ·exact k
  rw [M]
def QaE (s:List Rn×Rn×List Rn)(q:Rn):List Rn×Rn×List Rn:=
 if Apt q s.2.1 then(s.1++[q],s.2.1,s.2.2) else if Apt s.2.1 q then(s.1,s.2.1,s.2.2++[q]) else(s.1,(s.2.1.1,min q.2.1 s.2.1.2.1,max q.2.2 s.2.1.2.2),s.2.2)
def Qga (l:List Rn)(r:Rn):List Rn×Rn×List Rn:=l.foldl QaE ([],r,[])
def ins (l:List Rn)(r:Rn):List Rn:=(Qga l r).1++[(Qga l r).2.1]++(Qga l r).2.2
structure Inv (s:List Rn×Rn×List Rn)(t:List Rn):Prop where
 b:Qcz s.1
 a:Qcz s.2.2
 r:Rok s.2.1
 br:∀p∈s.1,Apt p s.2.1
 ra:∀p∈s.2.2,Apt s.2.1 p
 bt:∀p∈s.1,∀q∈t,Apt p q
 at':∀p∈s.2.2,∀q∈t,Apt p q
 t:Qcz t
def RS (s:List Rn×Rn×List Rn)(r x:Int):Prop:=RI s.1 r x \/InR s.2.1 r x \/RI s.2.2 r x
theorem Qcz.snoc {l:List Rn}{q:Rn}(h:Qcz l)(hq:Rok q)(ha:∀p∈l,Apt p q):Qcz (l++[q]):=
 ⟨List.pairwise_append.2 ⟨h.1,List.pairwise_singleton _ _,fun p j q' hq'=>by rw [List.mem_singleton] at hq';subst hq';exact ha p j⟩,fun p j=>by
  rcases List.mem_append.1 j with j|j
  ·exact h.2 p j
  ·rw [List.mem_singleton] at j;subst j;exact hq⟩
theorem Inv.step {s:List Rn×Rn×List Rn}{q:Rn}{t:List Rn}(h:Inv s (q::t)):Inv (QaE s q) t/\∀r x,RS (QaE s q) r x↔(RS s r x \/InR q r x):=by
 have v:=h.t.2 q List.mem_cons_self;have y:=(List.pairwise_cons.1 h.t.1).1;have u:Qcz t:=⟨(List.pairwise_cons.1 h.t.1).2,fun p j=>h.t.2 p (List.mem_cons_of_mem _ j)⟩;have m:=fun p j q' (hq':q'∈t)=>h.bt p j q' (List.mem_cons_of_mem _ hq');have k:=fun p j q' (hq':q'∈t)=>h.at' p j q' (List.mem_cons_of_mem _ hq');unfold QaE;split
 ·rename_i hA;refine⟨⟨h.b.snoc v (fun p j=>h.bt p j q List.mem_cons_self),h.a,h.r,fun p j=> ?_,h.ra,fun p j=> ?_,k,u⟩,fun r x=> ?_⟩
  ·rcases List.mem_append.1 j with j|j
   ·exact h.br p j
   ·rw [List.mem_singleton] at j;subst j;exact hA
  ·rcases List.mem_append.1 j with j|j
   ·exact m p j
   ·rw [List.mem_singleton] at j;subst j;exact y
  ·simp only [RS,Qbe,Qg9];constructor
   ·rintro((a|a)|a|a)
    ·exact .inl (.inl a)
    ·exact .inr a
    ·exact .inl (.inr (.inl a))
    ·exact .inl (.inr (.inr a))
   ·rintro((a|a|a)|a)
    ·exact .inl (.inl a)
    ·exact .inr (.inl a)
    ·exact .inr (.inr a)
    ·exact .inl (.inr a)
 ·rename_i hA;split
  ·rename_i hB;refine⟨⟨h.b,h.a.snoc v (fun p j=>h.at' p j q List.mem_cons_self),h.r,h.br,fun p j=> ?_,m,fun p j=> ?_,u⟩,fun r x=> ?_⟩
   ·rcases List.mem_append.1 j with j|j
    ·exact h.ra p j
    ·rw [List.mem_singleton] at j;subst j;exact hB
   ·rcases List.mem_append.1 j with j|j
    ·exact k p j
    ·rw [List.mem_singleton] at j;subst j;exact y
   ·simp only [RS,Qbe,Qg9];constructor
    ·rintro(a|a|a|a)
     ·exact .inl (.inl a)
     ·exact .inl (.inr (.inl a))
     ·exact .inl (.inr (.inr a))
     ·exact .inr a
    ·rintro((a|a|a)|a)
     ·exact .inl a
     ·exact .inr (.inl a)
     ·exact .inr (.inr (.inl a))
     ·exact .inr (.inr (.inr a))
  ·rename_i hB;have i:=h.r;have nil:∀p∈s.2.2,False:=fun p j=>hB ((h.ra p j).trans (h.a.2 p j) (h.at' p j q List.mem_cons_self));refine⟨⟨h.b,h.a,?_,fun p j=> ?_,fun p j=>(nil p j).elim,m,k,u⟩,fun r x=> ?_⟩
   ·unfold Apt Rok at*;simp only;omega
   ·have g:=h.br p j;have o:=h.bt p j q List.mem_cons_self;unfold Apt at*;simp only;omega
   ·have z:InR (s.2.1.1,min q.2.1 s.2.1.2.1,max q.2.2 s.2.1.2.2) r x↔(InR s.2.1 r x \/InR q r x):=by
     unfold InR Apt Rok at*;simp only;omega
    simp only [RS,z];constructor
    ·rintro(a|(a|a)|a)
     ·exact .inl (.inl a)
     ·exact .inl (.inr (.inl a))
     ·exact .inr a
     ·exact .inl (.inr (.inr a))
    ·rintro((a|a|a)|a)
     ·exact .inl a
     ·exact .inr (.inl (.inl a))
     ·exact .inr (.inr a)
     ·exact .inr (.inl (.inr a))
theorem Inv.fold:∀(t:List Rn) (s:List Rn×Rn×List Rn),Inv s t ->Inv (t.foldl QaE s) []/\∀r x,RS (t.foldl QaE s) r x↔(RS s r x \/RI t r x)
 | [],s,h=>⟨h,fun r x=>by simp [RI]⟩
 | q::t,s,h=>by
  obtain⟨j,k⟩:=h.step;obtain⟨m,u⟩:=Inv.fold t _ j;refine⟨m,fun r x=> ?_⟩;rw [List.foldl_cons,u r x,k r x,Qep,or_assoc]
theorem QmE {l:List Rn}{r:Rn}(hl:Qcz l)(hr:Rok r):Qcz (ins l r)/\∀y x,RI (ins l r) y x↔(RI l y x \/InR r y x):=by
 have m:Inv ([],r,[]) l:=⟨⟨List.Pairwise.nil,(fun p j=>by cases j)⟩,⟨List.Pairwise.nil,(fun p j=>by cases j)⟩,hr,(fun p j=>by cases j),(fun p j=>by cases j),(fun p j=>by cases j),(fun p j=>by cases j),hl⟩;obtain⟨h,u⟩:=Inv.fold l _ m;change Inv (Qga l r) [] at h;refine⟨⟨?_,fun p j=> ?_⟩,fun y x=> ?_⟩
 ·unfold ins;rw [List.append_assoc];refine List.pairwise_append.2 ⟨h.b.1,List.pairwise_append.2 ⟨List.pairwise_singleton _ _,h.a.1,fun p j q k=> ?_⟩,fun p j q k=> ?_⟩
  ·rw [List.mem_singleton] at j;subst j;exact h.ra q k
  ·rcases List.mem_append.1 k with k|k
   ·rw [List.mem_singleton] at k;subst k;exact h.br p j
   ·exact(h.br p j).trans h.r (h.ra q k)
 ·unfold ins at j;rcases List.mem_append.1 j with j|j
  ·rcases List.mem_append.1 j with j|j
   ·exact h.b.2 p j
   ·rw [List.mem_singleton] at j;subst j;exact h.r
  ·exact h.a.2 p j
 ·have:=u y x;unfold ins;rw [Qbe,Qbe,Qg9];change RS (Qga l r) y x↔_ at this;unfold RS at this;rw [or_assoc,this];simp [RI];exact or_comm
def unF (l b:List Rn):List Rn:=b.foldl ins l
theorem Qdb:∀(b l:List Rn),Qcz l ->(∀p∈b,Rok p) ->Qcz (unF l b)/\∀y x,RI (unF l b) y x↔(RI l y x \/RI b y x)
 | [],l,h,_=>⟨h,fun y x=>by simp [unF,RI]⟩
 | q::b,l,h,hb=>by
  obtain⟨j,k⟩:=QmE h (hb q List.mem_cons_self);obtain⟨m,r⟩:=Qdb b (ins l q) j (fun p hp=>hb p (List.mem_cons_of_mem _ hp));refine⟨m,fun y x=> ?_⟩;show RI (unF (ins l q) b) y x↔_;rw [r,k,Qep,or_assoc]
def In (l:List (Int×Int))(x:Int):Prop:=∃p∈l,p.1<=x/\ x<=p.2
theorem Qc0 {l':List (Int×Int)}:In (l++l') x↔In l x \/In l' x:=by
 constructor
 ·rintro⟨p,j,h⟩;rcases List.mem_append.1 j with j|j
  ·exact .inl ⟨p,j,h⟩
  ·exact .inr ⟨p,j,h⟩
 ·rintro(⟨p,j,h⟩|⟨p,j,h⟩)
  ·exact⟨p,List.mem_append.2 (.inl j),h⟩
  ·exact⟨p,List.mem_append.2 (.inr j),h⟩
theorem Qg5:In [p] x↔p.1<=x/\ x<=p.2:=by simp [In]
theorem QkK:In (p::l) x↔(p.1<=x/\ x<=p.2) \/In l x:=by simp [In]
theorem Qkh:¬In [] x:=by simp [In]
def QdP (l:List (Int×Int))(p:Int×Int):List (Int×Int):=match l.getLast? with
 | none=>[p]
 | some q=>if q.2+1<p.1 then l++[p] else l.dropLast++[(q.1,max q.2 p.2)]
theorem Qde (p:Int×Int):QdP [] p=[p]:=rfl
theorem Qdd(h:q.2+1<p.1):QdP (l++[q]) p=l++[q]++[p]:=by
 simp [QdP,h]
theorem Qer(h:¬q.2+1<p.1):QdP (l++[q]) p=l++[(q.1,max q.2 p.2)]:=by
 simp [QdP,h]
def Sok (p:Int×Int):Prop:=1<=p.1/\ p.1<=p.2/\ p.2<=1000000000
theorem Srt.snoc(h:Srt l)(hp:Sok p)(ha:∀q∈l,q.2+1<p.1):Srt (l++[p]):=
 ⟨List.pairwise_append.2 ⟨h.1,List.pairwise_singleton _ _,fun q j p' hp'=>by rw [List.mem_singleton] at hp';subst hp';exact ha q j⟩,fun q j=>by
  rcases List.mem_append.1 j with j|j
  ·exact h.2 q j
  ·rw [List.mem_singleton] at j;subst j;exact hp⟩
theorem Srt.split(h:Srt (l++[q])):Srt l/\ Sok q/\∀p∈l,p.2+1<q.1:=by
 obtain⟨k,j⟩:=h;obtain⟨a,_,c⟩:=List.pairwise_append.1 k;exact⟨⟨a,fun p hp=>j p (List.mem_append.2 (.inl hp))⟩,j q (by simp),fun p hp=>c p hp q (by simp)⟩
theorem QhM(h:Srt l)(hp:Sok p)(hle:∀q∈l,q.1<=p.1):
  Srt (QdP l p)/\ (∀x,In (QdP l p) x↔(In l x \/(p.1<=x/\ x<=p.2)))/\ (∀q∈QdP l p,q.1<=p.1)/\ (QdP l p).length<=l.length+1:=by
 rcases List.eq_nil_or_concat l with rfl|⟨y,q,rfl⟩
 ·rw [Qde];exact⟨⟨List.pairwise_singleton _ _,fun q k=>by rw [List.mem_singleton] at k;subst k;exact hp⟩,fun x=>by simp [In],fun q k=>by rw [List.mem_singleton] at k;subst k;exact Int.le_refl _,by simp⟩
 ·simp only [List.concat_eq_append] at*;obtain⟨u,v,r⟩:=h.split;have k:=hle q (by simp);by_cases m:q.2+1<p.1
  ·rw [Qdd m];refine⟨h.snoc hp (fun p' j=> ?_),fun x=>by rw [Qc0,Qg5],fun p' j=> ?_,by simp⟩
   ·rcases List.mem_append.1 j with j|j
    ·have:=r p' j;unfold Sok at v;omega
    ·rw [List.mem_singleton] at j;subst j;exact m
   ·rcases List.mem_append.1 j with j|j
    ·exact hle p' j
    ·rw [List.mem_singleton] at j;subst j;exact Int.le_refl _
  ·rw [Qer m];refine⟨u.snoc ?_ r,fun x=> ?_,fun p' j=> ?_,by simp⟩
   ·unfold Sok at*;simp only;omega
   ·rw [Qc0,Qc0,Qg5,Qg5,or_assoc];have:(q.1<=x/\ x<=max q.2 p.2)↔((q.1<=x/\ x<=q.2) \/(p.1<=x/\ x<=p.2)):=by unfold Sok at*;omega
    simp only [this]
   ·rcases List.mem_append.1 j with j|j
    ·exact hle p' (List.mem_append.2 (.inl j))
    ·rw [List.mem_singleton] at j;subst j;exact k
structure Qfb (la lb m:List (Int×Int))(i j:Nat):Prop where
 s:Srt m
 le:∀q∈m,(∀p∈la.drop i,q.1<=p.1)/\ (∀p∈lb.drop j,q.1<=p.1)
 in':∀x,(In m x \/In (la.drop i) x \/In (lb.drop j) x)↔(In la x \/In lb x)
 len:m.length+(la.length - i)+(lb.length - j)<=la.length+lb.length
theorem Qfb.start (la lb:List (Int×Int)):Qfb la lb [] 0 0:=
 ⟨⟨List.Pairwise.nil,fun p hp=>by cases hp⟩,(fun q hq=>by cases hq),fun x=>by simp [In],by simp⟩
theorem QfR(hi:i<l.length):l.drop i=l.getD i (0,0)::l.drop (i+1):=by
 rw [List.drop_eq_getElem_cons hi];simp [List.getD,hi]
theorem Qhi(h:Srt l)(hi:i<l.length):Sok (l.getD i (0,0))/\∀p∈l.drop (i+1),(l.getD i (0,0)).1<=p.1:=by
 have k:l.getD i (0,0)∈l:=by simp [List.getD,hi]
 refine⟨h.2 _ k,fun p hp=> ?_⟩;have j:=List.Pairwise.sublist (List.drop_sublist i l) h.1;rw [QfR hi] at j;have:=(List.pairwise_cons.1 j).1 p hp;have:=h.2 _ k;omega
theorem Qfb.stepA(ha:Srt la)(hb:Srt lb)(h:Qfb la lb m i j)(hi:i<la.length)(hab:j<lb.length ->(la.getD i (0,0)).1<=(lb.getD j (0,0)).1):Qfb la lb (QdP m (la.getD i (0,0))) (i+1) j:=by
 obtain⟨k,y⟩:=Qhi ha hi;have e:=QfR hi;obtain⟨z,g,u,t⟩:=QhM h.s k (fun q hq=>(h.le q hq).1 _ (by rw [e];simp));refine⟨z,fun q hq=>⟨fun p k=>Int.le_trans (u q hq) (y p k),fun p k=>Int.le_trans (u q hq) ?_⟩,fun x=> ?_,?_⟩
 ·by_cases r:j<lb.length
  ·have v:=QfR r;rw [v] at k;rcases List.mem_cons.1 k with rfl|k
   ·exact hab r
   ·exact Int.le_trans (hab r) ((Qhi hb r).2 p k)
  ·rw [List.drop_eq_nil_of_le (by omega)] at k;cases k
 ·rw [<- h.in' x,g x,e,QkK,or_assoc,or_assoc]
 ·have:=h.len;omega
theorem Qfb.stepB(ha:Srt la)(hb:Srt lb)(h:Qfb la lb m i j)(hj:j<lb.length)(hab:i<la.length ->(lb.getD j (0,0)).1<=(la.getD i (0,0)).1):Qfb la lb (QdP m (lb.getD j (0,0))) i (j+1):=by
 have r:Qfb lb la m j i:=⟨h.s,fun q hq=>⟨(h.le q hq).2,(h.le q hq).1⟩,fun x=>by rw [or_comm (a:=In lb x),<- h.in' x,or_comm (a:=In (la.drop i) x)],by have:=h.len;omega⟩;have k:=Qfb.stepA hb ha r hj hab;exact⟨k.s,fun q hq=>⟨(k.le q hq).2,(k.le q hq).1⟩,fun x=>by rw [or_comm (a:=In la x),<- k.in' x,or_comm (a:=In (la.drop i) x)],by have:=k.len;omega⟩
theorem Qfb.done(h:Qfb la lb m la.length lb.length):Srt m/\ (∀x,In m x↔(In la x \/In lb x))/\ m.length<=la.length+lb.length:=by
 refine⟨h.s,fun x=> ?_,by have:=h.len;omega⟩;rw [<- h.in' x];simp [In]
def Qbn (R F T:Nat ->Int)(n:Nat):List Rn:=(List.range n).map fun i=>(R i,F i,T i)
def tag (r:Int)(l:List (Int×Int)):List Rn:=l.map fun p=>(r,p.1,p.2)
def QdA (L:Int ->List (Int×Int))(k:Nat):List Rn:=(KS L k).flatMap fun r=>tag r (L r)
theorem Qc6 (R F T:Nat ->Int)(n:Nat):Qbn R F T (n+1)=Qbn R F T n++[(R n,F n,T n)]:=by simp [Qbn,List.range_succ]
theorem Qdv (R F T:Nat ->Int):∀(n:Nat) (r x:Int),RI (Qbn R F T n) r x↔In (Lk R F T n r) x
 | 0,r,x=>by simp [Qbn,Lk,RI,In]
 | n+1,r,x=>by
  rw [Qc6,Qbe,Qg9,Qdv R F T n r x];by_cases e:r=R n
  ·subst e;have:Lk R F T (n+1) (R n)=Lk R F T n (R n)++[(F n,T n)]:=Qak _ _ _;rw [this,Qc0,Qg5];simp [InR]
  ·have:Lk R F T (n+1) r=Lk R F T n r:=Qad _ _ e;rw [this];simp [InR,Ne.symm e]
theorem Qbp {R F T:Nat ->Int}:∀(n:Nat),Qd8 R F T n ->Qcz (Qbn R F T n)
 | 0,_=>⟨by simp [Qbn],fun p j=>by simp [Qbn] at j⟩
 | n+1,h=>by
  have q:=Qbp n (fun i hi=>h i (by omega));have v:=QaV.1 (h n (by omega)).1;rw [Qc6];refine q.snoc v (fun p j=> ?_);cases n with
  | zero=>simp [Qbn] at j
  | succ m=>
   have k:=(h (m+1) (by omega)).2 (by omega);unfold QaC at k;have k:=of_decide_eq_true k;rw [Nat.add_sub_cancel] at k;have r:Apt (R m,F m,T m) (R (m+1),F (m+1),T (m+1)):=k;rw [Qc6] at j q;rcases List.mem_append.1 j with j|j
   ·have u:=(List.pairwise_append.1 q.1).2.2 p j _ (List.mem_singleton.2 rfl);exact u.trans (q.2 _ (by simp)) r
   ·rw [List.mem_singleton] at j;subst j;exact r
theorem Qg2(h:Srt l)(h0:0<=r)(h8:r<8):Qcz (tag r l):=by
 refine⟨List.pairwise_map.2 (h.1.imp (fun hh=> .inr ⟨rfl,hh⟩)),fun p hp=> ?_⟩;obtain⟨q,j,rfl⟩:=List.mem_map.1 hp;have:=h.2 q j;exact⟨h0,h8,this⟩
theorem Qja{y:Int}:RI (tag r l) y x↔(r=y/\ In l x):=by
 constructor
 ·rintro⟨p,u,k,m⟩;obtain⟨q,j,rfl⟩:=List.mem_map.1 u;exact⟨k,q,j,m⟩
 ·rintro⟨rfl,q,j,h⟩;exact⟨_,List.mem_map.2 ⟨q,j,rfl⟩,rfl,h⟩
theorem QdC(h:(L (k:Int)).isEmpty=false):QdA L (k+1)=QdA L k++tag (k:Int) (L (k:Int)):=by
 simp [QdA,KS,h]
theorem QdB(h:(L (k:Int)).isEmpty=true):QdA L (k+1)=QdA L k:=by
 simp [QdA,KS,h]
theorem Qgo {L:Int ->List (Int×Int)}(hL:∀r,Srt (L r)):∀k:Nat,k<=8 ->Qcz (QdA L k)/\ (∀y x,RI (QdA L k) y x↔(0<=y/\ y<k/\ In (L y) x))/\∀p∈QdA L k,p.1<k
 | 0,_=>⟨⟨by simp [QdA,KS],fun p j=>by simp [QdA,KS] at j⟩,fun y x=>by simp [QdA,KS,RI];omega,fun p j=>by simp [QdA,KS] at j⟩
 | k+1,hk=>by
  obtain⟨m,z,u⟩:=Qgo hL k (by omega);by_cases e:(L (k:Int)).isEmpty=true
  ·rw [QdB e];refine⟨m,fun y x=> ?_,fun p j=>by have:=u p j;omega⟩;rw [z];constructor
   ·rintro⟨a,b,c⟩;exact⟨a,by omega,c⟩
   ·rintro⟨a,b,c⟩;refine⟨a,?_,c⟩;rcases Int.lt_or_le y k with h|h
    ·exact h
    ·have:y=(k:Int):=by omega
     subst this;have:L (k:Int)=[]:=by simpa using e
     rw [this] at c;exact absurd c Qkh
  ·have e:(L (k:Int)).isEmpty=false:=by simpa using e
   rw [QdC e];have v:=Qg2 (hL (k:Int)) (by omega:(0:Int)<=k) (by omega);refine⟨⟨List.pairwise_append.2 ⟨m.1,v.1,fun p j q hq=> ?_⟩,fun p j=> ?_⟩,fun y x=> ?_,fun p j=> ?_⟩
   ·obtain⟨g,_,rfl⟩:=List.mem_map.1 hq;exact .inl (u p j)
   ·rcases List.mem_append.1 j with j|j
    ·exact m.2 p j
    ·exact v.2 p j
   ·rw [Qbe,z,Qja];constructor
    ·rintro(⟨a,b,c⟩|⟨rfl,c⟩)
     ·exact⟨a,by omega,c⟩
     ·exact⟨by omega,by omega,c⟩
    ·rintro⟨a,b,c⟩;rcases Int.lt_or_le y k with h|h
     ·exact .inl ⟨a,h,c⟩
     ·have:y=(k:Int):=by omega
      subst this;exact .inr ⟨rfl,c⟩
   ·rcases List.mem_append.1 j with j|j
    ·have:=u p j;omega
    ·obtain⟨g,_,rfl⟩:=List.mem_map.1 j;show (k:Int)<_;omega
theorem Qke {R F T R' F' T':Nat ->Int}{n':Nat}(h:Qd8 R F T n)(h':Qd8 R' F' T' n')(hS:∀r,Srt (L r))(hI:∀r x,In (L r) x↔(In (Lk R F T n r) x \/In (Lk R' F' T' n' r) x)):
  unF (Qbn R F T n) (Qbn R' F' T' n')=QdA L 8:=by
 obtain⟨v,y⟩:=Qdb (Qbn R' F' T' n') (Qbn R F T n) (Qbp n h) (Qbp n' h').2;obtain⟨q,u,_⟩:=Qgo hS 8 zL;refine uniq v q (fun r x=> ?_);rw [y,u,Qdv,Qdv,hI];constructor
 ·intro j;have m:0<=r/\ r<8:=by
   rcases j with ⟨p,k,_⟩|⟨p,k,_⟩
   ·exact QdT n h r (List.ne_nil_of_mem k)
   ·exact QdT n' h' r (List.ne_nil_of_mem k)
  exact⟨m.1,m.2,j⟩
 ·exact fun j=>j.2.2
theorem Gr.drew{b0 b:Value}(h:Gr w w1 b0 b):Gr w w1.drew b0 b:=h.trans ⟨⟨rfl,rfl,rfl,Nat.le_refl _,fun _ _ _=>rfl⟩,.inl rfl⟩
def SR (w:World)(B:Nat)(v:Value)(l:List (Int×Int)):Prop:=w.ownsRow B 233 2 v l.length (Qal l)
theorem Qba (l:List (Int×Int)):(Qal l).length=l.length*2:=by
 induction l with
 | nil=>rfl
 | cons a l ih=>simp [Qal] at*;omega
theorem Qms (w:World)(x y:Value)(t:TypeId):∀j u,[x,y][j]? =some u ->(w.alloc (.cells #[x,y] t)).cell? ((⟨w.heap.size,0,none⟩:Addr).add j)=some u:=by
 intro j u k;match j,k with
 | 0,k=>simp at k;subst k;simp [Addr.add]
 | 1,k=>simp at k;subst k;simp [Addr.add]
theorem Qan (w:World)(p:Addr)(u:Value):w.grownBy (w.setCell p u) (some p.block):=
 ⟨rfl,rfl,rfl,by simp [World.setCell],fun k hk hne=>zH _ _ _ _ (fun e=>hne (by rw [e]))⟩
structure QeV (w:World)(bm n:Nat)(D:DataW Value)(G:Int ->Value)(L:Int ->List (Int×Int)):Prop where
 own:w.ownsMap Tryz.prog 3 Qcj bm n D
 at':∀r,D.atKey (kI r) (.held (.slice none 0 0))=.held (G r)
 has':∀r,Maps.has D (kI r)= !(L r).isEmpty
 rows:∀r,w.ownsRow 0 233 2 (G r) (L r).length (Qal (L r))
theorem QeJ(h:w.ownsRow B e s v n xs):w.ownsRow 0 e s v n xs:=by
 obtain⟨m,q⟩:=h;refine⟨m,q.imp id ?_⟩;rintro⟨g,j,k,e,_,r⟩;exact⟨g,j,k,e,Nat.zero_le _,r⟩
theorem Qgu{m:Nat}{D:DataW Value}(h:w.ownsRow B e s v m xs)(hm:w.ownsMap Tryz.prog 3 Qcj bm n D):v.ownBlock=none \/v.ownBlock≠some bm:=by
 obtain⟨_,k⟩:=h;rcases k with ⟨rfl,_⟩|⟨g,r,y,rfl,_,j,_⟩
 ·exact .inl rfl
 ·refine .inr (fun e=> ?_);obtain⟨z,u,q,_⟩:=hm;have e:g=bm:=by simpa [Value.ownBlock] using e
  rw [e,q] at j;cases j
theorem QbS(h:w.ownsRow B e s v n xs)(hb:Bl w w1):w1.ownsRow B e s v n xs:=
 Qbc h hb (fun k hk=>(h.lt k hk).2)
theorem QcA(h:w.ownsRow B 233 2 v l.length (Qal l)):
  ∃a c,v=.slice a l.length c/\ SS w a l.length (sF l) (sT l)/\ l.length<=c/\ c<=9223372036854775807:=by
 rcases h.2 with ⟨e,j⟩|⟨g,k,r,e,u,_,q,m,_⟩
 ·exact⟨none,0,by rw [e,j],.inl j,by omega,by omega⟩
 ·exact⟨_,k,e,by rw [e] at h;exact QiS h rfl,q,by unfold maxLen at m;omega⟩
theorem QaK{size:Nat}(h:w.ownsRow B e size v n xs):∃y m c,v=.slice y m c:=by
 rcases h.2 with ⟨rfl,_⟩|⟨g,j,k,rfl,_⟩
 ·exact⟨_,_,_,rfl⟩
 ·exact⟨_,_,_,rfl⟩
theorem QeV.gr{D:DataW Value}{G:Int ->Value}(h:QeV w bm n D G L){row:Option Nat}(hg:w.grownBy w1 row)(hr:some bm≠row)(hro:∀r g,(G r).ownBlock=some g ->some g≠row):QeV w1 bm n D G L:=
 ⟨h.own.kept hg hr,h.at',h.has',fun r=>(h.rows r).kept hg (by
  cases e:(G r).ownBlock with
  | none=>exact .inl rfl
  | some g=>exact .inr (hro r g e))⟩
theorem QeV.bw{D:DataW Value}{G:Int ->Value}(h:QeV w bm n D G L)(hb:Bl w w1):QeV w1 bm n D G L:=
 h.gr (row:=none) ⟨hb.os,hb.tape,hb.output,hb.size,fun k hk _=>hb.block k hk⟩ (by simp) (by simp)
theorem QdR (l:List (Int×Int))(q:Int×Int)(z:Int):(Qal (l++[q])).set (l.length*2+1) (.int .i64 z)=Qal (l++[(q.1,z)]):=by
 rw [Qa2,Qa2,List.set_append_right _ _ (by rw [Qba];omega),Qba,show l.length*2+1 - l.length*2=1 from by omega];rfl
theorem Qby (B:Nat)(rv:Value)(l:List (Int×Int))(f t:Int)(w:World)(hB:B<=w.heap.size)(hl:l.length<=1000000)(ho:SR w B rv l)(hlo:∀q∈l,0<=q.2/\ q.2<=1000000000):
  Cl 152 #[rv,.agg #[.int .i64 f,.int .i64 t]] w fun e w'=>∃v,e=.returned v/\ SR w' B v (QdP l (f,t))/\ Gr w w' rv v:=by
 obtain⟨F,hi,X,C,D⟩:=info_parts Tryz.infoSpan;obtain⟨k,r⟩:=zE (w.alloc (.cells #[.int .i64 f,.int .i64 t] 233));have x0:k.cell? ⟨w.heap.size,0,none⟩=some (.int .i64 f):=by rw [<- r];simp
 have b:k.cell? ⟨w.heap.size,1,none⟩=some (.int .i64 t):=by rw [<- r];simp
 have Hc:Hid (k.heap.size=w.heap.size+1):=by rw [<- r];exact hid (by simp)
 have N:Hid (B<=k.heap.size):=by have:=Hc.out;exact hid (by omega)
 have i:Hid (SR k B rv l):=by rw [<- r];exact World.ownsRow.alloc ho _
 have Z:Hid (Gr w k rv rv):=by rw [<- r];exact(Gr.refl _ _).alloc _
 rcases List.eq_nil_or_concat l with rfl|⟨y,q,rfl⟩
 ·have H:Hid (SR k.drew B rv []):=i.out;obtain⟨a,o,rfl⟩:∃a o,rv=.slice a 0 o:=by
   rcases ho.2 with ⟨rfl,_⟩|⟨g,o,Hd,rfl,_⟩
   ·exact⟨_,_,rfl⟩
   ·exact⟨_,_,rfl⟩
  ·clear ho;go_enter Tryz.func152,Tryz.ntmps152;go_wp2_with fail;try rw [r]
   clear r;refine zR (S:=fun w'=>w'.cell? ⟨w.heap.size,0,none⟩=some (.int .i64 f)) x0 (fun qh=> ?_);refine tZ 0 9 ?_;refine tZ 1 10 ?_;refine tZ 2 11 ?_;refine uZ 3 12 ?_;refine uZ 4 13 ?_;refine uZ 5 14 ?_;refine uZ 6 15 ?_;refine uZ 7 16 ?_;refine uZ 8 17 ?_;refine uZ 9 18 ?_;refine uZ 10 19 ?_;refine uZ 11 20 ?_;refine tZ 12 21 ?_;refine zD ?_;clear qh;go_wp2_with (at_builtin;refine Qao rfl _ _ 215 rfl B 233 F _ 2 16 Tryz.underlying215 hi X C D rfl (by decide) _ _ _ rfl (World.ownsRow.alloc H _) ⟨k.heap.size,0,none⟩ 1 1 [.int .i64 f,.int .i64 t] rfl rfl ?c1 ?c2 ?c3 ?c4 ?c5 ?_);case c1=>exact Qms _ _ _ _
   case c2=>intro u Y;simp at Y;rcases Y with rfl|rfl<;>rfl
   case c3=>unfold maxLen;simp
   case c4=>simp
   case c5=>have:=N.out;simp;omega
   intro v' w1 V M Q;have R:Hid (SR w1 B v' (QdP [] (f,t))):=by rw [Qde];exact V
   have s:=hid ((Z.alloc _).drew.trans (Gr.app (b':=v') M (by simpa using Q)));clear V M Q x0 b;go_wp2_with fail;go_ret;exact⟨v',rfl,R,s⟩
 ·simp only [List.concat_eq_append] at*;obtain⟨z,j⟩:=q;have hq:=hlo (z,j) (by simp);obtain⟨m,U⟩:=zE y.length;have O:(y++[(z,j)]).length=m+1:=by simp [U]
  rcases ho.2 with ⟨_,e0⟩|⟨g,o,Hd,rfl,Hh,_,Hg,He,_,_⟩
  ·simp at e0
  have Ha:g≠w.heap.size:=fun e=>by have:=(World.ownsRow.lt ho g rfl).2;omega
  have J:k.cell? ⟨g,m*2+1,none⟩=some (.int .i64 j):=by
   rw [World.ownsRow.cellAt i.out _ (by rw [O];omega),Qa2,List.getElem?_append_right (by rw [Qba];omega),Qba,U,show m*2+1 - m*2=1 from by omega];rfl
  have Hf:=World.ownsRow.frozenAt i (m*2+1);have Hb:=hid (fun(h:¬j+1<f)=>Qer (l:=y) (q:=(z,j)) (p:=(f,t)) h);have T:=hid (fun(h:j+1<f)=>Qdd (l:=y) (q:=(z,j)) (p:=(f,t)) h);have L:=hid (QdR y (z,j) (max j t));have I:=hid (World.ownsRow.stored i (m*2+1) (.int .i64 (max j t)));have H:Hid (k.drew.ownsRow B 233 2 (.slice (some ⟨g,0,none⟩) (m+1) o) (m+1) (Qal (y++[(z,j)]))):=by
   have:=i.out;unfold SR at this;rw [O] at this;exact this
  rw [U] at L;rw [O] at Hg hl I Z ⊢;unfold maxLen at He;have HM:=hid U;have W:=hid O;clear ho hlo U O i;have x2:IntKind.i64.wrap (j+1)=j+1:=Qck _ (by omega) (by omega);have Hi:decide ((m:Int)<0)=false:=by simp
  have Hj:(m:Int)<(m:Int)+1:=by omega
  by_cases E:j+1<f
  ·have t1:decide (j+1<f)=true:=by simp;exact E
   have G:=hid (T E);clear E;go_enter Tryz.func152,Tryz.ntmps152;go_wp2_with fail;try rw [r]
   clear r;refine zR (S:=fun w'=>w'.cell? ⟨w.heap.size,0,none⟩=some (.int .i64 f)/\ w'.cell? ⟨g,m*2+1,none⟩=some (.int .i64 j)) ⟨x0,J⟩ (fun qh=> ?_);refine tZ 0 9 ?_;refine tZ 1 10 ?_;refine tZ 2 11 ?_;refine tZ 3 12 ?_;refine tZ 4 13 ?_;refine tZ 5 14 ?_;refine tZ 6 15 ?_;refine tZ 7 16 ?_;refine tZ 8 17 ?_;refine tZ 9 18 ?_;refine tZ 10 19 ?_;refine tZ 11 20 ?_;refine tZ 12 21 ?_;refine zD ?_;clear qh;go_wp2_with (at_builtin;refine Qao rfl _ _ 215 rfl B 233 F _ 2 16 Tryz.underlying215 hi X C D rfl (by decide) _ _ _ rfl (World.ownsRow.alloc H _) ⟨k.heap.size,0,none⟩ 1 1 [.int .i64 f,.int .i64 t] rfl rfl ?c1 ?c2 ?c3 ?c4 ?c5 ?_);case c1=>exact Qms _ _ _ _
   case c2=>intro u Y;simp at Y;rcases Y with rfl|rfl<;>rfl
   case c3=>unfold maxLen;omega
   case c4=>omega
   case c5=>have:=N.out;simp;omega
   intro v' w1 V M Q;have R:Hid (SR w1 B v' (QdP (y++[(z,j)]) (f,t))):=by
    rw [G.out];unfold SR;rw [Qa2,List.length_append,W.out];exact V
   have s:=hid ((Z.alloc _).drew.trans (Gr.app (b':=v') M (by simpa using Q)));clear V M Q x0 b;go_wp2_with fail;go_ret;exact⟨v',rfl,R,s⟩
  ·have t1:decide (j+1<f)=false:=by simp;omega
   have G:=hid (Hb E);clear E;go_enter Tryz.func152,Tryz.ntmps152;go_wp2_with fail;try rw [r]
   clear r;refine zR (S:=fun w'=>w'.cell? ⟨w.heap.size,0,none⟩=some (.int .i64 f)/\ w'.cell? ⟨g,m*2+1,none⟩=some (.int .i64 j)) ⟨x0,J⟩ (fun qh=> ?_);refine tZ 0 9 ?_;refine tZ 1 10 ?_;refine tZ 2 11 ?_;refine tZ 3 12 ?_;refine tZ 4 13 ?_;refine tZ 5 14 ?_;refine tZ 6 15 ?_;refine tZ 7 16 ?_;refine tZ 8 17 ?_;refine tZ 9 18 ?_;refine tZ 10 19 ?_;refine tZ 11 20 ?_;refine tZ 12 21 ?_;refine zD ?_;clear qh;go_wp2_with fail;refine zR (S:=fun w'=>w'.cell? ⟨w.heap.size,1,none⟩=some (.int .i64 t)) b (fun qh=> ?_);refine tZ 0 26 ?_;refine tZ 1 27 ?_;refine tZ 2 28 ?_;refine tZ 3 29 ?_;refine tZ 4 30 ?_;refine tZ 5 31 ?_;refine tZ 7 33 ?_;refine tZ 8 34 ?_;refine cZ 6 ?_;intro K A;go_simp;refine A.out _ _ b (fun qh=> ?_);clear A K;try simp only [zP]
   refine tZ 9 35 ?_;refine tZ 10 36 ?_;refine tZ 11 37 ?_;refine cZ 12 ?_;intro K A;go_simp;have P:(k.setCell ⟨g,m*2+1,none⟩ (.int .i64 (max j t))).drew.drew.cell? ⟨w.heap.size,1,none⟩=some (.int .i64 t):=by
    rw [<- b];exact World.cell?_of_block (zH _ _ _ _ (fun e=>Ha e.symm))
   refine A.out _ _ P (fun qh=> ?_);clear A K;try simp only [zP]
   refine zD ?_;clear qh;have R:Hid (SR (k.setCell ⟨g,m*2+1,none⟩ (.int .i64 (max j t))) B (.slice (some ⟨g,0,none⟩) (m+1) o) (QdP (y++[(z,j)]) (f,t))):=by
    rw [G.out];unfold SR;show World.ownsRow _ _ _ _ _ (y++[(z,max j t)]).length _;rw [<- L.out,show (y++[(z,max j t)]).length=m+1 from by simp [HM.out]];exact I.1
   have s:Hid (Gr w (k.setCell ⟨g,m*2+1,none⟩ (.int .i64 (max j t))).drew.drew (.slice (some ⟨g,0,none⟩) (m+1) o) (.slice (some ⟨g,0,none⟩) (m+1) o)):=
    ((Z.trans ⟨Qan k ⟨g,m*2+1,none⟩ (.int .i64 (max j t)),.inl rfl⟩).drew).drew
   clear x0 b P J Hf I;go_wp2_with fail;go_ret;exact⟨_,rfl,R,s⟩
def Sfx (w:World)(l:List (Int×Int))(i k:Nat)(x:Option Addr):Prop:=
 i+k=l.length/\ (k=0 \/∃g o,x=some ⟨g,o,none⟩/\ g<w.heap.size/\∀j,j<k ->w.cell? ⟨g,o+j*2,none⟩=some (.int .i64 (sF l (i+j)))/\ w.cell? ⟨g,o+j*2+1,none⟩=some (.int .i64 (sT l (i+j))))
theorem Sfx.start{a:Option Addr}(h:SS w a l.length (sF l) (sT l)):Sfx w l 0 l.length a:=by
 refine⟨by omega,?_⟩;rcases h with h|⟨b,q,rfl,k,m⟩
 ·exact .inl h
 ·exact .inr ⟨b,q,rfl,k,fun j hj=>by rw [Nat.zero_add];exact m j hj⟩
theorem Sfx.next{o:Nat}(h:Sfx w l i (k+1) (some ⟨g,o,none⟩)):Sfx w l (i+1) k (some ⟨g,o+2,none⟩):=by
 obtain⟨v,m⟩:=h;refine⟨by omega,?_⟩;rcases m with m|⟨u,y,e,r,q⟩
 ·omega
 ·injection e with e;injection e with e1 e2;subst e1 e2;refine .inr ⟨g,o+2,rfl,r,fun j hj=> ?_⟩;have:=q (j+1) (by omega);rw [show o+(j+1)*2=o+2+j*2 from by omega,show i+(j+1)=i+1+j from by omega] at this;exact this
theorem Sfx.bw{x:Option Addr}(h:Sfx w l i k x)(hb:Bl w w1):Sfx w1 l i k x:=by
 obtain⟨r,u⟩:=h;refine⟨r,u.imp id ?_⟩;rintro⟨g,o,e,m,q⟩;exact⟨g,o,e,Nat.lt_of_lt_of_le m hb.size,fun j hj=>⟨(hb.cell (p:=⟨g,_,none⟩) m).trans (q j hj).1,(hb.cell (p:=⟨g,_,none⟩) m).trans (q j hj).2⟩⟩
theorem Sfx.block{x:Option Addr}(h:Sfx w l i k x)(hk:0<k):∃g o,x=some ⟨g,o,none⟩/\ g<w.heap.size/\ w.cell? ⟨g,o,none⟩=some (.int .i64 (sF l i))/\ w.cell? ⟨g,o+1,none⟩=some (.int .i64 (sT l i)):=by
 rcases h.2 with h|⟨g,o,e,m,j⟩
 ·omega
 ·have:=j 0 hk;simp at this;exact⟨g,o,e,m,this⟩
theorem SR.bw{v1:Value}{w0:World}(h:SR w B v l)(hb:Below B w0 w)(hB:B<=w.heap.size)(hg:Gr w w1 v v1):Below B w0 w1:=
 hb.trans (hg.bw hB (fun k hk=>(World.ownsRow.lt h k hk).1))
def lenOf:Value ->Nat
 | .slice _ n _=>n
 | _=>0
theorem Qh4 (a:Option Addr)(ca:Nat)(b:Option Addr)(cb:Nat)(la lb:List (Int×Int))(w:World)(A:SS w a la.length (sF la) (sT la))(y:SS w b lb.length (sF lb) (sT lb))
  (hca:la.length<=ca) (hca':ca<=9223372036854775807) (hcb:lb.length<=cb) (hcb':cb<=9223372036854775807) (ha:Srt la) (hb:Srt lb) (hna:la.length<=2000) (hnb:lb.length<=2000):
  Cl 167 #[.slice a la.length ca,.slice b lb.length cb] w fun e w'=>∃v l,e=.returned v/\ SR w' w.heap.size v l/\ Bl w w'/\ Srt l/\ (∀x,In l x↔(In la x \/In lb x))/\ l.length<=la.length+lb.length:=by
 obtain⟨i0,hi,Gt,Gu,Gv⟩:=info_parts Tryz.infoSpan;have H9:=hid (Sfx.start A);have Ga:=hid (Sfx.start y);have Hu:=hid ha;have Hv:=hid hb;have Hr:Hid (∀m,Srt m ->∀q∈m,0<=q.2/\ q.2<=1000000000):=fun m hm q hq=>by have:=hm.2 q hq;omega
 clear A y ha hb;obtain⟨na,Hc⟩:=zE la.length;obtain⟨nb,Hd⟩:=zE lb.length;rw [Hc] at H9 hca hna;rw [Hd] at Ga hcb hnb;rw [Hc,Hd];have Hs:=hid Hc;have Ht:=hid Hd;clear Hc Hd;obtain⟨cc,Gb⟩:=zE (na+nb:Nat);have hw:IntKind.i64.wrap ((na:Int)+(nb:Int))=(cc:Int):=by rw [<- Gb];exact Qck _ (by omega) (by omega)
 have Go:=run_makeSlice_owned (P:=Tryz.prog) w w.heap.size 215 233 i0 _ 2 Tryz.underlying215 hi Gt Gu .i64 .i64 cc (by omega) (by rw [Gv];omega) (by unfold maxLen;omega) zL;obtain⟨w1,H4,Hm,Hn⟩:=Go;have Gg:Hid (Bl w w1):=zI.grown Hn zL (fun _ h=>by cases h);have Gl:Hid (SR w1 w.heap.size (.slice (some ⟨w.heap.size,0,none⟩) 0 cc) []):=Hm;clear Hm Hn;have G2:cc<=4000:=by omega
 clear Gb;go_enter Tryz.func167,Tryz.ntmps167;go_wp2_with fail;go_loopw [0,1,5] (fun u0 u1 u5 wr=>∃(i u Hi:Nat) (xa:Option Addr) (j z Hj:Nat) (xb:Option Addr) (m:List (Int×Int)),u0=.slice xa u Hi/\ u1=.slice xb z Hj/\ u<=Hi/\ Hi<=9223372036854775807/\ z<=Hj/\ Hj<=9223372036854775807/\ u<=2000/\ z<=2000/\ Hid (Sfx w la i u xa)/\ Hid (Sfx w lb j z xb)/\ Hid (Qfb la lb m i j)/\ Hid (SR wr w.heap.size u5 m)/\ Hid (Bl w wr))
  (fun u0 u1 _ _=>lenOf u0+lenOf u1)
 case atStart=>exact⟨0,na,ca,a,0,nb,cb,b,[],rfl,rfl,hca,hca',hcb,hcb',hna,hnb,H9,Ga,hid (Qfb.start la lb),Gl,Gg⟩
 case round=>
  clear H4;obtain⟨i,u,Hi,xa,j,z,Hj,xb,m,rfl,rfl,Gw,Gx,Gz,G0,Gy,G1,A,y,F,W,C⟩:=hrel;have H5:m.length<=1000000:=by
   have h1:=F.len;have h2:=A.1;have h3:=y.1;have:=Hs.out;have:=Ht.out;omega
  have Hq:=C.size;by_cases Hf:0<u/\ 0<z
  ·obtain⟨Gq,Gs⟩:=Hf;obtain⟨E,J,rfl,Gm,Hg,Hw⟩:=(A.bw C).block Gq;obtain⟨M,L,rfl,Gn,Hh,Hx⟩:=(y.bw C).block Gs;obtain⟨ka,rfl⟩:∃ka,u=ka+1:=⟨u - 1,by omega⟩;obtain⟨kb,rfl⟩:∃kb,z=kb+1:=⟨z - 1,by omega⟩;obtain⟨Hz,rfl⟩:∃k,Hi=k+1:=⟨Hi - 1,by omega⟩;obtain⟨H0,rfl⟩:∃k,Hj=k+1:=⟨Hj - 1,by omega⟩;have Gh:Hid (E<w.heap.size):=by
    rcases A.2 with h|⟨g,o,e,hg,_⟩
    ·omega
    ·injection e with e;injection e with e1 e2;subst e1;exact hid hg
   have Gi:Hid (M<w.heap.size):=by
    rcases y.2 with h|⟨g,o,e,hg,_⟩
    ·omega
    ·injection e with e;injection e with e1 e2;subst e1;exact hid hg
   have H8:Hid (SR wr.drew.drew w.heap.size u5 m):=W.out;have Gj:Hid (i<la.length):=by have:=A.1;exact hid (by omega)
   have Gk:Hid (j<lb.length):=by have:=y.1;exact hid (by omega)
   have Ho:some E≠u5.ownBlock:=fun e=>by have:=(World.ownsRow.lt W E e.symm).1;have:=Gh.out;omega
   have Hp:some M≠u5.ownBlock:=fun e=>by have:=(World.ownsRow.lt W M e.symm).1;have:=Gi.out;omega
   clear Gm Gn;by_cases Hy:sF la i<=sF lb j
   ·have t1:decide (sF la i<=sF lb j)=true:=by simp;exact Hy
    obtain⟨Ge,Gc⟩:=zE ((if Hz=0 then some (⟨E,J,none⟩:Addr) else some ⟨E,J+2,none⟩));have Gp:(1:Int)<=(ka:Int)+1:=by omega
    have H1:Hid (Sfx w la (i+1) ka Ge):=by
     by_cases h0:Hz=0
     ·exact hid ⟨by have:=A.1;omega,.inl (by omega)⟩
     ·rw [if_neg h0] at Gc;subst Gc;exact hid A.next
    have X:=hid (F.stepA Hu Hv Gj (fun _=>Hy));clear Hy;go_wp2_with fail;refine zR (S:=fun w'=>w'.cell? ⟨E,J,none⟩=some (.int .i64 (sF la i))/\ w'.cell? ⟨M,L,none⟩=some (.int .i64 (sF lb j))) ⟨Hg,Hh⟩ (fun qh=> ?_);refine tZ 0 24 ?_;refine tZ 1 25 ?_;refine tZ 2 26 ?_;refine tZ 3 27 ?_;refine tZ 4 28 ?_;refine tZ 5 29 ?_;refine tZ 6 30 ?_;refine tZ 7 31 ?_;refine tZ 8 32 ?_;refine zD ?_;clear qh;go_wp2_with fail;refine zR (S:=fun w'=>w'.cell? ⟨E,J,none⟩=some (.int .i64 (sF la i))/\ w'.cell? ⟨E,J+1,none⟩=some (.int .i64 (sT la i))) ⟨Hg,Hw⟩ (fun qh=> ?_);refine tZ 0 33 ?_;refine tZ 1 34 ?_;refine tZ 2 35 ?_;refine tZ 3 36 ?_;refine tZ 5 38 ?_;refine tZ 6 39 ?_;refine cZ 4 ?_;intro K hK;go_simp;refine(Qby w.heap.size _ m (sF la i) (sT la i) wr.drew.drew Hq H5 H8 (Hr m F.s)).mono ?_;rintro e H ⟨v2,rfl,U,O⟩;have Y:Gr wr H u5 v2:=((Gr.refl wr u5).drew.drew).trans O;have N:=hid (W.bw C Hq Y);have B:=hid U;have d0:H.cell? ⟨E,J,none⟩=some (.int .i64 (sF la i)):=Y.g.cell Hg Ho;have d1:H.cell? ⟨E,J+1,none⟩=some (.int .i64 (sT la i)):=Y.g.cell Hw Ho;clear U O Y;refine hK.out _ _ ⟨d0,d1⟩ (fun qh=> ?_);clear hK K;try simp only [zP]
    refine tZ 7 5 ?_;refine tZ 8 0 ?_;refine zD ?_;clear qh d0 d1 Hg Hw Hh Hx;go_wp2_with fail;go_roundw;case rel=>exact⟨i+1,ka,Hz,Ge,j,kb+1,H0+1,_,_,rfl,rfl,by omega,by omega,by omega,by omega,by omega,by omega,H1,y,X,B,N⟩
    case measure=>simp [lenOf]
   ·have t1:decide (sF la i<=sF lb j)=false:=by simp;omega
    obtain⟨Gf,Gd⟩:=zE ((if H0=0 then some (⟨M,L,none⟩:Addr) else some ⟨M,L+2,none⟩));have Gp:(1:Int)<=(kb:Int)+1:=by omega
    have H1:Hid (Sfx w lb (j+1) kb Gf):=by
     by_cases h0:H0=0
     ·exact hid ⟨by have:=y.1;omega,.inl (by omega)⟩
     ·rw [if_neg h0] at Gd;subst Gd;exact hid y.next
    have X:=hid (F.stepB Hu Hv Gk (fun _=>by show sF lb j<=sF la i;omega));clear Hy;go_wp2_with fail;refine zR (S:=fun w'=>w'.cell? ⟨E,J,none⟩=some (.int .i64 (sF la i))/\ w'.cell? ⟨M,L,none⟩=some (.int .i64 (sF lb j))) ⟨Hg,Hh⟩ (fun qh=> ?_);refine tZ 0 24 ?_;refine tZ 1 25 ?_;refine tZ 2 26 ?_;refine tZ 3 27 ?_;refine tZ 4 28 ?_;refine tZ 5 29 ?_;refine tZ 6 30 ?_;refine tZ 7 31 ?_;refine tZ 8 32 ?_;refine zD ?_;clear qh;go_wp2_with fail;refine zR (S:=fun w'=>w'.cell? ⟨M,L,none⟩=some (.int .i64 (sF lb j))/\ w'.cell? ⟨M,L+1,none⟩=some (.int .i64 (sT lb j))) ⟨Hh,Hx⟩ (fun qh=> ?_);refine tZ 0 40 ?_;refine tZ 1 41 ?_;refine tZ 2 42 ?_;refine tZ 3 43 ?_;refine tZ 5 45 ?_;refine tZ 6 46 ?_;refine cZ 4 ?_;intro K hK;go_simp;refine(Qby w.heap.size _ m (sF lb j) (sT lb j) wr.drew.drew Hq H5 H8 (Hr m F.s)).mono ?_;rintro e H ⟨v2,rfl,U,O⟩;have Y:Gr wr H u5 v2:=((Gr.refl wr u5).drew.drew).trans O;have N:=hid (W.bw C Hq Y);have B:=hid U;have d0:H.cell? ⟨M,L,none⟩=some (.int .i64 (sF lb j)):=Y.g.cell Hh Hp;have d1:H.cell? ⟨M,L+1,none⟩=some (.int .i64 (sT lb j)):=Y.g.cell Hx Hp;clear U O Y;refine hK.out _ _ ⟨d0,d1⟩ (fun qh=> ?_);clear hK K;try simp only [zP]
    refine tZ 7 5 ?_;refine tZ 8 1 ?_;refine zD ?_;clear qh d0 d1 Hg Hw Hh Hx;go_wp2_with fail;go_roundw;case rel=>exact⟨i,ka+1,Hz+1,_,j+1,kb,H0,Gf,_,rfl,rfl,by omega,by omega,by omega,by omega,by omega,by omega,A,H1,X,B,N⟩
    case measure=>simp [lenOf]
  ·have H6:Hid (u=0 \/z=0):=hid (by omega);clear Hf;rcases Nat.eq_zero_or_pos u with Hl|Hl;case' inl=>
    have e1:decide (0<u)=false:=by simp;exact Hl
    clear Hl;go_wp2_with fail
   case' inr=>
    have e1:decide (0<u)=true:=by simp;exact Hl
    have e2:decide (0<z)=false:=by simp;have:=H6.out;omega
    clear Hl;go_wp2_with fail
   all_goals (
    go_loopw [5,49] (fun v5 iv wr2=>∃(k:Nat) (r:List (Int×Int)),k<=u/\ iv=.int .i64 k/\ Hid (Qfb la lb r (i+k) j)/\ Hid (SR wr2 w.heap.size v5 r)/\ Hid (Bl w wr2)) (fun _ iv _=>u - (intOf iv).toNat);case atStart=>exact⟨0,m,Nat.zero_le _,rfl,F,W,C⟩
    case round=>
     clear F W C Hq H5;obtain⟨k,r,hk,rfl,Q,I,V⟩:=hrel;have Hb:r.length<=1000000:=by
      have h1:=Q.len;have:=Hs.out;have:=Ht.out;omega
     have He:=V.size;by_cases D:k<u
     ·have Ha:∃g o,xa=some ⟨g,o,none⟩/\ wr.cell? ⟨g,o+k*2,none⟩=some (.int .i64 (sF la (i+k)))/\ wr.cell? ⟨g,o+k*2+1,none⟩=some (.int .i64 (sT la (i+k))):=by
       rcases (A.bw V.out).2 with h|⟨g,o,e,hg,hc⟩
       ·omega
       ·exact⟨g,o,e,hc k D⟩
      obtain⟨g,o,rfl,c0,c1⟩:=Ha;have X:=hid (Q.stepA Hu Hv (by have:=A.1;omega) (fun hj=>by have:=y.1;have:=H6.out;omega));obtain⟨Z,R⟩:=zE (sF la (i+k));obtain⟨G,T⟩:=zE (sT la (i+k));have HQ:Hid (la.getD (i+k) (0,0)=(Z,G)):=by rw [<- R,<- T];exact rfl
      rw [R] at c0;rw [T] at c1;clear R T;obtain⟨t,p⟩:=zE (wr.alloc (.cells #[.int .i64 Z,.int .i64 G] 233));have r0:t.cell? ⟨wr.heap.size,0,none⟩=some (.int .i64 Z):=by rw [<- p];simp
      have r1:t.cell? ⟨wr.heap.size,1,none⟩=some (.int .i64 G):=by rw [<- p];simp
      have H2:Hid (SR t w.heap.size u5 r):=by rw [<- p];exact World.ownsRow.alloc I _
      have Hk:Hid (Gr wr t u5 u5):=by rw [<- p];exact(Gr.refl _ _).alloc _
      have H3:Hid (w.heap.size<=t.heap.size):=by have:=Hk.g.size;exact hid (by omega)
      go_wp2_with fail;try rw [p]
      refine(Qby w.heap.size u5 r Z G t H3 Hb H2 (Hr r Q.s)).mono ?_;rintro e H ⟨v2,rfl,U,O⟩;have N:=hid (I.bw V He (Hk.trans O));have B:=hid U;clear U O p c0 c1 r0 r1;go_wp2_with fail;go_roundw;case rel=>exact⟨k+1,_,D,by go_num,by have:=X;rw [HQ.out] at this;exact this,B,N⟩
      case measure=>simp [intOf];omega
     ·obtain rfl:k=u:=by omega
      have H7:Hid (Qfb la lb r la.length j):=by
       have h1:=A.1;have h2:=Q.out;rw [h1] at h2;exact hid h2
      clear D Q;go_wp2_with fail;go_loopw [5,59] (fun v5 iv wr2=>∃(k:Nat) (r:List (Int×Int)),k<=z/\ iv=.int .i64 k/\ Hid (Qfb la lb r la.length (j+k))/\ Hid (SR wr2 w.heap.size v5 r)/\ Hid (Bl w wr2)) (fun _ iv _=>z - (intOf iv).toNat);case atStart=>exact⟨0,r,Nat.zero_le _,rfl,H7,I,V⟩
      case round=>
       clear H7 I V He Hb hk;obtain⟨k,r,hk,rfl,Q,I,V⟩:=hrel;have Hb:r.length<=1000000:=by
        have h1:=Q.len;have:=Hs.out;have:=Ht.out;omega
       have He:=V.size;by_cases D:k<z
       ·have Ha:∃g o,xb=some ⟨g,o,none⟩/\ wr.cell? ⟨g,o+k*2,none⟩=some (.int .i64 (sF lb (j+k)))/\ wr.cell? ⟨g,o+k*2+1,none⟩=some (.int .i64 (sT lb (j+k))):=by
         rcases (y.bw V.out).2 with h|⟨g,o,e,hg,hc⟩
         ·omega
         ·exact⟨g,o,e,hc k D⟩
        obtain⟨g,o,rfl,c0,c1⟩:=Ha;have X:=hid (Q.stepB Hu Hv (by have:=y.1;omega) (fun hj=>by omega));obtain⟨Z,R⟩:=zE (sF lb (j+k));obtain⟨G,T⟩:=zE (sT lb (j+k));have HQ:Hid (lb.getD (j+k) (0,0)=(Z,G)):=by rw [<- R,<- T];exact rfl
        rw [R] at c0;rw [T] at c1;clear R T;obtain⟨t,p⟩:=zE (wr.alloc (.cells #[.int .i64 Z,.int .i64 G] 233));have r0:t.cell? ⟨wr.heap.size,0,none⟩=some (.int .i64 Z):=by rw [<- p];simp
        have r1:t.cell? ⟨wr.heap.size,1,none⟩=some (.int .i64 G):=by rw [<- p];simp
        have H2:Hid (SR t w.heap.size u5 r):=by rw [<- p];exact World.ownsRow.alloc I _
        have Hk:Hid (Gr wr t u5 u5):=by rw [<- p];exact(Gr.refl _ _).alloc _
        have H3:Hid (w.heap.size<=t.heap.size):=by have:=Hk.g.size;exact hid (by omega)
        go_wp2_with fail;try rw [p]
        refine(Qby w.heap.size u5 r Z G t H3 Hb H2 (Hr r Q.s)).mono ?_;rintro e H ⟨v2,rfl,U,O⟩;have N:=hid (I.bw V He (Hk.trans O));have B:=hid U;clear U O p c0 c1 r0 r1;go_wp2_with fail;go_roundw;case rel=>exact⟨k+1,_,D,by go_num,by have:=X;rw [HQ.out] at this;exact this,B,N⟩
        case measure=>simp [intOf];omega
       ·obtain rfl:k=z:=by omega
        have HD:Hid (Srt r/\ (∀x,In r x↔(In la x \/In lb x))/\ r.length<=la.length+lb.length):=by
         have h1:=y.1;have h2:=Q.out;rw [h1] at h2;exact hid h2.done
        clear Q D;go_wp2_with fail;go_ret;refine⟨_,r,rfl,I,V,HD.1,HD.2.1,?_⟩;have:=HD.2.2;have:=Hs.out;have:=Ht.out;omega)
theorem Qbm {P:Program}(w:World){ops:Array Oper}{rest:List Oper}{o:Oper}{a:Act}{Q:Exit ->Act ->World ->Prop}(hg:o.guard=none)(it:Operand)(hop:o.op=Op.next it false)(k:TypeId)(K:Keyed P k)(hk:P.underlying k=some (.int .i64))
  (b r n:Nat) (D:DataW Value) (left:Lit ->Bool) (cnt:Nat) (hit:a.eval it=.pointer (some ⟨r,0,none⟩)) (h:w.ranges P k Qcj b r n D left cnt)
  (hDone:(∀kl,left kl=false) ->wpList P ops Q rest (a.put o.dst (.tuple #[.bool false])) w)
  (hMore:∀(x:Int) (va:Option Addr) (vn vc:Nat) (w':World) (cnt':Nat),(Lit.int .i64 x).wf=true ->left (kI x)=true ->(∀zd,D.atKey (kI x) zd=.held (.slice va vn vc)) ->w'.ranges P k Qcj b r n D (fun z=>left z && !z.sameKey (kI x)) cnt' ->cnt'<cnt ->
   w.grownBy w' (some r) ->w'.heap.size=w.heap.size ->(Instr.entry (.pointer (some ⟨r,0,none⟩))).run P w'=.ok (.tuple #[.int .i64 x,.slice va vn vc]) w' ->wpList P ops Q rest (a.put o.dst (.tuple #[.bool true,.int .i64 x,.slice va vn vc])) w'):
  wpList P ops Q (o::rest) a w:=
 wpList_next_ranges w hg it hop k K Qcj (Value.int .i64) (fun p:Option Addr×Nat×Nat=> .slice p.1 p.2.1 p.2.2) (fun key kl hkey=>by obtain⟨x,rfl,_⟩:=Maps.keyOf_int_inv hk hkey;exact⟨x,rfl⟩) (fun v y hv=>by obtain⟨_,a,n,c,rfl⟩:=Qdl (d:=y.1) (ps:=y.2) hv;exact⟨(a,n,c),rfl⟩)
  b r n D left cnt hit h (fun _ hl=>hDone hl) (fun x p kl y w' cnt' hkey hlk hv hat hrg hlt hgr hsz hen=>by
   obtain⟨u,j,rfl,q⟩:=Maps.keyOf_int_inv hk hkey;cases j;have m:=(Qdl (d:=y.1) (ps:=y.2) hv).1;exact hMore x p.1 p.2.1 p.2.2 w' cnt' q hlk (fun zd=>by rw [<- m];exact hat zd) hrg hlt hgr hsz hen)
theorem Qb3 (x y:Int):(kI x).sameKey (kI y)=decide (x=y):=by
 rw [Bool.eq_iff_iff,WideAt.sameKey_iff (show WideAt.IsKeyLit (kI y) from trivial),decide_eq_true_iff];constructor
 ·intro h;unfold kI at h;injection h
 ·intro h;rw [h]
theorem Qn6 (bd bs nd ns:Nat)(Dd Ds:DataW Value)(w:World)(hd:w.ownsMap Tryz.prog 3 Qcj bd nd Dd)(hs:w.ownsMap Tryz.prog 3 Qcj bs ns Ds)(hne:bd≠bs)(hroom:nd+Maps.size Ds<=maxLen):
  Cl 166 #[.map (some bd),.map (some bs)] w fun e w'=>e=.returned (.tuple #[])/\ (∃D,w'.ownsMap Tryz.prog 3 Qcj bd (nd+Maps.size Ds) D/\ Merged D Dd Ds (fun _=>false))/\ w.grownBy w' (some bd):=by
 have G:=hd.lt;have I:=hs.lt;go_enter Tryz.func166,Tryz.ntmps166;go_wp2_with (at_range;refine wpList_range_own _ rfl _ 158 rfl 3 215 (int_keyed Tryz.underlying3) Tryz.underlying158 Qcj bs ns Ds rfl hs ?_;intro B O h N);go_frame;go_loopw [8] (fun _ wr=>∃(r:Lit ->Bool) (m:Nat) (k:DataW Value),wr.ranges Tryz.prog 3 Qcj bs w.heap.size ns Ds r m/\ m<=Maps.size Ds/\
   wr.ownsMap Tryz.prog 3 Qcj bd (nd+(Maps.size Ds - m)) k/\ Merged k Dd Ds r/\ w.grownBy wr (some bd))
  (fun _ wr=>wr.rangeLeft bs w.heap.size)
 case atStart=>
  exact⟨_,_,Dd,O,Nat.le_refl _,(hd.kept h (by simp)).mono (by omega),merged_start Dd Ds,h.but _⟩
 case round=>
  obtain⟨r,m,k,y,J,q,u,v⟩:=hrel;go_wp2_with (at_next;refine Qbm _ rfl _ rfl 3 (int_keyed Tryz.underlying3) Tryz.underlying3 bs w.heap.size ns _ _ _ rfl y ?_ ?_)
  ·intro s;have z:Merged k Dd Ds (fun _=>false):=by
    have e:r=fun _=>false:=funext s;rw [<- e];exact u
   have H:=hid (And.intro q (And.intro z v));clear u z v q y;go_wp2;go_end0;exact⟨rfl,⟨k,H.1.mono (by omega),H.2.1⟩,H.2.2⟩
  ·intro x V Z Y w1 i U L b Q A g X K;have E:=q.kept g (fun e=>by have:=Option.some.inj e;omega);have p:keyOf Tryz.prog 3 (.int .i64 x)=some (kI x):=keyOf_int_mk Tryz.underlying3 U;go_wp2_with (at_mapUpdate;refine wpList_mapUpdate_own _ rfl _ _ _ 158 rfl 3 215 (int_keyed Tryz.underlying3) Tryz.underlying158 Qcj bd _ _ rfl E (by omega) _ _ _ rfl rfl p (.held (.slice V Z Y)) [] rfl ?_;intro C M t;go_frame);have o:=Q.kept t (fun e=>hne (Option.some.inj e).symm) (fun e=>by have:=Option.some.inj e;omega);go_roundw;case rel=>
    exact⟨_,i,_,o,by omega,M.mono (by omega),merged_step u q.isMap (show WideAt.IsKeyLit (kI x) from trivial) b,(v.andThen g (fun j hj=> .inl (by cases hj;exact Nat.le_refl _))).andThen t (fun j hj=> .inr hj)⟩
   case measure=>rw [o.left_eq,y.left_eq];exact A
theorem QjV{b r:Nat}{m:Nat}{D:DataW Value}{left:Lit ->Bool}(h:w.ownsRow B e s v m xs)(hm:w.ranges Tryz.prog 3 Qcj b r n D left c):v.ownBlock=none \/v.ownBlock≠some r:=by
 obtain⟨_,k⟩:=h;rcases k with ⟨rfl,_⟩|⟨g,y,t,rfl,_,j,_⟩
 ·exact .inl rfl
 ·refine .inr (fun e=> ?_);obtain⟨o,z,p,i,u,_,_,_,_,q,_⟩:=hm;have e:g=r:=by simpa [Value.ownBlock] using e
  rw [e,q] at j;cases j
theorem QkL(h:In l x):l≠[]:=fun e=>by rw [e] at h;exact Qkh h
theorem Srt.inh(h:Srt l)(hne:l≠[]):∃x,In l x:=by
 cases l with
 | nil=>exact absurd rfl hne
 | cons p t=>exact⟨p.1,p,List.mem_cons_self,Int.le_refl _,(h.2 p List.mem_cons_self).2.1⟩
structure Qnw (La Lb L:Int ->List (Int×Int))(left:Int ->Bool):Prop where
 s:∀r,Srt (L r)
 done:∀r,left r=false ->∀x,In (L r) x↔(In (La r) x \/In (Lb r) x)
 todo:∀r,left r=true ->L r=La r
 len:∀r,(L r).length<=(La r).length+(Lb r).length
theorem QlW{ba na bb nb:Nat}{Da Db:DataW Value}{Ga Gb:Int ->Value}{La Lb:Int ->List (Int×Int)}(ha:Qaz w ba na Da Ga La)(hb:Qaz w bb nb Db Gb Lb)
  (hsa:∀r,Srt (La r)) (hsb:∀r,Srt (Lb r)) (hla:∀r,(La r).length<=2000) (hlb:∀r,(Lb r).length<=2000) (hza:Maps.size Da<=2000) (hzb:Maps.size Db<=2000):
  Cl 140 #[.map (some ba),.map (some bb)] w fun e w'=>∃bd n D G L,e=.returned (.map (some bd))/\ n<=4000/\ QeV w' bd n D G L/\ Qnw La Lb L (fun _=>false)/\ Bl w w':=by
 have Gp:=ha.own.lt;have Gq:=hb.own.lt;have o:=hid ha;have M:=hid hb;have Hv:=hid hsa;have Hw:=hid hsb;have Ge:=hid hla;have Gf:=hid hlb;have Gk:=@run_makeMap Tryz.prog;clear ha hb hsa hsb hla hlb;obtain⟨Z,O⟩:=zE (w.alloc (.map #[] 0));have E:Hid (Bl w Z):=by rw [<- O];exact hid (zO _ _)
 have Ht:Hid (Z.ownsMap Tryz.prog 3 Qcj w.heap.size 0 (.map [])):=by rw [<- O];exact hid (World.ownsMap_made w _ _ _)
 have Hz:Hid (Z.heap.size=w.heap.size+1):=by rw [<- O];exact hid (by simp)
 go_enter Tryz.func140,Tryz.ntmps140;go_wp2_with fail;try rw [O]
 refine(Qn6 w.heap.size ba 0 na (.map []) Da Z Ht (o.bw E).own (by omega) (by unfold maxLen;omega)).mono ?_;rintro e V ⟨rfl,⟨X,H0,C⟩,R⟩;have B2:Bl w V:=E.grown R (by have:=Hz.out;omega) (fun k hk=>by injection hk with hk;omega);have Hc:=(M.bw B2).own;have z2:w.heap.size<V.heap.size:=by have:=R.size;have:=Hz.out;omega
 have Hx:Hid (Qnw La Lb La (fun r=>Maps.has Db (kI r))):=by
  refine hid ⟨Hv,fun r q x=> ?_,fun _ _=>rfl,fun r=>by omega⟩;have q:Maps.has Db (kI r)=false:=q;rw [M.has' r] at q;have:Lb r=[]:=by simpa using q
  rw [this];simp [In]
 have Hp:Hid (∀r,X.atKey (kI r) (.held (.slice none 0 0))=.held (Ga r)):=by
  refine hid (fun r=> ?_);rw [C.2,<- o.at' r];cases e:Maps.has Da (kI r) with
  | true=>rfl
  | false=>
   rw [atKey_of_not_has e];rfl
 have Hs:Hid (∀r,Maps.has X (kI r)= !(La r).isEmpty):=by
  refine hid (fun r=> ?_);rw [C.1,o.has' r];have:Maps.has (.map []:DataW Value) (kI r)=false:=rfl;rw [this];simp
 have Hr:=hid H0;have B:=hid B2;clear H0 C R Ht O Gk;go_wp2_with (at_range;refine wpList_range_own _ rfl _ 158 rfl 3 215 (int_keyed Tryz.underlying3) Tryz.underlying158 Qcj bb nb Db rfl Hc ?_;intro w0 Hd I Gm);go_frame;have b0:Bl w w0:=B.grown I (by omega) (fun _ h=>by cases h);go_loopw [6] (fun _ wr=>∃(N:Lit ->Bool) (b:Nat) (A:DataW Value) (u:Int ->Value) (j:Int ->List (Int×Int)),wr.ranges Tryz.prog 3 Qcj bb V.heap.size nb Db N b/\ b<=Maps.size Db/\ Hid (QeV wr w.heap.size (Maps.size Da+(Maps.size Db - b)) A u j)/\ Hid (Qnw La Lb j (fun r=>N (kI r)))/\ Hid (Bl w wr))
  (fun _ wr=>wr.rangeLeft bb V.heap.size)
 case atStart=>
  refine⟨_,_,X,Ga,La,Hd,Nat.le_refl _,hid ⟨(Hr.kept I (by simp)).mono (by omega),Hp,Hs,fun r=>QeJ (((o.bw B).rows r).kept I ?_)⟩,Hx,hid b0⟩;cases e:(Ga r).ownBlock with
  | none=>exact .inl rfl
  | some g=>exact .inr (by simp)
 case round=>
  clear Hd I Gm b0 Hc Hx Hp Hs Hr B;obtain⟨N,b,A,u,j,Q,Gr,p,U,P⟩:=hrel;go_wp2_with (at_next;refine Qbm _ rfl _ rfl 3 (int_keyed Tryz.underlying3) Tryz.underlying3 bb V.heap.size nb _ _ _ rfl Q ?_ ?_)
  ·intro H2;have HU:Hid (Qnw La Lb j (fun _=>false)):=by
    have e:(fun r=>N (kI r))=fun _=>false:=funext fun r=>H2 (kI r);have:=U.out;rw [e] at this;exact hid this
   clear H2 Q;go_wp2_with fail;go_ret;exact⟨w.heap.size,_,A,u,j,rfl,by omega,p,HU,P⟩
  ·intro x va vn vc w1 Hi H9 H5 F He Gi J Gn Gs;have hG:Gb x=.slice va vn vc:=by
    have z:=M.at' x;rw [F] at z;injection z with z;exact z.symm
   have H1:Lb x≠[]:=by
    have z:=has_true_of_atKey F;rw [M.has' x] at z;intro e;rw [e] at z;cases z
   have t:Bl w w1:=P.grown J P.size (fun k hk=>by injection hk with hk;omega);have H7:=(M.bw t).rows x;have H6:=(o.bw t).rows x;have H4:=(o.bw t).look x H9;obtain⟨xb,cb,H,Gd,Hl,Hm⟩:=QcA H7;obtain⟨xa,ca,e2,Gc,Hj,Hk⟩:=QcA H6;rw [hG] at H;injection H with H e3 e4;subst H e3 e4;rw [e2] at H4;have g1:QeV w1 w.heap.size (Maps.size Da+(Maps.size Db - b)) A u j:=⟨p.own.kept J (fun e=>by injection e with e;omega),p.at',p.has',fun r=>(p.rows r).kept J (QjV (p.rows r) Q)⟩;have HC:=hid (Qh4 xa ca va vc (La x) (Lb x) w1 Gc Gd Hj Hk Hl Hm (Hv x) (Hw x) (Ge x) (Gf x));have i:=hid g1;have E:=hid t;have Ha:=hid He;have Gg:=hid Q.left_eq;have Go:=hid H5;have Gh:=hid H1;have Gt:=t.size;clear Q hG F H5 J Gn H7 H6 e2 Gc Gd g1 t He H1;go_wp2_with fail;refine HC.mono ?_;rintro e W ⟨v,l,rfl,T,m,H8,Hb,H3⟩;have Hf:=Ha.kept (row:=none) ⟨m.os,m.tape,m.output,m.size,fun k hk _=>m.block k hk⟩ (by simp) (by simp);have Hn:keyOf Tryz.prog 3 (.int .i64 x)=some (kI x):=keyOf_int_mk Tryz.underlying3 H9;have Gl:Qcj v=some (.held v,[]):=Qdm T;have S:W.ownsMap Tryz.prog 3 Qcj w.heap.size (Maps.size Da+(Maps.size Db - b)) A:=i.own.kept (row:=none) ⟨m.os,m.tape,m.output,m.size,fun k hk _=>m.block k hk⟩ (by simp);have Hu:Hid (∀r,W.ownsRow 0 233 2 (u r) (j r).length (Qal (j r))):=hid fun r=>QbS (i.rows r) m;have Hy:Hid (W.ownsRow 0 233 2 v l.length (Qal l)):=hid (QeJ T);have Hq:=hid (Qaa E m);have Y:=hid (And.intro H8 (And.intro Hb H3));have Hh:=hid Hf;clear T m H8 Hb H3 Hf E HC H4 Ha;go_wp2_with (at_mapUpdate;refine wpList_mapUpdate_own _ rfl _ _ _ 158 rfl 3 215 (int_keyed Tryz.underlying3) Tryz.underlying158 Qcj w.heap.size _ _ rfl S (by unfold maxLen;omega) _ _ _ rfl rfl Hn (.held v) [] Gl ?_;intro w4 Gj K;go_frame);have Hg:=Hh.kept K (fun e=>by injection e with e;omega) (fun e=>by injection e with e;omega);have Ho:l≠[]:=by
    obtain⟨y,hy⟩:=(Hw x).inh Gh;exact QkL ((Y.2.1 y).2 (.inr hy))
   go_roundw;case rel=>
    refine⟨_,Hi,_,upd u x v,upd j x l,Hg,by omega,hid ⟨Gj.mono (by omega),fun r=> ?_,fun r=> ?_,fun r=> ?_⟩,hid ⟨fun r=> ?_,fun r q=> ?_,fun r q=> ?_,fun r=> ?_⟩,hid (Hq.grown K (by have:=Hq.size;omega) (fun k hk=>by injection hk with hk;omega))⟩
    ·by_cases e:r=x
     ·subst e;rw [Qak,atKey_put_same i.own.isMap (show WideAt.IsKeyLit (kI r) from trivial)]
     ·rw [Qad u v e,atKey_put_other (Qhy e)];exact i.at' r
    ·by_cases e:r=x
     ·subst e;rw [Qak,has_put_same i.own.isMap (show WideAt.IsKeyLit (kI r) from trivial)];cases l with
      | nil=>exact absurd rfl Ho
      | cons _ _=>rfl
     ·rw [Qad j l e,has_put_other (Qhy e)];exact i.has' r
    ·by_cases e:r=x
     ·subst e;rw [Qak,Qak];exact Hy.kept K (Qgu Hy S)
     ·rw [Qad u v e,Qad j l e];exact(Hu r).kept K (Qgu (Hu r) S)
    ·by_cases e:r=x
     ·subst e;rw [Qak];exact Y.1
     ·rw [Qad j l e];exact U.s r
    ·by_cases e:r=x
     ·subst e;rw [Qak];exact Y.2.1
     ·rw [Qad j l e];exact U.done r (by rw [Qb3] at q;simpa [e] using q)
    ·by_cases e:r=x
     ·subst e;rw [Qb3] at q;simp at q
     ·rw [Qad j l e];exact U.todo r (by rw [Qb3] at q;simpa [e] using q)
    ·by_cases e:r=x
     ·subst e;rw [Qak];exact Y.2.2
     ·rw [Qad j l e];exact U.len r
   case measure=>rw [Hg.left_eq,Gg.out];exact Gi
end Go.Proofs.YtgmjgboibfdaeaaGreatDoor
