import Derived.Test.YtdeolligikjieaaGreatDoorFkg05
import Derived.Laws.BytesArg
import Derived.Laws.Concat
import Derived.Test.YtdeolligikjieaaGreatDoorFkg04
set_option linter.unusedVariables false
set_option linter.unusedSimpArgs false
set_option maxRecDepth 100000
set_option maxHeartbeats 40000000
namespace Go.Proofs.YtdeolligikjieaaGreatDoor
open Go.ChangeShapes Go.WideShapes Go.ChangeAt Go.RowKit
theorem QeW:(Tryz.prog.info? 9).map (fun i=>(i.zero,i.size,i.bytes))=some (some (.string ByteArray.empty),1,16):=by kernel_rfl
structure Bx5 (w:World)(b:Nat)(v0 v1 v2 v3 v4:Value):Prop where
 c0:w.cell? ⟨b,0,none⟩=some v0
 c1:w.cell? ⟨b,1,none⟩=some v1
 c2:w.cell? ⟨b,2,none⟩=some v2
 c3:w.cell? ⟨b,3,none⟩=some v3
 c4:w.cell? ⟨b,4,none⟩=some v4
 f:∀i,w.frozen? ⟨b,i,none⟩=false
 lt:b<w.heap.size
theorem Bx5.below {w w':World}{B b:Nat}{v0 v1 v2 v3 v4:Value}(h:Bx5 w b v0 v1 v2 v3 v4)(hb:Below B w w')(hB:b<B):Bx5 w' b v0 v1 v2 v3 v4:=
 ⟨(hb.cell (p:=⟨b,0,none⟩) hB).trans h.c0,(hb.cell (p:=⟨b,1,none⟩) hB).trans h.c1,(hb.cell (p:=⟨b,2,none⟩) hB).trans h.c2,(hb.cell (p:=⟨b,3,none⟩) hB).trans h.c3,(hb.cell (p:=⟨b,4,none⟩) hB).trans h.c4,fun i=>(hb.frozen (p:=⟨b,i,none⟩) hB).trans (h.f i),Nat.lt_of_lt_of_le h.lt hb.size⟩
theorem Bx5.setAt {w:World}{b:Nat}{v0 v1 v2 v3 v4:Value}(h:Bx5 w b v0 v1 v2 v3 v4)(q:Addr)(u:Value)(hq:q.block≠b):Bx5 (w.setCell q u) b v0 v1 v2 v3 v4:=
 ⟨by rw [World.cell?_setCell_far _ _ _ _ hq];exact h.c0,by rw [World.cell?_setCell_far _ _ _ _ hq];exact h.c1,by rw [World.cell?_setCell_far _ _ _ _ hq];exact h.c2,by rw [World.cell?_setCell_far _ _ _ _ hq];exact h.c3,by rw [World.cell?_setCell_far _ _ _ _ hq];exact h.c4,fun i=>by rw [World.frozen?_setCell];exact h.f i,by simp [World.setCell];exact h.lt⟩
theorem Bx5.set0 {w:World}{b:Nat}{v0 v1 v2 v3 v4:Value}(h:Bx5 w b v0 v1 v2 v3 v4)(u:Value):Bx5 (w.setCell ⟨b,0,none⟩ u) b u v1 v2 v3 v4:=
 ⟨World.cell?_setCell_same _ _ _ h.c0,by simp [World.cell?_setCell_other,h.c1],by simp [World.cell?_setCell_other,h.c2],by simp [World.cell?_setCell_other,h.c3],by simp [World.cell?_setCell_other,h.c4],fun i=>by rw [World.frozen?_setCell];exact h.f i,by simp [World.setCell];exact h.lt⟩
theorem Bx5.set1 {w:World}{b:Nat}{v0 v1 v2 v3 v4:Value}(h:Bx5 w b v0 v1 v2 v3 v4)(u:Value):Bx5 (w.setCell ⟨b,1,none⟩ u) b v0 u v2 v3 v4:=
 ⟨by simp [World.cell?_setCell_other,h.c0],World.cell?_setCell_same _ _ _ h.c1,by simp [World.cell?_setCell_other,h.c2],by simp [World.cell?_setCell_other,h.c3],by simp [World.cell?_setCell_other,h.c4],fun i=>by rw [World.frozen?_setCell];exact h.f i,by simp [World.setCell];exact h.lt⟩
theorem Qdq:(Tryz.prog.info? 69).map (fun i=>(i.zero,i.size,i.bytes))=some (some (.agg #[.slice none 0 0,.bool false,.int .i64 0,.int .i64 0,.string ByteArray.empty]),5,64):=by kernel_rfl
def Qef (w:World)(a:Option Addr)(l:List Lf):Prop:=
 l.length=0 \/∃b off,a=some ⟨b,off,none⟩/\ b<w.heap.size/\∀i,i<l.length ->∃pa pc,(w.cell? ⟨b,off+i*5,none⟩=some (.slice pa (gL l i).p.length pc)/\ (gL l i).p.length<=pc/\ pc<=9223372036854775807)/\ QaR w pa (gL l i).p/\ w.cell? ⟨b,off+i*5+1,none⟩=some (.bool (gL l i).fl)/\ w.cell? ⟨b,off+i*5+2,none⟩=some (.int .i64 (gL l i).r)/\ w.cell? ⟨b,off+i*5+3,none⟩=some (.int .i64 (gL l i).q)/\ w.cell? ⟨b,off+i*5+4,none⟩=some (.string (gL l i).v)
theorem Qef.below {w w1:World}{a:Option Addr}{l:List Lf}(h:Qef w a l)(hb:Below w.heap.size w w1):Qef w1 a l:=by
 refine h.imp id ?_;rintro⟨b,off,e,j,z⟩;refine⟨b,off,e,Nat.lt_of_lt_of_le j hb.size,fun i hi=> ?_⟩;obtain⟨g,pc,⟨k,y⟩,s,m,r,u,v⟩:=z i hi;have q:=fun o=>hb.cell (p:=⟨b,o,none⟩) j;exact⟨g,pc,⟨(q _).trans k,y⟩,s.below hb,(q _).trans m,(q _).trans r,(q _).trans u,(q _).trans v⟩
theorem Qef.seg {w:World}{a:Option Addr}{l:List Lf}(h:Qef w a l):Qf1 w a l:=by
 refine h.imp id ?_;rintro⟨b,off,e,v,u⟩;refine⟨b,off,e,v,fun i hi=> ?_⟩;obtain⟨y,pc,⟨j,_⟩,s,k,m,q,r⟩:=u i hi;exact⟨y,pc,j,s,k,m,q,r⟩
def Wr (w:World)(g:Nat)(t:TypeId)(n:Nat)(C:Nat ->Value):Prop:=∃cur,w.heap[g]? =some (.cells cur t (0,0))/\ n<=cur.size/\∀i,i<n ->cur[i]? =some (C i)
theorem Wr.cell {w:World}{g n:Nat}{t:TypeId}{C:Nat ->Value}(h:Wr w g t n C){i:Nat}(hi:i<n):w.cell? ⟨g,i,none⟩=some (C i):=by
 obtain⟨m,j,q,k⟩:=h;simp [World.cell?,j,k i hi]
theorem Wr.frozen {w:World}{g n:Nat}{t:TypeId}{C:Nat ->Value}(h:Wr w g t n C)(i:Nat):w.frozen? ⟨g,i,none⟩=false:=by
 obtain⟨k,j,m,q⟩:=h;simp [World.frozen?,j]
theorem Wr.same {w w':World}{g n:Nat}{t:TypeId}{C:Nat ->Value}(h:Wr w g t n C)(e:w'.heap[g]? =w.heap[g]?):Wr w' g t n C:=by
 obtain⟨j,k,r⟩:=h;exact⟨j,e.trans k,r⟩
theorem Wr.lt {w:World}{g n:Nat}{t:TypeId}{C:Nat ->Value}(h:Wr w g t n C):g<w.heap.size:=by
 obtain⟨k,j,_⟩:=h;exact(Array.getElem?_eq_some_iff.1 j).1
def ltS (s t:ByteArray):Bool:=Op.bytesLess s.toList t.toList
def eqS (s t:ByteArray):Bool:=s.toList==t.toList
def QbE (s t:ByteArray):Int:=if ltS s t=true then -1 else if eqS s t=true then 0 else 1
def QaE:List ByteArray ->List ByteArray ->Int
 | [],[]=>0
 | [],_::_=> -1
 | _::_,[]=>1
 | s::p,t::q=>if QbE s t=0 then QaE p q else QbE s t
theorem QaR.tail {w:World}{b o:Nat}{s:ByteArray}{p:List ByteArray}(hb:b<w.heap.size)(h:∀i,i<(s::p).length ->w.cell? ⟨b,o+i,none⟩=some (.string (gS (s::p) i))):QaR w (some ⟨b,o+1,none⟩) p:=
 .inr ⟨b,o+1,rfl,hb,fun i hi=>by
  have e:=h (i+1) (by simp;omega);rw [show o+(i+1)=o+1+i by omega] at e;exact e⟩
theorem QaR.drews {w:World}{a:Option Addr}{p:List ByteArray}(h:QaR w a p){k:Nat}:QaR (w.drewN k) a p:=h
theorem QbB {x y:Int}(h:x=y):Ending.returned (.int .i64 x)=.returned (.int .i64 y):=by rw [h]
theorem QcN:∀(p q:List ByteArray) (a b:Option Addr) (c d:Nat) (w:World),p.length<=c ->q.length<=d ->c<=9223372036854775807 ->d<=9223372036854775807 ->QaR w a p ->QaR w b q ->
  Calls Tryz.prog 58 #[.slice a p.length c,.slice b q.length d] w fun e w'=>e=.returned (.int .i64 (QaE p q))/\∃k,w'=w.drewN k
 | [],[],a,b,c,d,w,_,_,_,_,_,_=>by
  go_enter Tryz.func58,Tryz.ntmps58;go_wp2_with fail;go_ret;exact⟨rfl,0,rfl⟩
 | [],t::q,a,b,c,d,w,_,_,_,_,_,_=>by
  have N:(((t::q).length:Int)==0)=false:=by simp;omega
  go_enter Tryz.func58,Tryz.ntmps58;go_wp2_with fail;go_ret;exact⟨rfl,0,rfl⟩
 | s::p,[],a,b,c,d,w,_,_,_,_,_,_=>by
  have N:(((s::p).length:Int)==0)=false:=by simp;omega
  go_enter Tryz.func58,Tryz.ntmps58;go_wp2_with fail;go_ret;exact⟨rfl,0,rfl⟩
 | s::p,t::q,a,b,c,d,w,hc,hd,hc',hd',h,g=>by
  obtain⟨n,H⟩:∃n,(s::p).length=n:=⟨_,rfl⟩;obtain⟨m,G⟩:∃m,(t::q).length=m:=⟨_,rfl⟩;rcases h with h|⟨o,E,rfl,D,h⟩
  ·simp at h
  rcases g with g|⟨i,M,rfl,F,g⟩
  ·simp at g
  have x0:w.cell? ⟨o,E,none⟩=some (.string s):=by simpa [gS] using h 0 (by simp)
  have S:w.cell? ⟨i,M,none⟩=some (.string t):=by simpa [gS] using g 0 (by simp)
  have C:n=p.length+1:=by rw [<- H];simp
  have X:m=q.length+1:=by rw [<- G];simp
  have V:=hid (QaR.tail D h);have Y:=hid (QaR.tail F g);have N:((n:Int)==0)=false:=by simp;omega
  have d1:((m:Int)==0)=false:=by simp;omega
  have J:=hid C;have I:=hid X;have Hf:(0:Int)<(n:Int):=by omega
  have Hd:(0:Int)<(m:Int):=by omega
  have Hb:n<=c:=by rw [<- H];exact hc
  have Hc:m<=d:=by rw [<- G];exact hd
  rw [H,G];clear C X H G hc hd h g;by_cases U:Op.bytesLess s.toList t.toList=true
  ·have v:Hid (QaE (s::p) (t::q)= -1):=hid (by simp [QaE,QbE,ltS,U]);clear V Y;go_enter Tryz.func58,Tryz.ntmps58;go_wp2_with fail;go_quiet (fail);go_wp2_with fail;go_ret;exact⟨QbB v.symm,_,rfl⟩
  ·have U:Op.bytesLess s.toList t.toList=false:=by simpa using U
   by_cases Z:(s.toList==t.toList)=true
   ·have v:Hid (QaE (s::p) (t::q)=QaE p q):=hid (by simp only [QaE,QbE,ltS,eqS,U,Z];simp);have y:Hid (∀A B W,QaR W A p ->QaR W B q ->Calls Tryz.prog 58 #[.slice A (n - 1) (c - 1),.slice B (m - 1) (d - 1)] W fun e w'=>e=.returned (.int .i64 (QaE p q))/\∃m,w'=W.drewN m):=hid (fun A B W hA hB=>by
     have e1:=J.out;have e2:=I.out;rw [show n - 1=p.length by omega,show m - 1=q.length by omega];exact QcN p q A B (c - 1) (d - 1) _ (by omega) (by omega) (by omega) (by omega) hA hB)
    have Hg:(1:Int)<=(n:Int):=by omega
    have He:(1:Int)<=(m:Int):=by omega
    go_enter Tryz.func58,Tryz.ntmps58;go_wp2_with fail;go_quiet (fail);obtain⟨O,Q⟩:∃O,w.drewN nq=O:=⟨_,rfl⟩;rw [Q];have R:O.cell? ⟨o,E,none⟩=some (.string s):=by rw [<- Q];exact x0
    have T:O.cell? ⟨i,M,none⟩=some (.string t):=by rw [<- Q];exact S
    have L:=hid Q;clear Q;go_wp2_with fail;go_quiet (fail);obtain⟨u,K⟩:∃u,O.drewN nq=u:=⟨_,rfl⟩;rw [K];have z:Hid (∃k,u=w.drewN k):=hid ⟨_,by rw [<- K,<- L.out,World.drewN_drewN]⟩;clear K L R T;go_wp2_with fail;by_cases Ha:1<c
    ·skip;by_cases P:1<d
     ·skip;have j:Hid (QaR u (some ⟨o,E+1,none⟩) p):=hid (by obtain⟨k,e⟩:=z.out;rw [e];exact V.out);have r:Hid (QaR u (some ⟨i,M+1,none⟩) q):=hid (by obtain⟨k,e⟩:=z.out;rw [e];exact Y.out);go_quiet ((go_at_call 58;exact Calls.quiet_of (y _ _ _ j.drews r.drews)));clear j r y;go_wp2_with fail;go_ret;obtain⟨k,e⟩:=z.out;exact⟨QbB v.symm,_,by rw [e,World.drewN_drewN]⟩
     ·skip;have j:Hid (QaR u (some ⟨o,E+1,none⟩) p):=hid (by obtain⟨k,e⟩:=z.out;rw [e];exact V.out);have r:=hid (show QaR u (some ⟨i,M,none⟩) q from .inl (by have:=I.out;omega));go_quiet ((go_at_call 58;exact Calls.quiet_of (y _ _ _ j.drews r.drews)));clear j r y;go_wp2_with fail;go_ret;obtain⟨k,e⟩:=z.out;exact⟨QbB v.symm,_,by rw [e,World.drewN_drewN]⟩
    ·skip;by_cases P:1<d
     ·skip;have j:=hid (show QaR u (some ⟨o,E,none⟩) p from .inl (by have:=J.out;omega));have r:Hid (QaR u (some ⟨i,M+1,none⟩) q):=hid (by obtain⟨k,e⟩:=z.out;rw [e];exact Y.out);go_quiet ((go_at_call 58;exact Calls.quiet_of (y _ _ _ j.drews r.drews)));clear j r y;go_wp2_with fail;go_ret;obtain⟨k,e⟩:=z.out;exact⟨QbB v.symm,_,by rw [e,World.drewN_drewN]⟩
     ·skip;have j:=hid (show QaR u (some ⟨o,E,none⟩) p from .inl (by have:=J.out;omega));have r:=hid (show QaR u (some ⟨i,M,none⟩) q from .inl (by have:=I.out;omega));go_quiet ((go_at_call 58;exact Calls.quiet_of (y _ _ _ j.drews r.drews)));clear j r y;go_wp2_with fail;go_ret;obtain⟨k,e⟩:=z.out;exact⟨QbB v.symm,_,by rw [e,World.drewN_drewN]⟩
   ·have Z:(s.toList==t.toList)=false:=by simpa using Z
    have v:Hid (QaE (s::p) (t::q)=1):=hid (by simp [QaE,QbE,ltS,eqS,U,Z]);clear V Y;go_enter Tryz.func58,Tryz.ntmps58;go_wp2_with fail;go_quiet (fail);go_wp2_with fail;go_quiet (fail);go_wp2_with fail;go_ret;exact⟨QbB v.symm,_,World.drewN_drewN _ _ _⟩
theorem Qi3 (s t:ByteArray)(w:World):Calls Tryz.prog 96 #[.string s,.string t] w fun e w'=>e=.returned (.int .i64 (QbE s t))/\ w'=w:=by
 have q:∀(s:ByteArray) (w:World),Calls Tryz.prog 118 #[.string s] w fun e w'=>e=.returned (.bool false)/\ w'=w:=fun s w=>by
  have e:(s.toList==s.toList)=true:=by simp
  go_enter Tryz.func118,Tryz.ntmps118;go_wp2_with fail;go_ret;exact⟨rfl,rfl⟩
 by_cases k:Op.bytesLess s.toList t.toList=true
 ·have j:Hid (QbE s t= -1):=hid (by simp [QbE,ltS,k]);go_enter Tryz.func96,Tryz.ntmps96;go_wp2_with (go_at_call 118;refine(q _ _).mono ?_;rintro e w' ⟨rfl,rfl⟩);go_ret;exact⟨QbB j.symm,rfl⟩
 ·have k:Op.bytesLess s.toList t.toList=false:=by simpa using k
  by_cases m:(s.toList==t.toList)=true
  ·have j:Hid (QbE s t=0):=hid (by simp only [QbE,ltS,eqS,k,m];simp);go_enter Tryz.func96,Tryz.ntmps96;go_wp2_with (go_at_call 118;refine(q _ _).mono ?_;rintro e w' ⟨rfl,rfl⟩);go_ret;exact⟨QbB j.symm,rfl⟩
  ·have m:(s.toList==t.toList)=false:=by simpa using m
   have j:Hid (QbE s t=1):=hid (by simp [QbE,ltS,eqS,k,m]);go_enter Tryz.func96,Tryz.ntmps96;go_wp2_with (go_at_call 118;refine(q _ _).mono ?_;rintro e w' ⟨rfl,rfl⟩);go_ret;exact⟨QbB j.symm,rfl⟩
theorem QeO {p:List ByteArray}{k:Nat}(h:k<p.length):p.drop k=gS p k::p.drop (k+1):=by
 rw [List.drop_eq_getElem_cons h];simp [gS,List.getD,h]
theorem QjV {p q:List ByteArray}{k:Nat}(h:k<p.length)(h':q.length<=k):QaE (p.drop k) (q.drop k)=1:=by
 rw [QeO h,List.drop_eq_nil_of_le h'];rfl
theorem QjT {p q:List ByteArray}{k:Nat}(h:p.length<=k)(h':k<q.length):QaE (p.drop k) (q.drop k)= -1:=by
 rw [QeO h',List.drop_eq_nil_of_le h];rfl
theorem QjU {p q:List ByteArray}{k:Nat}(h:p.length<=k)(h':q.length<=k):QaE (p.drop k) (q.drop k)=0:=by
 rw [List.drop_eq_nil_of_le h',List.drop_eq_nil_of_le h];rfl
theorem Qmd {p q:List ByteArray}{k:Nat}(h:k<p.length)(h':k<q.length):QaE (p.drop k) (q.drop k)=if QbE (gS p k) (gS q k)=0 then QaE (p.drop (k+1)) (q.drop (k+1)) else QbE (gS p k) (gS q k):=by
 rw [QeO h,QeO h'];rfl
theorem Qmc (p q:List ByteArray)(a b:Option Addr)(c d:Nat)(w:World)(hp:p.length<=1048576)(hq:q.length<=1048576)(h:QaR w a p)(u:QaR w b q):
  Calls Tryz.prog 115 #[.slice a p.length c,.slice b q.length d] w fun e w'=>e=.returned (.int .i64 (QaE p q))/\ w'=w:=by
 go_enter Tryz.func115,Tryz.ntmps115;go_wp2_with fail;go_loop [11] (fun i=>∃k:Nat,k<=p.length/\ i=.int .i64 (k:Int)/\ k<=q.length/\ Hid (QaE p q=QaE (p.drop k) (q.drop k))) (fun i=>p.length - (intOf i).toNat);case atStart=>exact⟨0,Nat.zero_le _,rfl,Nat.zero_le _,hid rfl⟩
 case round=>
  obtain⟨k,G,rfl,H,m⟩:=hrel;by_cases v:k<p.length
  ·rcases h with h|⟨U,N,rfl,Y,z⟩
   ·omega
   have x0:=z k v;have I:(0:Int)<=(k:Int):=Int.natCast_nonneg _;have J:(k:Int)<(p.length:Int):=by omega
   by_cases r:k<q.length
   ·rcases u with u|⟨V,X,rfl,Z,M⟩
    ·omega
    have Q:=M k r;have K:(k:Int)<(q.length:Int):=by omega
    have A:decide ((q.length:Int)<=(k:Int))=false:=by simp;omega
    have j:=hid (Qmd v r);obtain⟨s,g⟩:∃s,gS p k=s:=⟨_,rfl⟩;obtain⟨t,o⟩:∃t,gS q k=t:=⟨_,rfl⟩;rw [g] at x0;rw [o] at Q;have j:Hid (QaE p q=if QbE s t=0 then QaE (p.drop (k+1)) (q.drop (k+1)) else QbE s t):=hid (by rw [m.out,j.out,g,o]);have E:=hid (Qi3 s t w);obtain⟨x,O⟩:∃x,QbE s t=x:=⟨_,rfl⟩;rw [O] at E j;clear z M g o m O;go_wp2_with fail;refine E.mono ?_;rintro e w' ⟨rfl,rfl⟩;by_cases y:x=0
    ·subst y;have j:Hid (QaE p q=QaE (p.drop (k+1)) (q.drop (k+1))):=hid (by rw [j.out,if_pos rfl]);go_wp2_with fail;go_round;case rel=>exact⟨k+1,v,by go_num,r,j⟩
     case measure=>simp [intOf];omega
    ·have j:Hid (QaE p q=x):=hid (by rw [j.out,if_neg y]);have L:(x !=0)=true:=by simpa using y
     go_wp2_with fail;go_ret;exact⟨QbB j.symm,rfl⟩
   ·have A:decide ((q.length:Int)<=(k:Int))=true:=by simp;omega
    have j:Hid (QaE p q=1):=hid (by rw [m.out];exact QjV v (by omega));clear z m;go_wp2_with fail;go_ret;exact⟨QbB j.symm,rfl⟩
  ·obtain rfl:k=p.length:=by omega
   by_cases r:p.length<q.length
   ·have j:Hid (QaE p q= -1):=hid (by rw [m.out];exact QjT zL r);have A:decide ((p.length:Int)<(q.length:Int))=true:=by simp;omega
    clear h u m;go_wp2_with fail;go_ret;exact⟨QbB j.symm,rfl⟩
   ·have j:Hid (QaE p q=0):=hid (by rw [m.out];exact QjU zL (by omega));have A:decide ((p.length:Int)<(q.length:Int))=false:=by simp;omega
    clear h u m;go_wp2_with fail;go_ret;exact⟨QbB j.symm,rfl⟩
def QaQ (p:List ByteArray):Prop:=1<=p.length/\ p.length<=8/\∀i,i<p.length ->1<=(gS p i).size/\ (gS p i).size<=40
noncomputable def yes (P:Prop):Bool:=@decide P (Classical.propDecidable P)
theorem Qal {P:Prop}(h:P):yes P=true:=by unfold yes;exact @decide_eq_true _ (Classical.propDecidable P) h
theorem Qaj {P:Prop}(h:¬P):yes P=false:=by unfold yes;exact @decide_eq_false _ (Classical.propDecidable P) h
theorem QbP {P:Prop}:yes P=true↔P:=⟨fun h=>by unfold yes at h;exact @of_decide_eq_true _ (Classical.propDecidable P) h,Qal⟩
theorem Qa3 {x y:Bool}(h:x=y):Ending.returned (.bool x)=.returned (.bool y):=by rw [h]
theorem Qfg (p:List ByteArray)(a:Option Addr)(c:Nat)(w:World)(hp:p.length<=1048576)(h:QaR w a p):
  Calls Tryz.prog 25 #[.slice a p.length c] w fun e w'=>e=.returned (.bool (yes (QaQ p)))/\ w'=w:=by
 go_enter Tryz.func25,Tryz.ntmps25;go_wp2_with fail;go_loop [3] (fun i=>∃k:Nat,k<=p.length/\ i=.int .i64 (k:Int)/\ Hid (∀j,j<k ->1<=(gS p j).size/\ (gS p j).size<=40)) (fun i=>p.length - (intOf i).toNat);case atStart=>exact⟨0,Nat.zero_le _,rfl,hid (fun j hj=>by omega)⟩
 case round=>
  obtain⟨k,M,rfl,y⟩:=hrel;by_cases v:k<p.length
  ·rcases h with h|⟨A,U,rfl,E,b⟩
   ·omega
   have x0:=b k v;have O:(0:Int)<=(k:Int):=Int.natCast_nonneg _;have Q:(k:Int)<(p.length:Int):=by omega
   obtain⟨s,o⟩:∃s,gS p k=s:=⟨_,rfl⟩;rw [o] at x0;have z:=hid o;clear b o;by_cases r:(s.size:Int)<1
   ·have g:decide ((s.size:Int)<1)=true:=by simpa using r
    have m:Hid (yes (QaQ p)=false):=hid (Qaj (fun h=>by have:=(h.2.2 k v).1;rw [z.out] at this;omega));go_wp2_with fail;go_ret;exact⟨Qa3 m.symm,rfl⟩
   ·have g:decide ((s.size:Int)<1)=false:=by simpa using r
    by_cases u:(40:Int)<(s.size:Int)
    ·have t:decide ((40:Int)<(s.size:Int))=true:=by simpa using u
     have m:Hid (yes (QaQ p)=false):=hid (Qaj (fun h=>by have:=(h.2.2 k v).2;rw [z.out] at this;omega));go_wp2_with fail;go_ret;exact⟨Qa3 m.symm,rfl⟩
    ·have t:decide ((40:Int)<(s.size:Int))=false:=by simpa using u
     have m:Hid (∀j,j<k+1 ->1<=(gS p j).size/\ (gS p j).size<=40):=hid (fun j hj=>by
      by_cases e:j=k
      ·rw [e,z.out];omega
      ·exact y j (by omega))
     go_wp2_with fail;go_round;case rel=>exact⟨k+1,v,by go_num,m⟩
     case measure=>simp [intOf];omega
  ·obtain rfl:k=p.length:=by omega
   have m:Hid (yes (QaQ p)=decide (1<=p.length/\ p.length<=8)):=hid (by
    by_cases q:1<=p.length/\ p.length<=8
    ·rw [Qal ⟨q.1,q.2,y.out⟩,decide_eq_true q]
    ·rw [Qaj (fun h=>q ⟨h.1,h.2.1⟩),decide_eq_false q])
   clear h y;by_cases r:(1:Int)<=(p.length:Int)
   ·have g:decide ((1:Int)<=(p.length:Int))=true:=by simpa using r
    by_cases u:(p.length:Int)<=8
    ·have t:decide ((p.length:Int)<=8)=true:=by simpa using u
     have m:Hid (yes (QaQ p)=true):=hid (by rw [m.out];exact decide_eq_true (by omega));go_wp2_with fail;go_ret;exact⟨Qa3 m.symm,rfl⟩
    ·have t:decide ((p.length:Int)<=8)=false:=by simpa using u
     have m:Hid (yes (QaQ p)=false):=hid (by rw [m.out];exact decide_eq_false (by omega));go_wp2_with fail;go_ret;exact⟨Qa3 m.symm,rfl⟩
   ·have g:decide ((1:Int)<=(p.length:Int))=false:=by simpa using r
    have m:Hid (yes (QaQ p)=false):=hid (by rw [m.out];exact decide_eq_false (by omega));go_wp2_with fail;go_ret;exact⟨Qa3 m.symm,rfl⟩
theorem Qk2 (p:List ByteArray)(a:Option Addr)(c:Nat)(w:World)(hp:p.length<=1048576)(h:QaR w a p):
  Calls Tryz.prog 113 #[.slice a p.length c] w fun e w'=>e=.returned (.bool (yes (QaQ p)))/\ w'=w:=by
 by_cases q:(p.length:Int)<1
 ·have u:decide ((p.length:Int)<1)=true:=by simpa using q
  have m:Hid (yes (QaQ p)=false):=hid (Qaj (fun h=>by have:=h.1;omega));clear h;go_enter Tryz.func113,Tryz.ntmps113;go_wp2_with fail;go_ret;exact⟨Qa3 m.symm,rfl⟩
 ·have u:decide ((p.length:Int)<1)=false:=by simpa using q
  by_cases r:(8:Int)<(p.length:Int)
  ·have v:decide ((8:Int)<(p.length:Int))=true:=by simpa using r
   have m:Hid (yes (QaQ p)=false):=hid (Qaj (fun h=>by have:=h.2.1;omega));clear h;go_enter Tryz.func113,Tryz.ntmps113;go_wp2_with fail;go_ret;exact⟨Qa3 m.symm,rfl⟩
  ·have v:decide ((8:Int)<(p.length:Int))=false:=by simpa using r
   go_enter Tryz.func113,Tryz.ntmps113;go_wp2_with fail;clear u v;go_loop [15] (fun i=>∃k:Nat,k<=p.length/\ i=.int .i64 (k:Int)/\ Hid (∀j,j<k ->1<=(gS p j).size/\ (gS p j).size<=40)) (fun i=>p.length - (intOf i).toNat);case atStart=>exact⟨0,Nat.zero_le _,rfl,hid (fun j hj=>by omega)⟩
   case round=>
    obtain⟨k,E,rfl,z⟩:=hrel;by_cases y:k<p.length
    ·rcases h with h|⟨b,Q,rfl,A,o⟩
     ·omega
     have x0:=o k y;have M:(0:Int)<=(k:Int):=Int.natCast_nonneg _;have O:(k:Int)<(p.length:Int):=by omega
     obtain⟨s,t⟩:∃s,gS p k=s:=⟨_,rfl⟩;rw [t] at x0;have g:=hid t;clear o t;by_cases q:(s.size:Int)<1
     ·have u:decide ((s.size:Int)<1)=true:=by simpa using q
      have m:Hid (yes (QaQ p)=false):=hid (Qaj (fun h=>by have:=(h.2.2 k y).1;rw [g.out] at this;omega));go_wp2_with fail;go_ret;exact⟨Qa3 m.symm,rfl⟩
     ·have u:decide ((s.size:Int)<1)=false:=by simpa using q
      by_cases r:(40:Int)<(s.size:Int)
      ·have v:decide ((40:Int)<(s.size:Int))=true:=by simpa using r
       have m:Hid (yes (QaQ p)=false):=hid (Qaj (fun h=>by have:=(h.2.2 k y).2;rw [g.out] at this;omega));go_wp2_with fail;go_ret;exact⟨Qa3 m.symm,rfl⟩
      ·have v:decide ((40:Int)<(s.size:Int))=false:=by simpa using r
       have m:Hid (∀j,j<k+1 ->1<=(gS p j).size/\ (gS p j).size<=40):=hid (fun j hj=>by
        by_cases e:j=k
        ·rw [e,g.out];omega
        ·exact z j (by omega))
       go_wp2_with fail;go_round;case rel=>exact⟨k+1,y,by go_num,m⟩
       case measure=>simp [intOf];omega
    ·obtain rfl:k=p.length:=by omega
     have m:Hid (yes (QaQ p)=true):=hid (Qal ⟨by omega,by omega,z.out⟩);clear h z;go_wp2_with fail;go_ret;exact⟨Qa3 m.symm,rfl⟩
open Go.Maps
def QaT (x y:Int):Int:=if x<y then -1 else if y<x then 1 else 0
theorem QbY (x y:Int)(w:World):Calls Tryz.prog 97 #[.int .i64 x,.int .i64 y] w fun e w'=>e=.returned (.int .i64 (QaT x y))/\ w'=w:=by
 by_cases k:x<y
 ·have j:Hid (QaT x y= -1):=if_pos k;go_enter Tryz.func97,Tryz.ntmps97;go_wp2;go_ret;exact⟨QgF j.symm,rfl⟩
 ·by_cases m:y<x
  ·have j:Hid (QaT x y=1):=by unfold Hid QaT;rw [if_neg k,if_pos m]
   go_enter Tryz.func97,Tryz.ntmps97;go_wp2;go_ret;exact⟨QgF j.symm,rfl⟩
  ·have j:Hid (QaT x y=0):=by unfold Hid QaT;rw [if_neg k,if_neg m]
   go_enter Tryz.func97,Tryz.ntmps97;go_wp2;go_ret;exact⟨QgF j.symm,rfl⟩
theorem Qlk (f t q:Int)(w:World):Calls Tryz.prog 142 #[.agg #[.int .i64 f,.int .i64 t],.int .i64 q] w fun e w'=>e=.returned (.int .i64 (QaT t q))/\ Below w.heap.size w w':=by
 go_enter Tryz.func142,Tryz.ntmps142;go_wp2_with fail;refine(QbY t q _).mono ?_;rintro e w1 ⟨rfl,rfl⟩;go_wp2_with fail;go_ret;exact⟨rfl,zO _ _⟩
theorem Qiw (a:Option Addr)(n c:Nat)(f t:Nat ->Int)(q:Int)(w:World)(hn:n<=1000000)(h:SS w a n f t)(hm:∀i j,i<j ->j<n ->t i<t j):
  Calls Tryz.prog 141 #[.slice a n c,.int .i64 q,.func (.func 142) #[] #[]] w fun e w'=>∃(i:Nat) (b:Bool),e=.returned (.tuple #[.int .i64 i,.bool b])/\ i<=n/\ (∀j,j<i ->t j<q)/\ (∀j,i<=j ->j<n ->q<=t j)/\ Below w.heap.size w w':=by
 go_enter Tryz.func141,Tryz.ntmps141;go_wp2_with fail;go_loopw [9,10] (fun vi vj wr=>∃i j:Nat,i<=j/\ j<=n/\ vi=.int .i64 i/\ vj=.int .i64 j/\ (∀k,k<i ->t k<q)/\ (∀k,j<=k ->k<n ->q<=t k)/\ Below w.heap.size w wr) (fun vi vj _=>(intOf vj).toNat - (intOf vi).toNat);case atStart=>exact⟨0,n,Nat.zero_le _,Nat.le_refl _,rfl,rfl,fun k hk=>by omega,fun k h1 h2=>by omega,zI⟩
 case round=>
  obtain⟨i,j,L,I,rfl,rfl,M,E,r⟩:=hrel;have Q:=hid M;have O:=hid E;have V:=hid hm;have z:=hid r;rcases h with h|⟨b,off,rfl,A,u⟩
  ·have G:i=0:=by omega
   have H:j=0:=by omega
   subst h G H;clear M E r hm;go_wp2_with fail;go_ret2;exact⟨0,false,rfl,by omega,fun k hk=>by omega,fun k _ hk=>by omega,z.out⟩
  by_cases X:i<j
  ·obtain⟨m,J⟩:∃m:Nat,m=(i+j)/2:=⟨_,rfl⟩;have Y:((i:Int)+(j:Int))/2=(m:Int):=by omega
   have o:=(r.cell (p:=⟨b,off+m*2,none⟩) A).trans (u m (by omega)).1;have s:=(r.cell (p:=⟨b,off+m*2+1,none⟩) A).trans (u m (by omega)).2;have B:i<=m:=by omega
   have C:m<j:=by omega
   clear M E r hm u J;go_wp2_with fail;refine(Qlk (f m) (t m) q _).mono ?_;rintro e K ⟨rfl,v⟩;have g:=hid (Qab z.out v);clear v;by_cases y:t m<q
   ·rw [show QaT (t m) q= -1 from if_pos y];have U:Hid (∀k,k<m+1 ->t k<q):=fun k hk=>by
     by_cases e:k=m
     ·subst e;exact y
     ·have:=V k m (by omega) (by omega);omega
    clear o s y Y;go_wp2_with fail;go_roundw;case rel=>exact⟨m+1,j,by omega,I,by go_num,rfl,U.out,O.out,g.out⟩
    case measure=>simp [intOf];omega
   ·have Z:0<=QaT (t m) q:=by unfold QaT;rw [if_neg y];split<;>omega
    generalize QaT (t m) q=cv at Z;have U:Hid (∀k,m<=k ->k<n ->q<=t k):=fun k h1 h2=>by
     by_cases e:k=m
     ·subst e;omega
     ·have:=V m k (by omega) (by omega);omega
    clear o s y Y;go_wp2_with fail;go_roundw;case rel=>exact⟨i,m,by omega,by omega,rfl,rfl,Q.out,U.out,g.out⟩
    case measure=>simp [intOf];omega
  ·obtain rfl:i=j:=by omega
   clear M E hm;by_cases N:i<n
   ·have o:=(r.cell (p:=⟨b,off+i*2,none⟩) A).trans (u i (by omega)).1;have s:=(r.cell (p:=⟨b,off+i*2+1,none⟩) A).trans (u i (by omega)).2;clear u r;go_wp2_with fail;refine(Qlk (f i) (t i) q _).mono ?_;rintro e K ⟨rfl,v⟩;have g:=hid (Qab z.out v);clear v o s;generalize QaT (t i) q=cv;go_wp2_with fail;go_ret2;exact⟨i,cv==0,rfl,by omega,Q.out,O.out,g.out⟩
   ·clear u r;go_wp2_with fail;go_ret2;exact⟨i,false,rfl,by omega,Q.out,O.out,z.out⟩
def inB (l:List (Int×Int))(f t:Int):Bool:=l.any fun p=>decide (p.1<=f/\ t<=p.2)
theorem Qlm {l:List (Int×Int)}(h:Srt l)(f t:Int)(i:Nat)(hi:i<=l.length)(hlo:∀j,j<i ->(l.getD j (0,0)).2<t)(hhi:∀j,i<=j ->j<l.length ->t<=(l.getD j (0,0)).2):
  inB l f t=(decide (i<l.length) && decide ((l.getD i (0,0)).1<=f)):=by
 rw [Bool.eq_iff_iff];simp only [inB,List.any_eq_true,decide_eq_true_iff,Bool.and_eq_true];constructor
 ·rintro⟨p,y,k,r⟩;obtain⟨j,u,rfl⟩:=List.getElem_of_mem y;have m:l.getD j (0,0)=l[j]:=by simp [List.getD,u]
  have z:i<=j:=by
   by_cases v:j<i
   ·have:=hlo j v;rw [m] at this;omega
   ·omega
  refine⟨by omega,?_⟩;by_cases e:i=j
  ·subst e;rw [m];exact k
  ·have:=Qfm h (show i<j by omega) u;rw [m] at this;omega
 ·rintro⟨k,r⟩;have q:l.getD i (0,0)=l[i]:=by simp [List.getD,k]
  refine⟨l[i],List.getElem_mem _,?_,?_⟩
  ·rw [<- q];exact r
  ·rw [<- q];exact hhi i zL k
theorem Qnq {w:World}{bm n:Nat}{D:DataW Value}{G:Int ->Value}{L:Int ->List (Int×Int)}(h:QaY w bm n D G L)(r f t:Int)(hr:(Lit.int .i64 r).wf=true)(hs:Srt (L r))(hl:(L r).length<=1000000):
  Calls Tryz.prog 114 #[.map (some bm),.int .i64 r,.agg #[.int .i64 f,.int .i64 t]] w fun e w'=>e=.returned (.bool (inB (L r) f t))/\ Below w.heap.size w w':=by
 obtain⟨k,u⟩:∃k,w.alloc (.cells #[.int .i64 f,.int .i64 t] 148)=k:=⟨_,rfl⟩;have z:Below w.heap.size w k:=by rw [<- u];exact zO _ _
 have z0:k.heap.size=w.heap.size+1:=by rw [<- u];simp
 have x0:k.cell? ⟨w.heap.size,0,none⟩=some (.int .i64 f):=by rw [<- u];simp
 have N:k.cell? ⟨w.heap.size,1,none⟩=some (.int .i64 t):=by rw [<- u];simp
 have O:=h.below z;have Y:=O.look r hr;have o:=O.rows r;obtain⟨a,c,e,J,Ha⟩:∃a c,G r=.slice a (L r).length c/\ SS k a (L r).length (fun i=>((L r).getD i (0,0)).1) (fun i=>((L r).getD i (0,0)).2)/\ ((L r).length≠0 ->∃g,a=some ⟨g,0,none⟩):=by
  rcases o.2 with ⟨e,M⟩|⟨g,cap,F,e,_⟩
  ·exact⟨none,0,by rw [e,M],.inl M,fun h=>absurd M h⟩
  ·exact⟨_,cap,e,by rw [e] at o;exact QhC o rfl,fun _=>⟨g,rfl⟩⟩
 rw [e] at Y;have y:=hid J;have A:=hid (Qlm hs f t);have E:Hid (∀i j,i<j ->j<(L r).length ->(fun i=>((L r).getD i (0,0)).2) i<(fun i=>((L r).getD i (0,0)).2) j):=fun i j hij hj=>by
  have:=Qfm hs hij hj;show ((L r).getD i (0,0)).2<((L r).getD j (0,0)).2;omega
 clear e o O h hs J;generalize Hb:(L r).length=m at*;go_enter Tryz.func114,Tryz.ntmps114;go_wp2_with fail;try rw [u]
 refine(Qiw a m c _ _ t _ (by omega) y.out E.out).mono ?_;rintro e K ⟨i,P,rfl,C,Z,U,q⟩;clear u;have s:=hid (A i C Z U);have H:=(q.cell (p:=⟨w.heap.size,0,none⟩) (show w.heap.size<k.heap.size by omega)).trans x0;have b:=hid (Qab z q);by_cases V:i<m
 ·have B:∃g off,a=some ⟨g,off,none⟩/\ g<K.heap.size/\ K.cell? ⟨g,off+i*2,none⟩=some (.int .i64 ((L r).getD i (0,0)).1):=by
   rcases y.out with h|⟨g,off,rfl,Q,X⟩
   ·omega
   ·exact⟨g,off,rfl,Nat.lt_of_lt_of_le Q q.size,(q.cell (p:=⟨g,off+i*2,none⟩) Q).trans (X i V).1⟩
  obtain⟨g,off,rfl,Q,I⟩:=B;have T:(0:Int)<=(i:Int):=Int.natCast_nonneg _;have W:(i:Int)<(m:Int):=by omega
  generalize R:((L r).getD i (0,0)).1=fi at*;clear Z U q x0 N Y y E A z;cases hle:decide (fi<=f) with
  | false=>
   have v:Hid (inB (L r) f t=false):=by unfold Hid;rw [s.out,hle];simp
   go_wp2_with fail;refine zR (S:=fun w'=>w'.cell? ⟨w.heap.size,0,none⟩=some (.int .i64 f)/\ w'.cell? ⟨g,off+i*2,none⟩=some (.int .i64 fi)) ⟨H,I⟩ (fun qh=> ?_);refine tZ 0 20 ?_;refine tZ 1 21 ?_;refine tZ 2 22 ?_;refine tZ 3 23 ?_;refine tZ 4 24 ?_;refine tZ 5 25 ?_;refine tZ 6 26 ?_;refine tZ 7 27 ?_;refine tZ 8 28 ?_;refine tZ 9 29 ?_;refine tZ 10 30 ?_;refine tZ 11 31 ?_;refine tZ 12 32 ?_;refine tZ 13 33 ?_;refine tZ 14 6 ?_;refine zD ?_;go_wp2_with fail;go_ret;exact⟨QbA v.symm,b.drew⟩
  | true=>
   have v:Hid (inB (L r) f t=true):=by unfold Hid;rw [s.out,hle];simp [V]
   go_wp2_with fail;refine zR (S:=fun w'=>w'.cell? ⟨w.heap.size,0,none⟩=some (.int .i64 f)/\ w'.cell? ⟨g,off+i*2,none⟩=some (.int .i64 fi)) ⟨H,I⟩ (fun qh=> ?_);refine tZ 0 20 ?_;refine tZ 1 21 ?_;refine tZ 2 22 ?_;refine tZ 3 23 ?_;refine tZ 4 24 ?_;refine tZ 5 25 ?_;refine tZ 6 26 ?_;refine tZ 7 27 ?_;refine tZ 8 28 ?_;refine tZ 9 29 ?_;refine tZ 10 30 ?_;refine tZ 11 31 ?_;refine tZ 12 32 ?_;refine tZ 13 33 ?_;refine tZ 14 6 ?_;refine zD ?_;go_wp2_with fail;go_ret;exact⟨QbA v.symm,b.drew⟩
 ·have v:Hid (inB (L r) f t=false):=by unfold Hid;rw [s.out];simp [V]
  have Hc:decide ((i:Int)<(m:Int))=false:=by simp;omega
  have Hd:decide (i<m)=false:=by simp;omega
  clear Z U q x0 N Y y E A z;go_wp2_with fail;refine zR (S:=fun w'=>w'.cell? ⟨w.heap.size,0,none⟩=some (.int .i64 f)) H (fun qh=> ?_);refine tZ 0 20 ?_;refine tZ 1 21 ?_;refine tZ 2 22 ?_;refine tZ 3 23 ?_;refine tZ 4 24 ?_;refine uZ 5 25 ?_;refine uZ 6 26 ?_;refine uZ 7 27 ?_;refine uZ 8 28 ?_;refine uZ 9 29 ?_;refine uZ 10 30 ?_;refine uZ 11 31 ?_;refine uZ 12 32 ?_;refine tZ 13 33 ?_;refine tZ 14 6 ?_;refine zD ?_;go_wp2_with fail;go_ret;exact⟨QbA v.symm,b.drew⟩
theorem Qpj {w:World}{bm n:Nat}{D:DataW Value}{G:Int ->Value}{L:Int ->List (Int×Int)}(h:QaY w bm n D G L)(r q:Int)(hr:(Lit.int .i64 r).wf=true)(hs:Srt (L r))(hl:(L r).length<=1000000):
  Calls Tryz.prog 90 #[.map (some bm),.agg #[.int .i64 r,.int .i64 q]] w fun e w'=>e=.returned (.bool (inB (L r) q q))/\ Below w.heap.size w w':=by
 have j:Below w.heap.size w (w.alloc (.cells #[.int .i64 r,.int .i64 q] 67)):=zO _ _;have k:=hid (Qnq (h.below j) r q q hr hs hl);have u:=hid j;clear j h hs;go_enter Tryz.func90,Tryz.ntmps90;go_wp2_with fail;refine k.mono ?_;rintro e w1 ⟨rfl,m⟩;have v:=hid (Qab u.out m);clear m k;go_wp2_with fail;go_ret;exact⟨rfl,v.out⟩
def Qco (R F T:Nat ->Int)(r f t:Int):Nat ->Bool
 | 0=>false
 | k+1=>Qco R F T r f t k||decide (R k=r/\ F k<=f/\ t<=T k)
theorem Qgu (R F T:Nat ->Int)(r f t:Int)(k:Nat):inB (Lk R F T k r) f t=Qco R F T r f t k:=by
 induction k with
 | zero=>rfl
 | succ k ih=>
  show inB (upd (Lk R F T k) (R k) (Lk R F T k (R k)++[(F k,T k)]) r) f t=(Qco R F T r f t k||decide (R k=r/\ F k<=f/\ t<=T k));by_cases e:r=R k
  ·subst e;rw [Qay,<- ih];simp [inB]
  ·rw [Qao _ _ e,ih];have:decide (R k=r/\ F k<=f/\ t<=T k)=false:=by simp;intro h;exact absurd h.symm e
   rw [this];simp
end Go.Proofs.YtdeolligikjieaaGreatDoor
