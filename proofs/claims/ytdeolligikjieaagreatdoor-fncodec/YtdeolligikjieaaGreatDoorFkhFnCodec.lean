import Derived.Test.YtdeolligikjieaaGreatDoorFkg21
import Derived.Deep.CutRange
set_option linter.unusedVariables false
set_option linter.unusedSimpArgs false
set_option maxRecDepth 100000
set_option maxHeartbeats 40000000
namespace Go.Proofs.YtdeolligikjieaaGreatDoor
open Go.ChangeShapes Go.WideShapes Go.ChangeAt Go.RowKit Go.Deep
theorem fnCodecWalk (w:World)(a:Option Addr)(n c:Nat)(f:Nat ->Int)(aT aS aL aE:Addr)(hn:n<=9223372036854775807)(hc:n<=c)(hs:Seg w a n f)(hf:Byt f)(hE:QcK w w.heap.size aT aS aL aE):
  Calls Tryz.prog 3 #[.slice a n c] w fun e w'=>e=.returned (.bool true)/\ Below w.heap.size w w':=by
 by_cases h1:n<=1048576
 ·have i1:¬(1048576:Int)<(n:Int):=by omega
  obtain⟨A,B,Ha⟩:=Qi7 f hf n hn;have Hq:=hid (Ha.2 a c w hc hs);have GA:Hid (A.Sm/\∀i,LfI (gL A.l i)):=hid ⟨Ha.1.1.sm,Ha.1.1.li⟩;have GB:Hid (B.Sm/\∀i,LfI (gL B.l i)):=hid ⟨Ha.1.2.sm,Ha.1.2.li⟩;have HE:=hid hE;clear Ha hs hf hE;go_enter Tryz.func3,Tryz.ntmps3;go_wp2_with fail;refine Hq.mono ?_;rintro e r ⟨E,m,M,g,V,O,G,Q,rfl,s1,s2,b1⟩;have H0:=hid s1.cp;have H1:=hid s2.cp;have j:=hid (Ats.box2 (w:=w) (L:=[]) (fun v hv=>by simp at hv) b1 ⟨s1.at.1,s1.at.2⟩ ⟨s2.at.1,s2.at.2⟩ m g O Q);have h:=hid (Qab b1 (Qak r (.cells #[.slice E A.l.length m,.slice M A.n g] 28) (.cells #[.slice V B.l.length O,.slice G B.n Q] 28)));obtain⟨U1,Hm⟩:∃U,(r.alloc (.cells #[.slice E A.l.length m,.slice M A.n g] 28)).alloc (.cells #[.slice V B.l.length O,.slice G B.n Q] 28)=U:=⟨_,rfl⟩;rw [Hm] at j h;obtain⟨H,ka,Hu⟩:∃z k,psZ A.R A.F A.T A.n A.l=(z,k):=⟨_,_,rfl⟩;obtain⟨C,kb,Hv⟩:∃z k,psZ B.R B.F B.T B.n B.l=(z,k):=⟨_,_,rfl⟩;have Hc:=hid Hu;have Hf:=hid Hv;clear s1 s2 b1 Hq Hu Hv;have q:=j ⟨r.heap.size,E,M,m,g,A⟩ (by simp);have I:=q.1.c0;have J:=q.1.c1;have u:=j ⟨r.heap.size+1,V,G,O,Q,B⟩ (by simp);have N:=u.1.c0;have X:=u.1.c1;have p:=hid (QnL (a:=E) (x:=M) (c:=m) (d:=g) (w:=U1) GA.1 H0.out Hc.out q.2);clear q u;go_wp2_with fail;try rw [Hm]
  clear Hm;refine p.mono ?_;rintro e v2 ⟨p2,q2,rfl,H3,Gb,H8,b2⟩;have s:=hid (j.below b2);have o:=hid (Qab h.out b2);clear H3 Gb H8 b2 p I J N X j h;have j:=s;have h:=o;clear s o;have q:=j ⟨r.heap.size,E,M,m,g,A⟩ (by simp);have I:=q.1.c0;have J:=q.1.c1;have u:=j ⟨r.heap.size+1,V,G,O,Q,B⟩ (by simp);have N:=u.1.c0;have X:=u.1.c1;have p:=hid (QnL (a:=V) (x:=G) (c:=O) (d:=Q) (w:=v2) GB.1 H1.out Hf.out u.2);clear q u;go_wp2_with fail;refine p.mono ?_;rintro e v3 ⟨p3,q3,rfl,H4,Gc,H9,b3⟩;have s:=hid (j.below b3);have o:=hid (Qab h.out b3);clear H4 Gc H9 b3 p I J N X j h;have j:=s;have h:=o;clear s o;have q:=j ⟨r.heap.size,E,M,m,g,A⟩ (by simp);have I:=q.1.c0;have J:=q.1.c1;have u:=j ⟨r.heap.size+1,V,G,O,Q,B⟩ (by simp);have N:=u.1.c0;have X:=u.1.c1;have p:=hid (QnK (a:=E) (x:=M) (c:=m) (d:=g) (w:=v3) GA.out Hc.out q.2);clear q u;go_wp2_with fail;refine p.mono ?_;rintro e v4 ⟨p4,q4,rfl,Ht,Hx,Hw,b4⟩;have s:=hid (j.below b4);have o:=hid (Qab h.out b4);have HX:Hid ((H.length<=q4/\ q4<=9223372036854775807)/\ Seg v4 p4 H.length (fun i=>H.getD i 0)/\∀y,p4=some y ->y.block<v4.heap.size):=hid ⟨Ht,Hx,Hw⟩;clear Ht Hx Hw b4 p I J N X j h;have j:=s;have h:=o;clear s o;have q:=j ⟨r.heap.size,E,M,m,g,A⟩ (by simp);have I:=q.1.c0;have J:=q.1.c1;have u:=j ⟨r.heap.size+1,V,G,O,Q,B⟩ (by simp);have N:=u.1.c0;have X:=u.1.c1;have p:=hid (QnK (a:=V) (x:=G) (c:=O) (d:=Q) (w:=v4) GB.out Hf.out u.2);clear q u;go_wp2_with fail;refine p.mono ?_;rintro e v5 ⟨p5,q5,rfl,H5,Hy,Ga,b5⟩;have s:=hid (j.below b5);have o:=hid (Qab h.out b5);have HY:Hid (Seg v5 p5 C.length (fun i=>C.getD i 0)):=hid Hy;have Hb:Hid ((H.length<=q4/\ q4<=9223372036854775807)/\ Seg v5 p4 H.length (fun i=>H.getD i 0)/\∀y,p4=some y ->y.block<v5.heap.size):=hid ⟨HX.1,HX.2.1.below b5,fun y hy=>Nat.lt_of_lt_of_le (HX.2.2 y hy) b5.size⟩;clear H5 Hy Ga b5 p I J N X j h HX;have j:=s;have h:=o;clear s o;have Gi:(ka !=ka)=false:=by simp
  have Gj:(kb !=kb)=false:=by simp
  by_cases h0:ka=0
  ·subst h0;have H2:((0:Int)==0)=true:=by simp
   have q:=j ⟨r.heap.size,E,M,m,g,A⟩ (by simp);have I:=q.1.c0;have J:=q.1.c1;have u:=j ⟨r.heap.size+1,V,G,O,Q,B⟩ (by simp);have N:=u.1.c0;have X:=u.1.c1;have p:=hid (Qo2 (c:=q4) (w:=v5) (S:=A) Hc.out Hb.1 Hb.2.1 (HE.below h.out) h.size Hb.2.2);obtain⟨Z,hZ⟩:∃Z,bkS A=Z:=⟨_,rfl⟩;have HZ:=hid hZ;rw [hZ] at p;clear q u hZ;go_wp2_with fail;refine p.mono ?_;rintro e v6 ⟨a6,P,x6,W,rfl,s6,b6⟩;have Hs:Below v6.heap.size v6 (v6.alloc (.cells #[.slice a6 Z.l.length P,.slice x6 Z.n W] 28)):=zO _ _;have s:=hid (j.box b6 s6 P W);have Hg:=Qab b6 Hs;have o:=hid (Qab h.out Hg);have He:Hid (Seg (v6.alloc (.cells #[.slice a6 Z.l.length P,.slice x6 Z.n W] 28)) p4 H.length (fun i=>H.getD i 0)/\ Seg (v6.alloc (.cells #[.slice a6 Z.l.length P,.slice x6 Z.n W] 28)) p5 C.length (fun i=>C.getD i 0)):=hid ⟨Hb.2.1.below Hg,HY.below Hg⟩;obtain⟨U7,Hn⟩:∃U,v6.alloc (.cells #[.slice a6 Z.l.length P,.slice x6 Z.n W] 28)=U:=⟨_,rfl⟩;rw [Hn] at s o He;clear s6 b6 Hs Hg p I J N X j h Hb HY;have j:=s;have h:=o;clear s o;have q:=j ⟨r.heap.size,E,M,m,g,A⟩ (by simp);have I:=q.1.c0;have J:=q.1.c1;have u:=j ⟨r.heap.size+1,V,G,O,Q,B⟩ (by simp);have N:=u.1.c0;have X:=u.1.c1;have Hh:=j ⟨v6.heap.size,a6,x6,P,W,Z⟩ (by simp);have H6:=Hh.1.c0;have H7:=Hh.1.c1;have p:Hid (Calls Tryz.prog 8 #[.agg #[.slice a6 Z.l.length P,.slice x6 Z.n W],.agg #[.slice E A.l.length m,.slice M A.n g]] U7 fun e w'=>e=.returned (.bool true)/\ Below U7.heap.size U7 w'):=hid (by
    have:=Qj0 a6 x6 E M P W m g Z A U7 (by rw [<- HZ.out];exact Qor GA.1) GA.1 Hh.2 q.2;rw [Qal (by rw [<- HZ.out];exact Qoq A)] at this;exact this)
   clear q u Hh;go_wp2_with fail;try rw [Hn]
   clear Hn;refine p.mono ?_;rintro e D ⟨rfl,b8⟩;have s:=hid (j.below b8);have o:=hid (Qab h.out b8);have Hk:Hid (Seg D p4 H.length (fun i=>H.getD i 0)/\ Seg D p5 C.length (fun i=>C.getD i 0)):=hid ⟨He.1.below b8,He.2.below b8⟩;clear b8 p I J N X H6 H7 j h He;have j:=s;have h:=o;clear s o;by_cases h2:kb=0
   ·subst h2;have Hi:Hid (Byt (fun i=>H.getD i 0)/\ Byt (fun i=>C.getD i 0)):=hid ⟨(QhX Hc.out).2,(QhX Hf.out).2⟩;have Hd:=hid (QmJ Hc.out Hf.out);obtain⟨ta,Ho⟩:∃t,Qeb (fun i=>H.getD i 0) 0 H.length=t:=⟨_,rfl⟩;obtain⟨tb,Hp⟩:∃t,Qeb (fun i=>C.getD i 0) 0 C.length=t:=⟨_,rfl⟩;have Hj:Hid (∀w',Below D.heap.size D w' ->((convert 22 9 (.slice p4 H.length q4)).run Tryz.prog w'=.ok (.string ta) w'/\ (convert 22 9 (.slice p5 C.length q5)).run Tryz.prog w'=.ok (.string tb) w'/\ w'.cell? ⟨r.heap.size,0,none⟩=some (.slice E A.l.length m)/\ w'.cell? ⟨r.heap.size,1,none⟩=some (.slice M A.n g)/\ w'.cell? ⟨r.heap.size+1,0,none⟩=some (.slice V B.l.length O)/\ w'.cell? ⟨r.heap.size+1,1,none⟩=some (.slice G B.n Q))):=hid (fun w' b=>by
     have hA:=j.below b ⟨r.heap.size,E,M,m,g,A⟩ (by simp);have hB:=j.below b ⟨r.heap.size+1,V,G,O,Q,B⟩ (by simp);have e1:=Ql8 (Hk.1.below b) Hi.1 q4;have e2:=Ql8 (Hk.2.below b) Hi.2 q5;rw [Ho] at e1;rw [Hp] at e2;exact⟨e1,e2,hA.1.c0,hA.1.c1,hB.1.c0,hB.1.c1⟩)
    rw [Ho,Hp] at Hd;obtain⟨Y,hY⟩:∃Y,yes (EqS A B)=Y:=⟨_,rfl⟩;rw [hY] at Hd;have Hr:Hid (∀w',Below D.heap.size D w' ->Calls Tryz.prog 8 #[.agg #[.slice E A.l.length m,.slice M A.n g],.agg #[.slice V B.l.length O,.slice G B.n Q]] w' fun e w2=>e=.returned (.bool Y)/\ Below w'.heap.size w' w2):=hid (fun w' b=>by
     have hA:=j.below b ⟨r.heap.size,E,M,m,g,A⟩ (by simp);have hB:=j.below b ⟨r.heap.size+1,V,G,O,Q,B⟩ (by simp);have:=Qj0 E M V G m g O Q A B w' GA.1 GB.1 hA.2 hB.2;rw [hY] at this;exact this)
    have Gg:=Hd.out;have Gh:(Y==Y)=true:=by simp
    clear Ho Hp hY Hi Hk Hd;go_wp2_with fail;refine zR (S:=fun w'=>(convert 22 9 (.slice p4 H.length q4)).run Tryz.prog w'=.ok (.string ta) w'/\ (convert 22 9 (.slice p5 C.length q5)).run Tryz.prog w'=.ok (.string tb) w'/\ w'.cell? ⟨r.heap.size,0,none⟩=some (.slice E A.l.length m)/\ w'.cell? ⟨r.heap.size,1,none⟩=some (.slice M A.n g)/\ w'.cell? ⟨r.heap.size+1,0,none⟩=some (.slice V B.l.length O)/\ w'.cell? ⟨r.heap.size+1,1,none⟩=some (.slice G B.n Q)) (Hj _ zI.drew) (fun qh=> ?_);refine tZ 0 66 ?_;refine tZ 1 67 ?_;refine tZ 2 68 ?_;refine tZ 3 69 ?_;refine tZ 4 70 ?_;refine tZ 5 71 ?_;refine tZ 6 72 ?_;refine tZ 7 73 ?_;refine tZ 8 74 ?_;refine tZ 9 75 ?_;refine tZ 10 76 ?_;refine tZ 11 77 ?_;refine tZ 12 78 ?_;refine tZ 13 79 ?_;refine cZ 14 ?_;intro K hK;go_simp;refine(Hr _ zI.drew).mono ?_;rintro e v9 ⟨rfl,b9⟩;have Hl:Below D.heap.size D v9:=Qab zI.drew b9;refine hK.out _ _ (Hj _ Hl) (fun qh=> ?_);clear hK K;try simp only [zP]
    refine tZ 15 81 ?_;refine tZ 16 82 ?_;refine tZ 17 2 ?_;refine zD ?_;have Hz:=hid (Qab h.out Hl);clear qh b9 Hl Hj Hr;go_wp2_with fail;go_ret;exact⟨rfl,Hz.out⟩
   ·have Ge:(kb !=0)=true:=by simpa using h2
    have Gf:¬kb=0:=h2;go_wp2_with fail;refine zR (S:=fun w'=>Below D.heap.size D w') zI.drew (fun qh=> ?_);refine tZ 0 66 ?_;refine tZ 1 67 ?_;refine tZ 2 68 ?_;refine tZ 3 69 ?_;refine tZ 4 70 ?_;refine tZ 5 71 ?_;refine tZ 6 72 ?_;refine uZ 7 73 ?_;refine uZ 8 74 ?_;refine uZ 9 75 ?_;refine uZ 10 76 ?_;refine uZ 11 77 ?_;refine uZ 12 78 ?_;refine uZ 13 79 ?_;refine uZ 14 80 ?_;refine uZ 15 81 ?_;refine tZ 16 82 ?_;refine tZ 17 2 ?_;refine zD ?_;go_wp2_with fail;go_ret;exact⟨rfl,Qab h.out zI.drew⟩
  ·have H2:(ka==0)=false:=by simpa using h0
   have Gd:(ka !=0)=true:=by simpa using h0
   go_wp2_with fail;refine zR (S:=fun w'=>Below v5.heap.size v5 w') zI.drew (fun qh=> ?_);refine tZ 0 66 ?_;refine tZ 1 67 ?_;refine tZ 2 68 ?_;refine uZ 3 69 ?_;refine uZ 4 70 ?_;refine tZ 5 71 ?_;refine tZ 6 72 ?_;refine uZ 7 73 ?_;refine uZ 8 74 ?_;refine uZ 9 75 ?_;refine uZ 10 76 ?_;refine uZ 11 77 ?_;refine uZ 12 78 ?_;refine uZ 13 79 ?_;refine uZ 14 80 ?_;refine uZ 15 81 ?_;refine tZ 16 82 ?_;refine tZ 17 2 ?_;refine zD ?_;go_wp2_with fail;go_ret;exact⟨rfl,Qab h.out zI.drew⟩
 ·have i1:(1048576:Int)<(n:Int):=by omega
  go_enter Tryz.func3,Tryz.ntmps3;go_wp2_with fail;go_ret;exact⟨rfl,zI⟩
end Go.Proofs.YtdeolligikjieaaGreatDoor
namespace Go.Proofs.YtdeolligikjieaaGreatDoor.fnCodec
open Go.ChangeShapes Go.WideShapes Go.ChangeAt Go.RowKit
theorem openBytesC {H:Type}{enc:TypeId×Value ->H}{W:World}{r:Reach}{b0 base:Nat}{held:Bool}{v:Value}{d:DataW H}{p:List MemPlace}
  (hval:Value.okWide Tryz.prog W r b0 22 v) (h:DataW.Trod enc Tryz.prog W base (fun _=>true) held 22 v d p):
  ∃a n c f,v=.slice a n c/\ n<=9223372036854775807/\ Seg W a n f/\ Byt f/\ n<=c:=by
 obtain⟨q,y,k,rfl⟩:=okWide_slice Tryz.underlying22 hval;obtain⟨j,g⟩:∃j:List Int,(q=none/\ y=0/\ k=0/\ j=[]) \/∃x,q=some x/\ y<=k/\ k<=maxLen/\ j.length=k/\ (∀i,i<j.length ->W.cell? (x.add i)=some (.int .u8 (j.getD i 0)))/\∀n∈j,(Lit.int .u8 n).wf=true:=by
  obtain⟨Q,A⟩:=h;rcases open_ints Tryz.underlying22 Tryz.underlying5 (by kernel_rfl) A with ⟨m,_⟩|⟨x,l,c,O,m,_,u,E,z,_,b,M⟩
  ·simp [Value.cells] at m;obtain⟨rfl,rfl,rfl⟩:=m;exact⟨[],.inl ⟨rfl,rfl,rfl,rfl⟩⟩
  ·simp [Value.cells] at m;obtain⟨rfl,rfl,rfl⟩:=m;exact⟨O,.inr ⟨_,rfl,u,E,by first|exact z|simpa using z|omega,b,M⟩⟩
 obtain⟨s,o,u⟩:=Ql4 g;exact⟨q,y,k,_,rfl,u,s,o,by rcases g with ⟨_,t,U,_⟩|⟨_,_,t,_⟩<;>omega⟩
theorem trod_iface {H:Type}{enc:TypeId×Value ->H}{P:Program}{t:TypeId}{ms:Array (String×TypeId)}(ht:P.underlying t=some (.interface ms)){W:World}{sp:Nat ->Bool}{fuel:Nat}{cs:List Value}{y:DataW H×List MemPlace}
  (h:DataW.trod enc P W 0 sp true fuel t cs=some y) (W':World) (sp':Nat ->Bool):DataW.trod enc P W' 0 sp' true fuel t cs=some y:=by
 cases fuel with
 | zero=>simp [DataW.trod] at h
 | succ n=>
  unfold DataW.trod at h ⊢;rw [ht] at h ⊢;match cs,h with
  | [],h=>simp at h
  | [v],h=>cases v<;>simp at h ⊢<;>exact h
  | _::_::_,h=>simp at h
theorem vars_below {H:Type}{enc:TypeId×Value ->H}{P:Program}{t:TypeId}{ms:Array (String×TypeId)}(ht:P.underlying t=some (.interface ms)){W W':World}{sp:Nat ->Bool}(hb:Below W.heap.size W W')(sp':Nat ->Bool):
  ∀(ns:List String) (gs:List (DataW H)) (q:List MemPlace),(∀n∈ns,(P.globalNamed n).bind (fun g=>(P.globals[g]?).map (·.type))=some t) ->DataW.TrodVars enc P W sp ns gs q ->DataW.TrodVars enc P W' sp' ns gs q
 | [],[],q,_,h=>h
 | [],_::_,_,_,h=>h.elim
 | _::_,[],_,_,h=>h.elim
 | n::ns,d::ds,q,hn,h=>by
  obtain⟨g,u,v,y,p,r,j,k,z,o,i,b⟩:=h;have e:u=t:=by
   have:=hn n (List.mem_cons_self);rw [j,Option.bind_some,k] at this;exact Option.some.inj this
  subst e;exact⟨g,u,v,y,p,r,j,k,Qii z hb,trod_iface ht o W' sp',vars_below ht hb sp' ns ds r (fun m hm=>hn m (List.mem_cons_of_mem _ hm)) i,b⟩
theorem vars_len {H:Type}{enc:TypeId×Value ->H}{P:Program}{W:World}{sp:Nat ->Bool}:∀{ns:List String} {gs:List (DataW H)} {q:List MemPlace},DataW.TrodVars enc P W sp ns gs q ->gs.length=ns.length
 | [],[],_,_=>rfl
 | [],_::_,_,h=>h.elim
 | _::_,[],_,h=>h.elim
 | _::_,_::_,_,h=>by
  obtain⟨_,_,_,_,_,_,_,_,_,_,j,_⟩:=h;simp [vars_len j]
theorem vars_type:∀n∈Rows.fnCodecSpec.vars,(Tryz.prog.globalNamed n).bind (fun g=>(Tryz.prog.globals[g]?).map (·.type))=some 54:=by
 have h:(Rows.fnCodecSpec.vars.all fun n=>decide ((Tryz.prog.globalNamed n).bind (fun g=>(Tryz.prog.globals[g]?).map (·.type))=some 54))=true:=by kernel_rfl
 intro n j;exact of_decide_eq_true (List.all_eq_true.1 h n j)
theorem vars_all {H:Type}{enc:TypeId×Value ->H}{W:World}{sp:Nat ->Bool}{gs:List (DataW H)}{q:List MemPlace}(h:DataW.TrodVars enc Tryz.prog W sp Rows.fnCodecSpec.vars gs q):∃g1 g2 g3 g4 g5 g6 g7 g8 g9 g10 g11 g12 g13 g14 g15,gs=[g1,g2,g3,g4,g5,g6,g7,g8,g9,g10,g11,g12,g13,g14,g15]:=by
 have j:gs.length=15:=(vars_len h).trans rfl;match gs,j with
 | [g1,g2,g3,g4,g5,g6,g7,g8,g9,g10,g11,g12,g13,g14,g15],_=>exact⟨_,_,_,_,_,_,_,_,_,_,_,_,_,_,_,rfl⟩
noncomputable def low:Nat:=(World.holding Tryz.prog default ⟨#[],#[],[]⟩).heap.size
def setAt (h:Array Obj)(g:Nat)(vs:Array Value):Array Obj:=h.modify g fun
 | .cells _ t frozen=> .cells vs t frozen
 | o=>o
noncomputable def laidWorld (os:Os):World:=
 let w0:=World.holding Tryz.prog os ⟨#[.cells #[.string {data:=#[116,104,101,32,98,121,116,101,115,32,101,110,100,32,116,111,111,32,101,97,114,108,121]}] 278,.cells #[.string {data:=#[116,104,101,32,116,101,110,116,104,32,98,121,116,101,32,105,115,32,97,98,111,118,101,32,49]}] 278,.cells #[.string {data:=#[116,104,101,32,118,97,114,105,110,116,32,99,111,117,108,100,32,98,101,32,115,104,111,114,116,101,114]}] 278,.cells #[.string {data:=#[116,104,101,32,108,101,110,103,116,104,32,105,115,32,97,98,111,118,101,32,116,104,101,32,108,105,109,105,116]}] 278,.cells #[.string {data:=#[97,32,110,117,109,98,101,114,32,105,115,32,97,98,111,118,101,32,105,116,115,32,108,105,109,105,116]}] 278,.cells #[.string {data:=#[111,117,116,32,111,102,32,111,114,100,101,114]}] 278,.cells #[.string {data:=#[97,32,114,101,112,108,105,99,97,32,104,97,115,32,110,111,32,114,117,110,115]}] 278,.cells #[.string {data:=#[98,121,116,101,115,32,115,116,97,110,100,32,98,101,104,105,110,100,32,116,104,101,32,101,110,100]}] 278,.cells #[.string {data:=#[97,32,110,97,109,101,32,104,97,115,32,110,111,32,98,121,116,101,115]}] 278,.cells #[.string {data:=#[116,104,101,114,101,32,105,115,32,110,111,32,115,117,99,104,32,107,105,110,100]}] 278,.cells #[.string {data:=#[97,32,112,97,116,104,32,104,97,115,32,116,111,111,32,109,97,110,121,32,110,97,109,101,115]}] 278,.cells #[.string {data:=#[97,32,109,97,112,32,119,105,116,104,105,110,32,116,104,101,32,116,114,101,101,32,104,97,115,32,110,111,32,107,101,121,115]}] 278,.cells #[.string {data:=#[97,32,114,101,103,105,115,116,101,114,32,111,114,32,102,108,97,103,32,104,97,115,32,110,111,32,108,101,97,118,101,115]}] 278,.cells #[.string {data:=#[97,32,100,111,116,32,105,115,32,110,111,116,32,105,110,32,116,104,101,32,99,111,110,116,101,120,116]}] 278,.cells #[.string {data:=#[97,32,100,111,116,32,99,111,109,101,115,32,116,119,105,99,101]}] 278],#[],[]⟩
 {w0 with heap:=(setAt (setAt (setAt (setAt (setAt (setAt (setAt (setAt (setAt (setAt (setAt (setAt (setAt (setAt (setAt w0.heap 10 #[.iface 261 (.pointer (some ⟨low+0,0,none⟩))]) 11 #[.iface 261 (.pointer (some ⟨low+1,0,none⟩))]) 12 #[.iface 261 (.pointer (some ⟨low+2,0,none⟩))]) 0 #[.iface 261 (.pointer (some ⟨low+3,0,none⟩))]) 4 #[.iface 261 (.pointer (some ⟨low+4,0,none⟩))]) 5 #[.iface 261 (.pointer (some ⟨low+5,0,none⟩))]) 9 #[.iface 261 (.pointer (some ⟨low+6,0,none⟩))]) 1 #[.iface 261 (.pointer (some ⟨low+7,0,none⟩))]) 7 #[.iface 261 (.pointer (some ⟨low+8,0,none⟩))]) 6 #[.iface 261 (.pointer (some ⟨low+9,0,none⟩))]) 3 #[.iface 261 (.pointer (some ⟨low+10,0,none⟩))]) 2 #[.iface 261 (.pointer (some ⟨low+11,0,none⟩))]) 8 #[.iface 261 (.pointer (some ⟨low+12,0,none⟩))]) 13 #[.iface 261 (.pointer (some ⟨low+13,0,none⟩))]) 14 #[.iface 261 (.pointer (some ⟨low+14,0,none⟩))])}
theorem laid_met (os:Os)(args:Array Value):laidMetH Tryz.prog Rows.fnCodecRow.laid ((laidWorld os).forCall (fun _ _=>0) ⟨#[],args,[]⟩).memory:=
 laidMetH_of_parts (laidMet_of_run' 8 (by kernel_rfl) (by kernel_rfl)) (by kernel_rfl)
theorem contract (H:Type)(enc:TypeId×Value ->H)(W:World)(base:Nat)(args:Array Value)(ds gs:List (DataW H))(before:List MemPlace)
  (hval0:∀(j:Nat) t v,Tryz.f3.params[j]? =some t ->args[j]? =some v ->Value.okWide Tryz.prog W .any base t v)
  (hW:DataW.Whole enc Tryz.prog Tryz.f3.params.toList Rows.fnCodecSpec.vars false W args.toList ds gs before) (hL:laidMetH Tryz.prog Rows.fnCodecRow.laid W):
  Calls Tryz.prog 3 args W fun e W'=>∃v,e=.returned v/\ Rows.fnCodecSpec.post enc Tryz.prog Tryz.f3 false true false false W args v W':=by
 have g:∀(j:Nat) t v,Tryz.f3.params[j]? =some t ->args[j]? =some v ->Value.okWide Tryz.prog W .any base t v:=hval0;have M:=hW;obtain⟨p,q,z,k,rfl,Hb,Hc⟩:=hW;have y:DataW.TrodAll enc Tryz.prog W 0 (fun _=>true) true Tryz.f3.params.toList args.toList ds p:=z;have I:∀{X:World},Below W.heap.size W X ->∀sp:Nat ->Bool,DataW.TrodVars enc Tryz.prog X sp Rows.fnCodecSpec.vars gs q:=fun hb sp=>vars_below Tryz.underlying54 hb sp _ _ _ vars_type k;obtain⟨L,R,S,T,g5,g6,g7,g8,g9,N,B,C,D,F,P,rfl⟩:=vars_all k;rw [Tryz.params3] at y g;obtain⟨i,Hd,J,K,Z,q0,Ha,rfl,rfl,u,G⟩:=trodAll_cons y;obtain⟨rfl,rfl,rfl⟩:=trodAll_nil G;obtain rfl:args=#[i]:=by cases args;simp_all
 obtain⟨A,b,r,E⟩:=QeP hL;have o:=u;have Y:∀x∈Z,x.block<W.heap.size:=by obtain⟨m,Q⟩:=o;exact DataW.trod_lt m _ _ _ Q
 obtain⟨a,n,c,f,rfl,U,s,O,V⟩:=openBytesC (g 0 22 i rfl rfl) u;clear z k hval0;refine(fnCodecWalk W a n c f A b r r U V s O E).mono fun e W' ⟨he,bel⟩=> ?_;subst he;exact⟨_,rfl,_,_,_,[],_,_,M,trodAll_mk1 (shut_bool Tryz.underlying4 _),(trodAll_cons_mk (Below.trod La.laidOut (by kernel_rfl) (of_decide_eq_true (by kernel_rfl)) o bel Y) trodAll_mk0),I bel _,bel.frame _,fun h=>by cases h⟩
theorem lifted (os:Os)(started:os.Started)(H:Type)(enc:TypeId×Value ->H)(F:Stop.Interp):
  ReturnsInHanded {} Tryz.checked os 3 .any ((OpenSpec.ofChange Rows.fnCodecSpec).preRow enc Tryz.prog Tryz.f3 Rows.fnCodecRow.domain false Rows.fnCodecRow.laid) (((OpenSpec.ofChange Rows.fnCodecSpec).at F).post enc Tryz.prog Tryz.f3 false true false false):=by
 refine returnsInHanded_of_row (C:=Tryz.checked) (s:=OpenSpec.ofChange Rows.fnCodecSpec) La.own started (by kernel_rfl) Tryz.func3
  (witness_row_at (enc:=enc) (C:=Tryz.checked) false (laidWorld os) #[.slice none 0 0] rfl (by kernel_rfl) (by kernel_rfl) (by kernel_rfl)
   (OpenSpec.preRow_of_B rfl 8 (by kernel_rfl) (by kernel_rfl) (laid_met os _))) ?_
 intro W base args j k before r q _ _ _ m _ _;exact contract H enc W base args j k before r q m
theorem said:Rows.FnCodecSaid:=
 OpenClaim.holds_of_cond 3 Tryz.f3 rfl rfl rfl rfl rfl rfl rfl ⟨rfl,rfl,rfl,rfl,rfl⟩ rfl rfl rfl rfl rfl (by kernel_rfl) Tryz.func3 (by kernel_rfl)
  (of_decide_eq_true (by kernel_rfl)) (by unfold Func.isWrapper;first|(rw [if_pos (by decide+kernel)];kernel_rfl)|(rw [if_neg (by decide+kernel)];exact⟨rfl,rfl⟩))
  (fun os started H enc _ F=>by rw [OpenClaim.pre_eq_preRow];exact lifted os started H enc F)
theorem plain (f:FuncId)(fn:Func)(hf:Tryz.pinned.checked.prog.funcNamed "loop.example/s02772/laws.FnCodec" =some f)(hfn:Tryz.pinned.checked.prog.funcs[f]? =some fn):
  false=Tryz.pinned.checked.prog.looks []/\∀(j:Nat) t,fn.params[j]? =some t ->Tryz.pinned.checked.prog.wantsStandIn t=false:=by
 obtain rfl:f=3:=Option.some.inj ((show Tryz.prog.funcNamed "loop.example/s02772/laws.FnCodec" =some 3 by kernel_rfl).symm.trans hf)|>.symm;obtain rfl:fn=Tryz.f3:=(Option.some.inj (Tryz.func3.symm.trans hfn)).symm;refine⟨by kernel_rfl,fun j t ht=> ?_⟩;rw [Tryz.params3] at ht;have k:=Array.mem_of_getElem? ht;simp at k;subst k;exact(show Tryz.prog.wantsStandIn 22=false by kernel_rfl)
end Go.Proofs.YtdeolligikjieaaGreatDoor.fnCodec
namespace Go.Proofs.YtdeolligikjieaaGreatDoor
theorem fnCodecCard:Rows.FnCodecCardSaid:=
 Claim7.holds_tied_plain_at .later [] _ _ _ _ fnCodec.said (fun _ h=>by cases h) (by kernel_rfl) (fun _ h=>by cases h) fnCodec_row_tie rfl ⟨rfl,rfl⟩ (by kernel_rfl) rfl fnCodec.plain (by kernel_rfl)
#print axioms fnCodecCard
end Go.Proofs.YtdeolligikjieaaGreatDoor
