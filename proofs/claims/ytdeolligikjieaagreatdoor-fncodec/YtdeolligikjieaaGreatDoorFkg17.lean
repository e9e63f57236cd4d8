import Derived.Test.YtdeolligikjieaaGreatDoorFkg16
import Derived.Test.YtdeolligikjieaaGreatDoorFkg13
import Derived.Test.YtdeolligikjieaaGreatDoorFkg08
import Derived.Test.YtdeolligikjieaaGreatDoorFkg01
import Derived.Deep.RegionHeld3
import Derived.OwnWalk
import Derived.Test.YtdeolligikjieaaGreatDoorRows
import Derived.WalkKit
import Derived.LaidEql
import Derived.Stop.Asserts
import Derived.RowKitTokens
import Derived.Stop.LaidTwo
import Derived.Deep.QuietTactic
import Derived.BigQuiet
set_option linter.unusedVariables false
set_option linter.unusedSimpArgs false
set_option maxRecDepth 100000
set_option maxHeartbeats 40000000
namespace Go.Proofs.YtdeolligikjieaaGreatDoor
open Go.ChangeShapes Go.WideShapes Go.ChangeAt Go.RowKit
theorem Qn4 {w:World}{B g m cap:Nat}{ts:List Ky}(h:w.ownsRow B 88 2 (.slice (some ⟨g,0,none⟩) m cap) m (kRow ts))(hl:ts.length=m):∀i,i<m ->∃d,ts[i]? =some d/\ w.cell? ⟨g,i*2,none⟩=some (.string d.1)/\ w.cell? ⟨g,i*2+1,none⟩=some (.int .i64 d.2):=by
 rcases h.2 with ⟨y,_⟩|⟨o,t,k,z,A,u,b,p,s,r⟩
 ·cases y
 ·cases z;intro i E;have v:i<ts.length:=by omega
  have q:ts.toArray[i]! =ts[i]:=by rw [getElem!_pos _ _ (by simpa using v)];simp
  refine⟨ts[i],by simp [v],?_,?_⟩
  ·have j:(k.toList.take (m*2))[i*2]? =(kRow ts)[i*2]? :=by rw [r]
   rw [List.getElem?_take_of_lt (by omega),kRow_get ts (i*2) (by omega)] at j;rw [show i*2/2=i by omega,show i*2%2=0 by omega,q] at j;simp [World.cell?,u,<- Array.getElem?_toList,j,kCells]
  ·have j:(k.toList.take (m*2))[i*2+1]? =(kRow ts)[i*2+1]? :=by rw [r]
   rw [List.getElem?_take_of_lt (by omega),kRow_get ts (i*2+1) (by omega)] at j;rw [show (i*2+1)/2=i by omega,show (i*2+1)%2=1 by omega,q] at j;simp [World.cell?,u,<- Array.getElem?_toList,j,kCells]
theorem Qpn {w:World}{B:Nat}{v:Value}{ts:List Ky}(h:w.ownsRow B 88 2 v ts.length (kRow ts)):∃a cap,v=.slice a ts.length cap/\ ts.length<=cap/\ cap<=9223372036854775807/\ (0<ts.length ->∃g,a=some ⟨g,0,none⟩/\ B<=g/\ g<w.heap.size/\∀i,i<ts.length ->∃d,ts[i]? =some d/\ w.cell? ⟨g,i*2,none⟩=some (.string d.1)/\ w.cell? ⟨g,i*2+1,none⟩=some (.int .i64 d.2)):=by
 rcases h.2 with ⟨rfl,j⟩|⟨g,cap,u,rfl,r,q,k,m,y,z⟩
 ·exact⟨none,0,by rw [j],by omega,by omega,fun hh=>by omega⟩
 ·exact⟨_,cap,rfl,k,by unfold maxLen at m;omega,fun _=>⟨g,rfl,r,(Array.getElem?_eq_some_iff.1 q).1,Qn4 h rfl⟩⟩
theorem Qm5 {p:List ByteArray}{x:Lf}{y:Ky}(hx:QbV x)(h:nx p x=some y):(y.2=1 \/y.2=2) \/(y.2=3/\ p.length+2<=8):=by
 rw [Qbi] at h;obtain⟨⟨_,q⟩,e⟩:=h;have j:=congrArg Prod.snd e;unfold Qat at j;dsimp only at j;by_cases m:p.length+1<x.p.length
 ·rw [if_pos m] at j;have:=hx.1.2.1;exact .inr ⟨j.symm,by omega⟩
 ·rw [if_neg m] at j;rcases Qg0 x.fl with k|k<;>rw [k] at j
  ·exact .inl (.inl j.symm)
  ·exact .inl (.inr j.symm)
theorem QeR {α:Type}(f:α ->List Int)(ts:List α)(k:Nat):((ts.take k).flatMap f).length<=(ts.flatMap f).length:=by
 conv=>rhs;rw [<- List.take_append_drop k ts,List.flatMap_append,List.length_append]
 omega
theorem Qf4 {R F T:Nat ->Int}{n:Nat}(l:List Lf)(w0:World)(Bt c:Nat)(N:List Ky ->Option (Nat×Nat))(hT:Tre w0 Bt N (Mk l l.length) c)(hN:NkI l l.length N)(hc:c<=1048576)(hlv:QbQ R F T n l l.length)(hbd:LvB l):∀(f:Nat) (p:List ByteArray),p.length+f=8 ->1<=f ->∀(bv:Value) (zs0:List Int) (w:World),Below w0.heap.size w0 w ->Own w w0.heap.size bv zs0 ->zs0.length+(tB l f p).length<=90000000 ->
  Calls Tryz.prog 14 #[.agg #[.map (mF (N (Qac p 3))),.map (mS (N (Qac p 3)))],bv] w fun e w'=>∃v,e=.returned v/\ Own w' w0.heap.size v (zs0++tB l f p)/\ Gr w w' bv v
 | 0,_,_,q,_,_,_,_,_,_=>by omega
 | f+1,p,hpf,_,bv,zs0,w,hb,ho,hl=>by
  obtain⟨k1,k2⟩:=QdJ p hlv l.length zL;obtain⟨TB,Gi⟩:∃TB,tB l (f+1) p=TB:=⟨_,rfl⟩;rw [Gi] at hl ⊢;have Ka:Hid (∀s,p.length+2<=8 ->∀(bv:Value) (zs0:List Int) (w:World),Below w0.heap.size w0 w ->Own w w0.heap.size bv zs0 ->zs0.length+(tB l f (p++[s])).length<=90000000 ->Calls Tryz.prog 14 #[.agg #[.map (mF (N (Qac p 3++[(s,3)]))),.map (mS (N (Qac p 3++[(s,3)])))],bv] w fun e w'=>∃v,e=.returned v/\ Own w' w0.heap.size v (zs0++tB l f (p++[s]))/\ Gr w w' bv v):=hid (fun s G6 bv zs0 w q A h3=>by
   rw [<- Qfq];exact Qf4 l w0 Bt c N hT hN hc hlv hbd f (p++[s]) (by simp;omega) (by omega) bv zs0 w q A h3)
  obtain⟨W,hW⟩:∃W,w.alloc (.cells #[.map (mF (N (Qac p 3))),.map (mS (N (Qac p 3)))] 45)=W:=⟨_,rfl⟩;have b0:Below w.heap.size w W:=by rw [<- hW];exact zO _ _
  have X0:Bx2 W w.heap.size (.map (mF (N (Qac p 3)))) (.map (mS (N (Qac p 3)))):=by rw [<- hW];exact Bx2.made _ _ _ _
  have zW:W.heap.size=w.heap.size+1:=by rw [<- hW];simp
  have Gj:Below w0.heap.size w0 W:=hb.trans (b0.mono hb.size);have Gh:=hid (Qc1 Bt c N (Mk l l.length) (Qac p 3) W (hT.below Gj) hc);obtain⟨Z,Gc⟩:∃u,mF (N (Qac p 3))=u:=⟨_,rfl⟩;obtain⟨m1,Gk⟩:∃u,mS (N (Qac p 3))=u:=⟨_,rfl⟩;rw [Gc,Gk] at X0 Gh hW;rw [Gc,Gk];have q0:=X0.c0;have q1:=X0.c1;have HX:=hid X0;have G9:=hid b0;have Ge:=hid Gj;have HO:=hid (Own.kept ho b0 (fun k E=>(World.ownsRow.lt ho k E).2));have HT:=hid hT;have Kc:=hid Gc;have Hc:Hid (∀g,bv.ownBlock=some g ->w0.heap.size<=g/\ g<w.heap.size):=hid (fun g hg=>World.ownsRow.lt ho g hg);have Gu:=hid Gi;have Gp:=hid k2;clear X0 b0 Gj ho Gc Gk Gi k1 k2;go_enter Tryz.func14,Tryz.ntmps14;go_wp2_with fail;try rw [hW]
  clear hW;refine Gh.mono ?_;rintro e w1 ⟨vd,m,rfl,H2,H3,Ki,G5,b1⟩;have Ga:=QiU (p:=p) hlv hN H2 H3;obtain⟨da,dc,rfl,Ke,Kf,G2⟩:=Qpn G5;have Kh:m.length<=1000:=by rw [Ga];have:=Qev l p l.length;have:=hbd.len;omega
  have HD:Hid (0<m.length ->∃g,da=some ⟨g,0,none⟩/\ W.heap.size<=g/\ g<w1.heap.size/\∀i,i<m.length ->∃y∈m,m[i]? =some y/\ w1.cell? ⟨g,i*2,none⟩=some (.string y.1)/\ w1.cell? ⟨g,i*2+1,none⟩=some (.int .i64 y.2)):=hid (fun h0=>by
   obtain⟨g,e1,M,e3,e4⟩:=G2 h0;refine⟨g,e1,M,e3,fun i hi=> ?_⟩;obtain⟨d,f1,f2,f3⟩:=e4 i hi;exact⟨d,List.mem_of_getElem? f1,f1,f2,f3⟩)
  have Gv:Hid (TB=uvF 9 m.length++m.flatMap (kB l f p)):=hid (by rw [<- Gu.out,Qfp,<- Ga]);have Gq:Hid (∀y∈m,y.1.size<=40/\ ((y.2=1 \/y.2=2) \/(y.2=3/\ p.length+2<=8))):=hid (fun y hy=>by
   rw [Ga] at hy;obtain⟨j,hj,e⟩:=(Gp y).1 hy;exact⟨QdO (hlv j hj).1 e,Qm5 (hlv j hj).1 e⟩)
  have Kb:Hid (∀y∈m,∀w',Below w0.heap.size w0 w' ->(Instr.lookup 42 (.map Z) (.agg #[.string y.1,.int .i64 y.2]) false).run Tryz.prog w'=.ok (.agg #[.map (mF (N (Qac p 3++[y]))),.map (mS (N (Qac p 3++[y])))]) w'):=hid (fun y hy w' hb'=>by
   have hl:=Gq y hy;obtain⟨kl,Kg⟩:=Qhi (s:=y.1) (k:=y.2) (by unfold maxLen;omega) (wfI (by omega) (by omega));have:=(HT.below hb').look (Qac p 3) y Kg;rw [Kc.out] at this;exact this)
  have X1:=HX.below b1 HX.lt;have H9:=hid X1;have Kd:=hid (Own.kept HO.out b1 (fun k E=>by have:=(Hc k E).2;omega));have H5:=hid (Ge.trans (b1.mono Ge.size));have Gd:=hid (Qab G9.out b1);have x0:IntKind.u64.wrap ((m.length:Nat):Int)=(m.length:Int):=Qfs _ (by omega) (by omega);have Kj:=b1.size;have X:Hid (w0.heap.size<=w1.heap.size/\ w.heap.size<w1.heap.size/\ w0.heap.size<=w.heap.size):=hid ⟨H5.size,by omega,hb.size⟩;clear q0 q1 G5 H2 H3 Ki G2 Ga b1 Gh X1 HX HO Ge Kj Gp Gu;go_wp2_with fail;refine(QaS w0.heap.size m.length bv zs0 w1 (by omega) X.1 (by omega) Kd.out).mono ?_;rintro e w2 ⟨v2,rfl,o2,g2,z2⟩;have Gs:=hid o2;have Go:=hid g2;have Gw:=hid z2;clear o2 g2 z2 x0;go_wp2_with fail;go_loopw [1,17] (fun b' i wr=>∃(k:Nat),k<=m.length/\ i=.int .i64 k/\ Hid (Own wr w0.heap.size b' (zs0++(uvF 9 m.length++(m.take k).flatMap (kB l f p))))/\ Hid (Gr w1 wr bv b')/\ Hid (w1.heap.size<=wr.heap.size)) (fun _ i _=>m.length - (intOf i).toNat);case atStart=>exact⟨0,Nat.zero_le _,rfl,hid (by simpa using Gs.out),Go,hid (Nat.le_of_lt Gw.out)⟩
  case round=>
   clear Gs Go Gw;obtain⟨k,E,rfl,H7,Ho,Gx⟩:=hrel;by_cases Gb:k<m.length
   ·obtain⟨g,rfl,Kk,Kl,G3⟩:=HD (by omega);obtain⟨y,Gl,G8,G0,G1⟩:=G3 k Gb;have Hl:some g≠bv.ownBlock:=fun e=>by have:=(Hc g e.symm).2;omega
    have Hk:some w.heap.size≠bv.ownBlock:=fun e=>by have:=(Hc _ e.symm).2;omega
    have c1:=Ho.g.cell G0 Hl;have c2:=Ho.g.cell G1 Hl;have n0:=Ho.g.cell H9.c0 Hk;have G7:=Gq y Gl;have H8:Hid ((m.take (k+1)).flatMap (kB l f p)=(m.take k).flatMap (kB l f p)++kB l f p y):=hid (by rw [List.take_add_one,G8];simp);have Q:Hid ((zs0++(uvF 9 m.length++(m.take k).flatMap (kB l f p))).length+(kB l f p y).length<=90000000):=hid (by
     have q:=QeR (kB l f p) m (k+1);rw [H8.out,List.length_append] at q;have A:=hl;rw [Gv.out] at A;simp only [List.length_append] at A ⊢;omega)
    have P:Hid (∀w',Below w0.heap.size w0 w' ->(Instr.lookup 42 (.map Z) (.agg #[.string y.1,.int .i64 y.2]) false).run Tryz.prog w'=.ok (.agg #[.map (mF (N (Qac p 3++[y]))),.map (mS (N (Qac p 3++[y])))]) w'):=hid (fun w' h=>Kb.out y Gl w' h);have Hp:Hid ((y.2=1 \/y.2=2) ->∀(bv:Value) (zs0:List Int) (w:World),Below w0.heap.size w0 w ->Own w w0.heap.size bv zs0 ->zs0.length<=100000000 ->Calls Tryz.prog 37 #[.agg #[.map (mF (N (Qac p 3++[y]))),.map (mS (N (Qac p 3++[y])))],bv,.int .i64 y.2] w fun e w'=>∃v,e=.returned v/\ Own w' w0.heap.size v (zs0++mB (dsK l p y l.length) y.2)/\ Gr w w' bv v):=hid (fun hy bv zs0 w q A h3=>Qf3 l p y w0 Bt c N HT.out hc hlv hbd hy bv zs0 w q A h3);obtain⟨s,Y⟩:=y;dsimp only at c1 c2 G7 P H8 Hp Q;obtain⟨I,Ht⟩:∃I,wr.alloc (.cells #[.string s,.int .i64 Y] 88)=I:=⟨_,rfl⟩;have D1:Bx2 I wr.heap.size (.string s) (.int .i64 Y):=by rw [<- Ht];exact Bx2.made _ _ _ _
    have Gz:Below wr.heap.size wr I:=by rw [<- Ht];exact zO _ _
    have Gg:Hid (Gr w1 I bv u1):=by rw [<- Ht];exact hid (Ho.alloc _)
    have Gt:Hid (Own I w0.heap.size u1 (zs0++(uvF 9 m.length++(m.take k).flatMap (kB l f p)))):=by rw [<- Ht];exact hid (World.ownsRow.alloc H7.out _)
    have Ha:Hid (some wr.heap.size≠u1.ownBlock):=hid (fun e=>by have:=(World.ownsRow.lt H7.out _ e.symm).2;omega);have q0:=D1.c0;have q1:=D1.c1;have D:=hid D1;have Hu:=hid Hk;have Gy:Hid (w1.heap.size<=I.heap.size):=hid (by have:=Gz.size;have:=Gx.out;omega);obtain⟨zs,Gm⟩:∃zs,zs0++(uvF 9 m.length++(m.take k).flatMap (kB l f p))=zs:=⟨_,rfl⟩;have Hi:Hid (zs0++(uvF 9 m.length++(m.take (k+1)).flatMap (kB l f p))=zs++kB l f p (s,Y)):=hid (by rw [H8.out,<- Gm];simp);rw [Gm] at Gt Q;clear D1 Gz G0 G1 G3 Gl G8 Hk Hl H7 Ho Gx Gm H8;go_wp2_with fail;try rw [Ht]
    clear Ht;refine(Qd1 w0.heap.size u1 _ s I (by omega) (by have:=X.1;have:=Gy.out;omega) (by have:=Q.out;omega) Gt.out).mono ?_;rintro e C ⟨v3,rfl,o3,g3,z3⟩;have Hq:=hid o3;have Hn:=hid g3;have Hs:Hid (w1.heap.size<=C.heap.size):=hid (by have:=Gy.out;omega);have Gn:=g3.g.cell D.c1 Ha.out;clear o3 g3 z3 q0 q1 c1 c2 n0;rcases G7.2 with (rfl|rfl)|⟨rfl,G6⟩
    ·have H:Hid (kB l f p (s,1)=Qae s++([1]++mB (dsK l p (s,1) l.length) 1)):=hid (by unfold kB;rw [if_neg (show¬(1:Int)=3 by decide)]);obtain⟨z,r,Hb,o5,J⟩:=Qc6 w0.heap.size v3 _ [1] ⟨C.heap.size,0,none⟩ 1 1 (C.alloc (.cells #[.int .u8 1] 5)) (World.ownsRow.alloc Hq.out _) rfl (fun i u hu=>cell_one_new _ _ _ i u hu) (by have:=X.1;have:=Hs.out;simp;omega) (by have q:=Q.out;rw [H.out] at q;simp only [List.length_append] at q ⊢;simp at q ⊢;omega);have o:Gr I r u1 z:=Hn.trans ((Gr.alloc (Gr.refl C v3) _).trans J);have He:=o.g.cell D.c0 Ha.out;have Hf:=o.g.cell D.c1 Ha.out;have t:=Gg.trans o;have Hd:=t.g.cell H9.c0 Hu.out;have B:Below w0.heap.size w0 r:=H5.trans (t.below X.1 (fun k E=>(Hc k E).1));have H4:w1.heap.size<=r.heap.size:=by have q:=Hs.out;have A:=J.g.size;simp at A;omega
     have Hr:=hid o5;have Hv:=hid t;have H6:=hid B;have Hx:Hid ((zs++Qae s++[1]).length+(mB (dsK l p (s,1) l.length) 1).length<=90000000):=hid (by have q:=Q.out;rw [H.out] at q;simp only [List.length_append] at q ⊢;omega);obtain⟨U,Hg⟩:∃U,mF (N (Qac p 3++[(s,1)]))=U:=⟨_,rfl⟩;obtain⟨V,Hh⟩:∃V,mS (N (Qac p 3++[(s,1)]))=V:=⟨_,rfl⟩;have Hj:=hid (Hp (.inl rfl));rw [Hg,Hh] at P Hj;have Hm:Hid (some w.heap.size≠z.ownBlock/\ some wr.heap.size≠z.ownBlock):=hid ⟨by
      rcases t.l with e|⟨j,e,hj⟩
      ·rw [e];exact Hu.out
      ·rw [e];intro M;injection M with M;have:=X.2.1;omega,by
      rcases o.l with e|⟨j,e,hj⟩
      ·rw [e];exact Ha.out
      ·rw [e];intro M;injection M with M;have:=D.lt;omega⟩
     have Hz:Hid (∀w',Below w0.heap.size w0 w' ->w'.cell? ⟨w.heap.size,0,none⟩=some (.map Z) ->w'.cell? ⟨wr.heap.size,0,none⟩=some (.string s) ->w'.cell? ⟨wr.heap.size,1,none⟩=some (.int .i64 1) ->(Below w0.heap.size w0 w'/\ w'.cell? ⟨w.heap.size,0,none⟩=some (.map Z)/\ w'.cell? ⟨wr.heap.size,0,none⟩=some (.string s)/\ w'.cell? ⟨wr.heap.size,1,none⟩=some (.int .i64 1)/\ (Instr.lookup 42 (.map Z) (.agg #[.string s,.int .i64 1]) false).run Tryz.prog w'=.ok (.agg #[.map U,.map V]) w')):=hid (fun w' q A h3 h4=>⟨q,A,h3,h4,P.out w' q⟩);clear o5 J o t B Hp P Hg Hh Q Hq Hn;go_wp2_with (at_builtin;refine Qaa rfl _ _ _ _ rfl Hb (by rfl) (by rfl) rfl ?_;clear Hb);refine zR (S:=fun w'=>Below w0.heap.size w0 w'/\ w'.cell? ⟨w.heap.size,0,none⟩=some (.map Z)/\ w'.cell? ⟨wr.heap.size,0,none⟩=some (.string s)/\ w'.cell? ⟨wr.heap.size,1,none⟩=some (.int .i64 1)/\ (Instr.lookup 42 (.map Z) (.agg #[.string s,.int .i64 1]) false).run Tryz.prog w'=.ok (.agg #[.map U,.map V]) w') (Hz _ H6.drew Hd He Hf) (fun qh=> ?_);refine tZ 0 40 ?_;refine tZ 1 41 ?_;refine tZ 2 42 ?_;refine tZ 3 43 ?_;refine tZ 4 44 ?_;refine tZ 5 45 ?_;refine tZ 6 46 ?_;refine cZ 7 ?_;intro K hK;go_simp;refine(Hj z _ _ qh.1 (World.ownsRow.drew Hr.out) (by have:=Hx.out;omega)).mono ?_;rintro e G ⟨v6,rfl,o6,L⟩;have O:Gr r G z v6:=(show Gr r r.drew z z from⟨⟨rfl,rfl,rfl,Nat.le_refl _,fun _ _ _=>rfl⟩,.inl rfl⟩).trans L;have H1:Below w0.heap.size w0 G:=qh.1.trans (L.below qh.1.size (fun k E=>(World.ownsRow.lt Hr.out k E).1));refine hK.out _ _ (Hz _ H1 (O.g.cell Hd Hm.1) (O.g.cell He Hm.2) (O.g.cell Hf Hm.2)) (fun qh=> ?_);clear hK K;try simp only [zP]
     refine tZ 8 1 ?_;refine zD ?_;have Hy:Hid (Own G w0.heap.size v6 (zs0++(uvF 9 m.length++(m.take (k+1)).flatMap (kB l f p)))):=hid (by rw [Hi.out,H.out];simpa using o6);have Hw:=hid (Hv.trans O);have H0:Hid (w1.heap.size<=G.heap.size):=hid (by have:=O.g.size;omega);clear o6 L O H1 qh He Hf Hd H4 Gn Hj;go_wp2_with fail;go_roundw;case rel=>exact⟨k+1,Gb,by go_num,Hy,Hw,H0⟩
     case measure=>simp [intOf];omega
    ·have H:Hid (kB l f p (s,2)=Qae s++([2]++mB (dsK l p (s,2) l.length) 2)):=hid (by unfold kB;rw [if_neg (show¬(2:Int)=3 by decide)]);obtain⟨z,r,Hb,o5,J⟩:=Qc6 w0.heap.size v3 _ [2] ⟨C.heap.size,0,none⟩ 1 1 (C.alloc (.cells #[.int .u8 2] 5)) (World.ownsRow.alloc Hq.out _) rfl (fun i u hu=>cell_one_new _ _ _ i u hu) (by have:=X.1;have:=Hs.out;simp;omega) (by have q:=Q.out;rw [H.out] at q;simp only [List.length_append] at q ⊢;simp at q ⊢;omega);have o:Gr I r u1 z:=Hn.trans ((Gr.alloc (Gr.refl C v3) _).trans J);have He:=o.g.cell D.c0 Ha.out;have Hf:=o.g.cell D.c1 Ha.out;have t:=Gg.trans o;have Hd:=t.g.cell H9.c0 Hu.out;have B:Below w0.heap.size w0 r:=H5.trans (t.below X.1 (fun k E=>(Hc k E).1));have H4:w1.heap.size<=r.heap.size:=by have q:=Hs.out;have A:=J.g.size;simp at A;omega
     have Hr:=hid o5;have Hv:=hid t;have H6:=hid B;have Hx:Hid ((zs++Qae s++[2]).length+(mB (dsK l p (s,2) l.length) 2).length<=90000000):=hid (by have q:=Q.out;rw [H.out] at q;simp only [List.length_append] at q ⊢;omega);obtain⟨U,Hg⟩:∃U,mF (N (Qac p 3++[(s,2)]))=U:=⟨_,rfl⟩;obtain⟨V,Hh⟩:∃V,mS (N (Qac p 3++[(s,2)]))=V:=⟨_,rfl⟩;have Hj:=hid (Hp (.inr rfl));rw [Hg,Hh] at P Hj;have Hm:Hid (some w.heap.size≠z.ownBlock/\ some wr.heap.size≠z.ownBlock):=hid ⟨by
      rcases t.l with e|⟨j,e,hj⟩
      ·rw [e];exact Hu.out
      ·rw [e];intro M;injection M with M;have:=X.2.1;omega,by
      rcases o.l with e|⟨j,e,hj⟩
      ·rw [e];exact Ha.out
      ·rw [e];intro M;injection M with M;have:=D.lt;omega⟩
     have Hz:Hid (∀w',Below w0.heap.size w0 w' ->w'.cell? ⟨w.heap.size,0,none⟩=some (.map Z) ->w'.cell? ⟨wr.heap.size,0,none⟩=some (.string s) ->w'.cell? ⟨wr.heap.size,1,none⟩=some (.int .i64 2) ->(Below w0.heap.size w0 w'/\ w'.cell? ⟨w.heap.size,0,none⟩=some (.map Z)/\ w'.cell? ⟨wr.heap.size,0,none⟩=some (.string s)/\ w'.cell? ⟨wr.heap.size,1,none⟩=some (.int .i64 2)/\ (Instr.lookup 42 (.map Z) (.agg #[.string s,.int .i64 2]) false).run Tryz.prog w'=.ok (.agg #[.map U,.map V]) w')):=hid (fun w' q A h3 h4=>⟨q,A,h3,h4,P.out w' q⟩);clear o5 J o t B Hp P Hg Hh Q Hq Hn;go_wp2_with (at_builtin;refine Qaa rfl _ _ _ _ rfl Hb (by rfl) (by rfl) rfl ?_;clear Hb);refine zR (S:=fun w'=>Below w0.heap.size w0 w'/\ w'.cell? ⟨w.heap.size,0,none⟩=some (.map Z)/\ w'.cell? ⟨wr.heap.size,0,none⟩=some (.string s)/\ w'.cell? ⟨wr.heap.size,1,none⟩=some (.int .i64 2)/\ (Instr.lookup 42 (.map Z) (.agg #[.string s,.int .i64 2]) false).run Tryz.prog w'=.ok (.agg #[.map U,.map V]) w') (Hz _ H6.drew Hd He Hf) (fun qh=> ?_);refine tZ 0 40 ?_;refine tZ 1 41 ?_;refine tZ 2 42 ?_;refine tZ 3 43 ?_;refine tZ 4 44 ?_;refine tZ 5 45 ?_;refine tZ 6 46 ?_;refine cZ 7 ?_;intro K hK;go_simp;refine(Hj z _ _ qh.1 (World.ownsRow.drew Hr.out) (by have:=Hx.out;omega)).mono ?_;rintro e G ⟨v6,rfl,o6,L⟩;have O:Gr r G z v6:=(show Gr r r.drew z z from⟨⟨rfl,rfl,rfl,Nat.le_refl _,fun _ _ _=>rfl⟩,.inl rfl⟩).trans L;have H1:Below w0.heap.size w0 G:=qh.1.trans (L.below qh.1.size (fun k E=>(World.ownsRow.lt Hr.out k E).1));refine hK.out _ _ (Hz _ H1 (O.g.cell Hd Hm.1) (O.g.cell He Hm.2) (O.g.cell Hf Hm.2)) (fun qh=> ?_);clear hK K;try simp only [zP]
     refine tZ 8 1 ?_;refine zD ?_;have Hy:Hid (Own G w0.heap.size v6 (zs0++(uvF 9 m.length++(m.take (k+1)).flatMap (kB l f p)))):=hid (by rw [Hi.out,H.out];simpa using o6);have Hw:=hid (Hv.trans O);have H0:Hid (w1.heap.size<=G.heap.size):=hid (by have:=O.g.size;omega);clear o6 L O H1 qh He Hf Hd H4 Gn Hj;go_wp2_with fail;go_roundw;case rel=>exact⟨k+1,Gb,by go_num,Hy,Hw,H0⟩
     case measure=>simp [intOf];omega
    ·have H:Hid (kB l f p (s,3)=Qae s++([3]++tB l f (p++[s]))):=hid (by unfold kB;rw [if_pos rfl]);obtain⟨z,r,Hb,o5,J⟩:=Qc6 w0.heap.size v3 _ [3] ⟨C.heap.size,0,none⟩ 1 1 (C.alloc (.cells #[.int .u8 3] 5)) (World.ownsRow.alloc Hq.out _) rfl (fun i u hu=>cell_one_new _ _ _ i u hu) (by have:=X.1;have:=Hs.out;simp;omega) (by have q:=Q.out;rw [H.out] at q;simp only [List.length_append] at q ⊢;simp at q ⊢;omega);have o:Gr I r u1 z:=Hn.trans ((Gr.alloc (Gr.refl C v3) _).trans J);have He:=o.g.cell D.c0 Ha.out;have Hf:=o.g.cell D.c1 Ha.out;have t:=Gg.trans o;have Hd:=t.g.cell H9.c0 Hu.out;have B:Below w0.heap.size w0 r:=H5.trans (t.below X.1 (fun k E=>(Hc k E).1));have H4:w1.heap.size<=r.heap.size:=by have q:=Hs.out;have A:=J.g.size;simp at A;omega
     have Hr:=hid o5;have Hv:=hid t;have H6:=hid B;have Hx:Hid ((zs++Qae s++[3]).length+(tB l f (p++[s])).length<=90000000):=hid (by have q:=Q.out;rw [H.out] at q;simp only [List.length_append] at q ⊢;omega);have G4:=P r B;obtain⟨U,Hg⟩:∃U,mF (N (Qac p 3++[(s,3)]))=U:=⟨_,rfl⟩;obtain⟨V,Hh⟩:∃V,mS (N (Qac p 3++[(s,3)]))=V:=⟨_,rfl⟩;have Gf:=hid (Ka s G6 z _ r B o5 Hx.out);rw [Hg,Hh] at G4 Gf;clear o5 J o t B Hp P Hg Hh Q Hq Hn;go_wp2_with (at_builtin;refine Qaa rfl _ _ _ _ rfl Hb (by rfl) (by rfl) rfl ?_;clear Hb);refine Gf.mono ?_;rintro e G ⟨v6,rfl,o6,L⟩;have Hy:Hid (Own G w0.heap.size v6 (zs0++(uvF 9 m.length++(m.take (k+1)).flatMap (kB l f p)))):=hid (by rw [Hi.out,H.out];simpa using o6);have Hw:=hid (Hv.trans L);have H0:Hid (w1.heap.size<=G.heap.size):=hid (by have:=L.g.size;omega);clear o6 L G4 He Hf Hd Gf H4 Gn;go_wp2_with fail;go_roundw;case rel=>exact⟨k+1,Gb,by go_num,Hy,Hw,H0⟩
     case measure=>simp [intOf];omega
   ·obtain rfl:k=m.length:=by omega
    have HF:Hid (zs0++(uvF 9 m.length++(m.take m.length).flatMap (kB l f p))=zs0++TB):=hid (by rw [List.take_length,Gv.out]);go_wp2_with fail;go_ret;refine⟨_,rfl,by rw [<- HF.out];exact H7.out,?_⟩;exact(Gr.of_below (b:=bv) Gd.out).trans Ho.out
theorem QfE (a:Option Addr)(c:Nat)(l:List Lf)(x:Option Addr)(n d:Nat)(R F T:Nat ->Int)(w:World)(hn:l.length<=1048576)(hp:LBd l)(hi:∀i,LfI (gL l i))(hm:n<=1048576)(h:Qf1 w a l)(h':Qb3 w x n R F T):
  Calls Tryz.prog 6 #[.agg #[.slice a l.length c,.slice x n d]] w fun e w'=>∃v zs k,e=.returned (.tuple #[v,.int .i64 k])/\ psZ R F T n l=(zs,k)/\ Own w' w.heap.size v zs/\ Below w.heap.size w w':=by
 obtain⟨W,y⟩:∃W,w.alloc (.cells #[.slice a l.length c,.slice x n d] 28)=W:=⟨_,rfl⟩;have E:Below w.heap.size w W:=by rw [<- y];exact zO _ _
 have Y:Bx2 W w.heap.size (.slice a l.length c) (.slice x n d):=by rw [<- y];exact Bx2.made _ _ _ _
 have k0:=Y.c0;have k1:=Y.c1;have HL:=hid (h.below E);have HR:=hid (h'.below E);have Hc:=hid E;clear h h' E Y;by_cases q:Qbe R F T n l
 ·have z:=hid (QhW a c l x n d R F T W hn hp hi hm HL.out HR.out q);have Hh:=hid (fun h=>Qfh q h);have Hg:=hid (fun h=>Qdt q h);have Hj:=hid (And.intro q.put_len q.tree_len);have He:Hid ((psB R F T n l).length<=1000000000):=hid (by have h1:=q.put_len;have h2:=q.tree_len;unfold psB;rw [List.length_append];omega);have Hf:Hid (QdR (Lk R F T n)++tB l 8 []=psB R F T n l):=hid rfl;obtain⟨Z,hZ⟩:∃Z,psB R F T n l=Z:=⟨_,rfl⟩;obtain⟨P,u⟩:∃P,psZ R F T n l=P:=⟨_,rfl⟩;rw [hZ,u] at Hh Hg;rw [hZ] at He Hf;rw [u];clear hZ u;have A:=hid q;clear q;go_enter Tryz.func6,Tryz.ntmps6;go_wp2_with fail;try rw [y]
  clear y;refine z.mono ?_;rintro e w1 ⟨⟨x0,o,D,G,N,B,rfl,Ha,_,_,_,hT,hN,hI⟩,t⟩;obtain⟨j,V⟩:∃j,w1.alloc (.cells #[.map (some x0.1),.map (some x0.2),.map (some o)] 49)=j:=⟨_,rfl⟩;have M:Below w1.heap.size w1 j:=by rw [<- V];exact zO _ _
  have g:Bx3 j w1.heap.size (.map (some x0.1)) (.map (some x0.2)) (.map (some o)):=by rw [<- V];exact Bx3.made _ _ _ _ _
  have O:=g.c0;have Q:=g.c1;have c2:=g.c2;have I:=hid g;have HZ:=hid (Qab Hc.out (Qab t M));have U:=Qam.1 A.1;have HA:Hid (∀m,Below j.heap.size j m ->Calls Tryz.prog 15 #[.map (some o),.slice none 0 0] m fun e w'=>∃v,e=.returned v/\ Own w' m.heap.size v (QdR (Lk R F T n))/\ Below m.heap.size m w'):=hid (fun m hb3=>Qiu ((Ha.below M).below hb3) (hid (fun r=>Nat.le_trans (Qdc R F T n r) U.2)) (hid (fun r=>(Qdd n U.1 r).1)) (hid (Qip n U.1)));have Hi:Hid (∀(bv:Value) (m:World),Below j.heap.size j m ->Own m j.heap.size bv (QdR (Lk R F T n)) ->Calls Tryz.prog 14 #[.agg #[.map (some x0.1),.map (some x0.2)],bv] m fun e w'=>∃v,e=.returned v/\ Own w' j.heap.size v Z/\ Gr m w' bv v):=hid (fun bv m hb3 ho3=>by
   have:=Qf4 l j B (9*l.length) N (hT.below M) hI (by have:=A.2.1;omega) A.2.2.1 A.lvB 8 [] rfl (by omega) bv _ m hb3 ho3 (by have:=Hj.out;omega);rw [show N (Qac [] 3)=some x0 from hN,Hf.out] at this;exact this)
  clear t M g hT hN hI Ha z k0 k1 U;go_wp2_with fail;try rw [V]
  clear V;have s:Hid (∀w',Below j.heap.size j w' ->(Below j.heap.size j w'/\ w'.cell? ⟨w1.heap.size,0,none⟩=some (.map (some x0.1))/\ w'.cell? ⟨w1.heap.size,1,none⟩=some (.map (some x0.2))/\ w'.cell? ⟨w1.heap.size,2,none⟩=some (.map (some o)))):=hid (fun w' hB=>by
   have X:=I.below hB I.lt;exact⟨hB,X.c0,X.c1,X.c2⟩)
  clear O Q c2 I;refine zR (S:=fun w'=>Below j.heap.size j w'/\ w'.cell? ⟨w1.heap.size,0,none⟩=some (.map (some x0.1))/\ w'.cell? ⟨w1.heap.size,1,none⟩=some (.map (some x0.2))/\ w'.cell? ⟨w1.heap.size,2,none⟩=some (.map (some o))) (s _ zI.drew) (fun qh=> ?_);refine tZ 0 14 ?_;refine tZ 1 15 ?_;refine tZ 2 16 ?_;refine tZ 3 17 ?_;refine cZ 4 ?_;intro K p;go_simp;refine(HA _ qh.1).mono ?_;rintro e m ⟨v3,rfl,o3,b3⟩;have b:=Qab qh.1 b3;have J:=hid (Own.weak o3 qh.1.size);refine p.out _ _ (s _ b) (fun qh=> ?_);clear p K;try simp only [zP]
  refine cZ 5 ?_;intro K p;go_simp;refine(Hi v3 m b J.out).mono ?_;rintro e w4 ⟨v4,rfl,o4,g4⟩;have Hb:Below j.heap.size j w4:=b.trans (g4.below b.size (fun k hk=>(World.ownsRow.lt J.out k hk).1));refine p.out _ _ (s _ Hb) (fun qh=> ?_);clear p K;try simp only [zP]
  refine tZ 6 6 ?_;refine zD ?_;have Hd:=hid (Qab HZ.out Hb);have Hk:=hid (Own.weak o4 HZ.size);obtain⟨av,cv,rfl,_⟩:=o4.any;have Hl:=He.out;clear g4 o4 J b Hb b3 o3 qh Hi HA s;by_cases hz:Z.length<=4000
  ·have L:=hid (Hh hz);have d1:decide ((4000:Int)<(Z.length:Int))=false:=by simp;omega
   have d2:decide (4000<Z.length)=false:=by simp;omega
   go_wp2_with fail;go_ret2;exact⟨_,Z,0,rfl,L.out,Hk.out,Hd.out⟩
  ·have L:=hid (Hg hz);have d1:decide ((4000:Int)<(Z.length:Int))=true:=by simp;omega
   have d2:decide (4000<Z.length)=true:=by simp;omega
   go_wp2_with fail;go_ret2;exact⟨_,[],2,rfl,L.out,World.ownsRow_nil _ _ _ _,Hd.out⟩
 ·have z:=hid (Qg8 a c l x n d R F T W hn hp hi hm HL.out HR.out q);have C:=hid (Qhu q);obtain⟨P,u⟩:∃P,psZ R F T n l=P:=⟨_,rfl⟩;rw [u] at C;rw [u];clear u q;go_enter Tryz.func6,Tryz.ntmps6;go_wp2_with fail;try rw [y]
  clear y;refine z.mono ?_;rintro e w1 ⟨rfl,t⟩;have H:=hid (Qab Hc.out t);clear t z k0 k1;go_wp2_with fail;go_ret2;first|exact⟨_,[],1,rfl,C.out,World.ownsRow_nil _ _ _ _,H.out⟩|exact⟨_,[],1,rfl,C.out,World.ownsRow_nil _ _ _ _,H.alloc H.size _⟩
def Qcq (f:Nat ->Int)(p:Nat):Nat ->Nat
 | 0=>0
 | k+1=>Qcq f p k+(f (p+k)%128).toNat*128^k
def Cnt (f:Nat ->Int)(n p m:Nat):Prop:=m<=9/\ (∀k,k<m ->p+k<n/\ 128<=f (p+k))/\ (p+m<n ->m<9 ->f (p+m)<128)
theorem Qle (f:Nat ->Int)(n p:Nat):∃m,Cnt f n p m:=by
 have u:∀d m,m+d=9 ->(∀k,k<m ->p+k<n/\ 128<=f (p+k)) ->∃m',Cnt f n p m':=by
  intro d;induction d with
  | zero=>intro m r h;exact⟨m,by omega,h,fun _ h9=>by omega⟩
  | succ d ih=>
   intro m r h;by_cases q:p+m<n/\ 128<=f (p+m)
   ·exact ih (m+1) (by omega) (fun k hk=>by
     by_cases j:k=m
     ·subst j;exact q
     ·exact h k (by omega))
   ·exact⟨m,by omega,h,fun j _=>by omega⟩
 exact u 9 0 rfl (fun k hk=>by omega)
def guC (f:Nat ->Int)(n p m:Nat):Nat:=if n<=p+m then 1 else if m=9/\ 1<f (p+m) then 2 else if 0<m/\ f (p+m)=0 then 3 else 0
def guV (f:Nat ->Int)(n p m:Nat):Nat:=if guC f n p m=0 then Qcq f p (m+1) else 0
def guA (f:Nat ->Int)(n p m:Nat):Nat:=if guC f n p m=0 then p+m+1 else p
theorem QcX {f:Nat ->Int}(hf:Byt f)(p:Nat):∀k,Qcq f p k<128^k
 | 0=>by simp [Qcq]
 | k+1=>by
  have m:=QcX hf p k;have j:(f (p+k)%128).toNat<=127:=by have:=hf (p+k);omega
  have q:(f (p+k)%128).toNat*128^k<=127*128^k:=Nat.mul_le_mul_right _ j;show Qcq f p k+_<_;rw [Nat.pow_succ];omega
theorem QoL {k:Nat}(h:k<=9):128^k<=9223372036854775808:=by
 have:=Nat.pow_le_pow_right (n:=128) (by omega) h;simpa using this
theorem QgM {f:Nat ->Int}(hf:Byt f)(p m:Nat)(hm:m<=9)(h9:m=9 ->f (p+m)<=1):∀k,k<=m+1 ->Qcq f p k<18446744073709551616:=by
 intro k z;by_cases h:k<=9
 ·have:=QcX hf p k;have:=QoL h;omega
 ·obtain rfl:k=10:=by omega
  obtain rfl:m=9:=by omega
  have q:=QcX hf p 9;have r:=h9 rfl;have u:=hf (p+9);have j:(f (p+9)%128).toNat<=1:=by omega
  have v:=QoL (k:=9) (by omega);show Qcq f p 9+(f (p+9)%128).toNat*128^9<_;have y:(f (p+9)%128).toNat*128^9<=1*128^9:=Nat.mul_le_mul_right _ j;omega
open Go.Extern.Stop Go.Stop Go.Extern
variable {EX : Nat -> Option Value}
structure QcK (w:World)(B:Nat)(aT aS aL aE:Addr):Prop where
 gT:w.cell? ⟨11,0,none⟩=some (.iface 261 (.pointer (some aT)))
 gS:w.cell? ⟨12,0,none⟩=some (.iface 261 (.pointer (some aS)))
 gE:w.cell? ⟨10,0,none⟩=some (.iface 261 (.pointer (some aE)))
 nTS:aT≠aS
 nTE:aT≠aE
 nSE:aS≠aE
 bT:∃c t,w.heap[aT.block]? =some (.cells c t (0,0))
 bS:∃c t,w.heap[aS.block]? =some (.cells c t (0,0))
 bE:∃c t,w.heap[aE.block]? =some (.cells c t (0,0))
 gM:∃v,w.cell? ⟨4,0,none⟩=some (.iface 261 v)
 gO:∃v,w.cell? ⟨5,0,none⟩=some (.iface 261 v)
 gN:∃v,w.cell? ⟨9,0,none⟩=some (.iface 261 v)
 x0:∃v,w.cell? ⟨0,0,none⟩=some (.iface 261 v)
 x1:∃v,w.cell? ⟨1,0,none⟩=some (.iface 261 v)
 x2:∃v,w.cell? ⟨7,0,none⟩=some (.iface 261 v)
 x3:∃v,w.cell? ⟨6,0,none⟩=some (.iface 261 v)
 x4:∃v,w.cell? ⟨3,0,none⟩=some (.iface 261 v)
 x5:∃v,w.cell? ⟨2,0,none⟩=some (.iface 261 v)
 x6:∃v,w.cell? ⟨8,0,none⟩=some (.iface 261 v)
 x7:∃v,w.cell? ⟨13,0,none⟩=some (.iface 261 v)
 x8:∃v,w.cell? ⟨14,0,none⟩=some (.iface 261 v)
 lG:15<=B
 lT:aT.block<B
 lS:aS.block<B
 lE:aE.block<B
theorem QcK.below {w w':World}{B:Nat}{aT aS aL aE:Addr}(h:QcK w B aT aS aL aE)(hb:Below B w w'):QcK w' B aT aS aL aE:=by
 have k:=h.lG;exact{
     gT:=(hb.cell (p:=⟨11,0,none⟩) (Nat.lt_of_lt_of_le (by decide) k)).trans h.gT,
     gS:=(hb.cell (p:=⟨12,0,none⟩) (Nat.lt_of_lt_of_le (by decide) k)).trans h.gS,
     gE:=(hb.cell (p:=⟨10,0,none⟩) (Nat.lt_of_lt_of_le (by decide) k)).trans h.gE,
     nTS:=h.nTS,nTE:=h.nTE,nSE:=h.nSE,
     bT:=by rw [hb.block _ h.lT];exact h.bT,
     bS:=by rw [hb.block _ h.lS];exact h.bS,
     bE:=by rw [hb.block _ h.lE];exact h.bE,
     gM:=by obtain⟨v,j⟩:=h.gM;exact⟨v,(hb.cell (p:=⟨4,0,none⟩) (Nat.lt_of_lt_of_le (by decide) k)).trans j⟩,
     gO:=by obtain⟨v,j⟩:=h.gO;exact⟨v,(hb.cell (p:=⟨5,0,none⟩) (Nat.lt_of_lt_of_le (by decide) k)).trans j⟩,
     gN:=by obtain⟨v,j⟩:=h.gN;exact⟨v,(hb.cell (p:=⟨9,0,none⟩) (Nat.lt_of_lt_of_le (by decide) k)).trans j⟩,
     x0:=by obtain⟨v,j⟩:=h.x0;exact⟨v,(hb.cell (p:=⟨0,0,none⟩) (Nat.lt_of_lt_of_le (by decide) k)).trans j⟩,
     x1:=by obtain⟨v,j⟩:=h.x1;exact⟨v,(hb.cell (p:=⟨1,0,none⟩) (Nat.lt_of_lt_of_le (by decide) k)).trans j⟩,
     x2:=by obtain⟨v,j⟩:=h.x2;exact⟨v,(hb.cell (p:=⟨7,0,none⟩) (Nat.lt_of_lt_of_le (by decide) k)).trans j⟩,
     x3:=by obtain⟨v,j⟩:=h.x3;exact⟨v,(hb.cell (p:=⟨6,0,none⟩) (Nat.lt_of_lt_of_le (by decide) k)).trans j⟩,
     x4:=by obtain⟨v,j⟩:=h.x4;exact⟨v,(hb.cell (p:=⟨3,0,none⟩) (Nat.lt_of_lt_of_le (by decide) k)).trans j⟩,
     x5:=by obtain⟨v,j⟩:=h.x5;exact⟨v,(hb.cell (p:=⟨2,0,none⟩) (Nat.lt_of_lt_of_le (by decide) k)).trans j⟩,
     x6:=by obtain⟨v,j⟩:=h.x6;exact⟨v,(hb.cell (p:=⟨8,0,none⟩) (Nat.lt_of_lt_of_le (by decide) k)).trans j⟩,
     x7:=by obtain⟨v,j⟩:=h.x7;exact⟨v,(hb.cell (p:=⟨13,0,none⟩) (Nat.lt_of_lt_of_le (by decide) k)).trans j⟩,
     x8:=by obtain⟨v,j⟩:=h.x8;exact⟨v,(hb.cell (p:=⟨14,0,none⟩) (Nat.lt_of_lt_of_le (by decide) k)).trans j⟩,
     lG:=h.lG,lT:=h.lT,lS:=h.lS,lE:=h.lE}
def Cur (EX:Nat ->Option Value)(w:World)(cb:Nat)(a:Option Addr)(n c:Nat)(x:Int):Prop:=w.cell? ⟨cb,0,none⟩=some (.slice a n c)/\ w.cell? ⟨cb,1,none⟩=some (.int .i64 x)/\ w.frozen? ⟨cb,1,none⟩=false/\∀i,2<=i ->w.cell? ⟨cb,i,none⟩=EX i/\ w.frozen? ⟨cb,i,none⟩=false
theorem Cur.lt {w:World}{cb:Nat}{a:Option Addr}{n c:Nat}{x:Int}(h:Cur EX w cb a n c x):cb<w.heap.size:=by
 rcases Nat.lt_or_ge cb w.heap.size with j|j
 ·exact j
 ·have:=h.1;simp [World.cell?,Array.getElem?_eq_none j] at this
theorem Cur.below {w w':World}{B cb:Nat}{a:Option Addr}{n c:Nat}{x:Int}(h:Cur EX w cb a n c x)(hb:Below B w w')(hB:cb<B):Cur EX w' cb a n c x:=
 ⟨(hb.cell (p:=⟨cb,0,none⟩) hB).trans h.1,(hb.cell (p:=⟨cb,1,none⟩) hB).trans h.2.1,(hb.frozen (p:=⟨cb,1,none⟩) hB).trans h.2.2.1,fun i hi=>⟨(hb.cell (p:=⟨cb,i,none⟩) hB).trans (h.2.2.2 i hi).1,(hb.frozen (p:=⟨cb,i,none⟩) hB).trans (h.2.2.2 i hi).2⟩⟩
theorem Cur.set {w:World}{cb:Nat}{a:Option Addr}{n c:Nat}{x:Int}(h:Cur EX w cb a n c x)(y:Int):Cur EX (w.setCell ⟨cb,1,none⟩ (.int .i64 y)) cb a n c y:=by
 obtain⟨j,k,m,q⟩:=h;refine⟨?_,?_,?_,fun i hi=> ?_⟩
 ·simp [World.cell?_setCell_other,j]
 ·exact World.cell?_setCell_same _ _ _ k
 ·rw [World.frozen?_setCell];exact m
 ·rw [World.cell?_setCell_other _ _ _ _ (by intro e;injection e with _ e;omega),World.frozen?_setCell];exact q i hi
theorem Cur.at' {w w':World}{cb:Nat}{a:Option Addr}{n c:Nat}{x:Int}(h:Cur EX w cb a n c x)(hb:w'.heap[cb]? =w.heap[cb]?):Cur EX w' cb a n c x:=
 ⟨(World.cell?_of_block (a:=⟨cb,0,none⟩) hb).trans h.1,(World.cell?_of_block (a:=⟨cb,1,none⟩) hb).trans h.2.1,(World.frozen?_of_block (a:=⟨cb,1,none⟩) hb).trans h.2.2.1,fun i hi=>⟨(World.cell?_of_block (a:=⟨cb,i,none⟩) hb).trans (h.2.2.2 i hi).1,(World.frozen?_of_block (a:=⟨cb,i,none⟩) hb).trans (h.2.2.2 i hi).2⟩⟩
theorem QdD {w w1:World}{cb i:Nat}(h:w.grownBy w1 none)(v:Value):w.grownBy (w1.setCell ⟨cb,i,none⟩ v) (some cb):=by
 refine⟨h.os,h.tape,h.output,?_,fun k hk hne=> ?_⟩
 ·have:=h.size;simpa [World.setCell] using this
 ·exact(zH _ _ _ _ (fun e=>hne (by rw [e]))).trans (h.block k hk (by simp))
theorem Qa2 (w:World)(n:Nat)(row:Option Nat):w.grownBy (w.drewN n) row:=⟨rfl,rfl,rfl,Nat.le_refl _,fun _ _ _=>rfl⟩
theorem Qbb {B:Nat}{a w:World}(h:Below B a w)(n:Nat):Below B a (w.drewN n):=⟨h.os,h.tape,h.output,h.size,h.block⟩
theorem Qfc (cb:Nat)(a:Option Addr)(n c:Nat)(x:Int)(aE:Addr)(w:World)(hn:n<=1048576)(hcur:Cur EX w cb a n c x)(hx:x<0 \/(n:Int)<=x)(hg:w.cell? ⟨10,0,none⟩=some (.iface 261 (.pointer (some aE)))):
  Calls Tryz.prog 135 #[.pointer (some ⟨cb,0,none⟩)] w fun e w'=>e=.returned (.tuple #[.int .u8 0,.iface 261 (.pointer (some aE))])/\ Below w.heap.size w w':=by
 obtain⟨q,r,u,_⟩:=hcur;by_cases j:x<0
 ·go_enter Tryz.func135,Tryz.ntmps135;go_wp2_with fail;go_quiet (fail);go_wp2_with fail;go_quiet (fail);go_wp2_with fail;go_ret2;exact⟨rfl,by simp;exact Qbb zI _⟩
 ·have k:(n:Int)<=x:=by omega
  have m:decide (x<0)=false:=by simpa using j
  go_enter Tryz.func135,Tryz.ntmps135;go_wp2_with fail;go_quiet (fail);go_wp2_with fail;go_quiet (fail);go_wp2_with fail;go_ret2;exact⟨rfl,by simp;exact Qbb zI _⟩
theorem Qjg (cb b off n c p:Nat)(z:Int)(w:World)(hn:n<=1048576)(hcur:Cur EX w cb (some ⟨b,off,none⟩) n c (p:Int))(hp:p<n)(hc:w.cell? ⟨b,off+p,none⟩=some (.int .u8 z)):
  Calls Tryz.prog 135 #[.pointer (some ⟨cb,0,none⟩)] w fun e w'=>e=.returned (.tuple #[.int .u8 z,.nilIface])/\ Cur EX w' cb (some ⟨b,off,none⟩) n c ((p+1:Nat):Int)/\ w.grownBy w' (some cb):=by
 have j:=hid hcur;obtain⟨u,v,y,_⟩:=hcur;have m:decide ((p:Int)<0)=false:=by simp
 have k:decide ((n:Int)<=(p:Int))=false:=by simp;omega
 have q:(0:Int)<=(p:Int):=Int.natCast_nonneg _;have r:(p:Int)<(n:Int):=by omega
 go_enter Tryz.func135,Tryz.ntmps135;go_wp2_with fail;go_quiet (fail);go_wp2_with fail;go_quiet (fail);go_wp2_with fail;go_ret2;refine⟨rfl,?_,?_⟩
 ·first|exact j.set _|(simp;exact j.set _)
 ·first|exact QdD (Qa2 _ _ _) _|(simp;exact QdD (Qa2 _ _ _) _)
theorem Qog (z j:Nat)(w:World)(hz:z<256)(h9:9<=j ->z<=1)(h0:0<j ->0<z)(hj:j<=9):
  Calls Tryz.prog 136 #[.int .u8 (z:Int),.int .i64 (j:Int)] w fun e w'=>e=.returned .nilIface/\ w'=w:=by
 by_cases m:9<=j
 ·have r:=h9 m;have q:=h0 (by omega);clear h9 h0;go_enter Tryz.func136,Tryz.ntmps136;go_wp2_with fail;go_ret;exact⟨rfl,rfl⟩
 ·by_cases k:0<j
  ·have q:=h0 k;clear h9 h0;go_enter Tryz.func136,Tryz.ntmps136;go_wp2_with fail;go_ret;exact⟨rfl,rfl⟩
  ·clear h9 h0;go_enter Tryz.func136,Tryz.ntmps136;go_wp2_with fail;go_ret;exact⟨rfl,rfl⟩
theorem QkN (z j:Nat)(aT:Addr)(w:World)(hz:z<256)(hz1:1<z)(hj9:9<=j)(hj:j<=9)(hg:w.cell? ⟨11,0,none⟩=some (.iface 261 (.pointer (some aT)))):
  Calls Tryz.prog 136 #[.int .u8 (z:Int),.int .i64 (j:Int)] w fun e w'=>e=.returned (.iface 261 (.pointer (some aT)))/\ w'=w:=by
 go_enter Tryz.func136,Tryz.ntmps136;go_wp2_with fail;go_ret;exact⟨rfl,rfl⟩
theorem QkM (z j:Nat)(aS:Addr)(w:World)(hz:z<=0)(hj:0<j)(hj9:j<=9)(hg:w.cell? ⟨12,0,none⟩=some (.iface 261 (.pointer (some aS)))):
  Calls Tryz.prog 136 #[.int .u8 (z:Int),.int .i64 (j:Int)] w fun e w'=>e=.returned (.iface 261 (.pointer (some aS)))/\ w'=w:=by
 by_cases k:9<=j
 ·go_enter Tryz.func136,Tryz.ntmps136;go_wp2_with fail;go_ret;exact⟨rfl,rfl⟩
 ·go_enter Tryz.func136,Tryz.ntmps136;go_wp2_with fail;go_ret;exact⟨rfl,rfl⟩
variable {EX : Nat -> Option Value}
def Plc (w:World)(pb:Nat)(x:Int)(u:Value):Prop:=w.cell? ⟨pb,1,none⟩=some (.int .i64 x)/\ w.cell? ⟨pb,2,none⟩=some u/\ pb<w.heap.size
theorem Qaf {w w1 w2:World}{cb:Nat}(h1:w.grownBy w1 (some cb))(h2:w1.grownBy w2 (some cb)):w.grownBy w2 (some cb):=
 h1.andThen h2 (fun j hj=> .inr hj)
theorem Qag {w w1 w2:World}{cb:Nat}(h1:w.grownBy w1 (some cb))(h2:Below w1.heap.size w1 w2):w.grownBy w2 (some cb):=
 Qaf h1 ⟨h2.os,h2.tape,h2.output,h2.size,fun k hk _=>h2.block k hk⟩
theorem Qbo (w:World)(row:Option Nat):w.grownBy w row:=⟨rfl,rfl,rfl,Nat.le_refl _,fun _ _ _=>rfl⟩
theorem QoU (cb B:Nat)(a:Option Addr)(n c:Nat)(x:Int)(aT aS aL aE:Addr)(w:World)(hn:n<=1048576)(hcur:Cur EX w cb a n c x)(hx:x<0 \/(n:Int)<=x)(hE:QcK w B aT aS aL aE):
  Calls Tryz.prog 105 #[.pointer (some ⟨cb,0,none⟩)] w fun e w'=>∃pb,e=.returned (.tuple #[.int .u64 0,.iface 107 (.pointer (some ⟨pb,0,none⟩))])/\ w.heap.size<=pb/\ Plc w' pb x (.iface 261 (.pointer (some aE)))/\ Below w.heap.size w w':=by
 have q:=hid hcur;have r:=hid hE;obtain⟨u,v,y,_⟩:=hcur;clear hE;go_enter Tryz.func105,Tryz.ntmps105;go_wp2_with fail;refine wp_loop_rounds 1 ?_;rw [rounds_succ];go_wp2_with fail;refine(Qfc cb a n c x aE _ hn q.out hx r.gE).mono ?_;rintro e w1 ⟨rfl,j⟩;have k:=j.size;have m:=hid j;clear j;go_wp2_with fail;go_ret2;refine⟨_,rfl,k,⟨by simp,by simp,by simp⟩,m.alloc k _⟩
theorem QlN (z:Nat)(h:z<256):bits BinOp.and IntKind.u8 (z:Int) 127=((z%128:Nat):Int):=by
 have:=u8_and_nat z 127 (by omega) (by omega);rw [show (127:Nat)=2^7 - 1 from rfl,Nat.and_two_pow_sub_one_eq_mod] at this;exact this
theorem QnH (x y j:Nat)(hx:x<128^j)(h:x+y*128^j<18446744073709551616):bits BinOp.or IntKind.u64 (x:Int) ((y*128^j:Nat):Int)=((x+y*128^j:Nat):Int):=by
 have e:=u64_or_nat x (y*128^j) (by omega) (by omega);have m:x|||(y*128^j)=x+y*128^j:=by
  have k:128^j=2^(7*j):=by rw [Nat.pow_mul]
  rw [k] at hx ⊢;have:=Nat.two_pow_add_eq_or_of_lt (i:=7*j) (b:=x) hx y;rw [Nat.or_comm,Nat.mul_comm y];omega
 rw [m] at e;exact e
variable {EX : Nat -> Option Value}
def adr (aT aS aE:Addr)(k:Nat):Addr:=if k=1 then aE else if k=2 then aT else aS
theorem Qh8 (x z j:Nat)(hz:z<256)(hx:x<128^j)(h:x+z%128*128^j<18446744073709551616):
  bits BinOp.or IntKind.u64 (x:Int) (IntKind.u64.wrap (IntKind.u64.wrap (bits BinOp.and IntKind.u8 (z:Int) 127)*2^(7*j)))=((x+z%128*128^j:Nat):Int):=by
 have k:((2:Int)^(7*j))=((128^j:Nat):Int):=by
  rw [Int.pow_mul];push_cast;rfl
 have m:IntKind.u64.wrap ((z%128:Nat):Int)=((z%128:Nat):Int):=by rw [IntKind.wrap_u64];omega
 have r:((z%128:Nat):Int)*((128^j:Nat):Int)=((z%128*128^j:Nat):Int):=by push_cast;rfl
 have u:IntKind.u64.wrap ((z%128*128^j:Nat):Int)=((z%128*128^j:Nat):Int):=by
  obtain⟨q,v⟩:∃q:Nat,q=z%128*128^j:=⟨_,rfl⟩;rw [<- v] at h ⊢;rw [IntKind.wrap_u64];omega
 rw [QlN z hz,k,m,r,u];exact QnH x (z%128) j hx h
theorem QcH {f:Nat ->Int}{p j z:Nat}(hz:f (p+j)=(z:Int)):Qcq f p (j+1)=Qcq f p j+z%128*128^j:=by
 show Qcq f p j+_=_;rw [hz];congr 2
theorem Qpr (cb B b off n c p m:Nat)(f:Nat ->Int)(aT aS aL aE:Addr)(w:World)(hn:n<=1048576)(hf:Byt f)(hcur:Cur EX w cb (some ⟨b,off,none⟩) n c (p:Int))(hp:p<n)(hm:Cnt f n p m)(hE:QcK w B aT aS aL aE)(hBc:B<=cb)(hbc:b≠cb)(hb:b<w.heap.size)
  (hc:∀i,i<n ->w.cell? ⟨b,off+i,none⟩=some (.int .u8 (f i))):
  Calls Tryz.prog 105 #[.pointer (some ⟨cb,0,none⟩)] w fun e w'=>w.grownBy w' (some cb)/\ ((guC f n p m=0/\ e=.returned (.tuple #[.int .u64 (guV f n p m:Int),.nilIface])/\ Cur EX w' cb (some ⟨b,off,none⟩) n c (guA f n p m:Int)) \/
   (guC f n p m≠0/\∃pb,e=.returned (.tuple #[.int .u64 0,.iface 107 (.pointer (some ⟨pb,0,none⟩))])/\ w.heap.size<=pb/\ Plc w' pb (p:Int) (.iface 261 (.pointer (some (adr aT aS aE (guC f n p m)))))/\∃x,Cur EX w' cb (some ⟨b,off,none⟩) n c x)):=by
 have X:=hid hcur;have O:=hid hE;have M:=hid hm;have C:=hid hc;have N:=hm.1;have He:=hcur.lt;have U:B<=w.heap.size:=by omega
 obtain⟨k0,k1,k2,_⟩:=hcur;clear hE hm hc;go_enter Tryz.func105,Tryz.ntmps105;go_wp2_with fail;go_loopw [5,6] (fun v i wr=>∃(j x:Nat),j<=m/\ Hid (x=Qcq f p j)/\ i=.int .i64 (j:Int)/\ v=.int .u64 (x:Int)/\ Hid (Cur EX wr cb (some ⟨b,off,none⟩) n c ((p+j:Nat):Int))/\ Hid (w.grownBy wr (some cb))) (fun _ i _=>m - (intOf i).toNat);case atStart=>exact⟨0,0,Nat.zero_le _,hid rfl,rfl,rfl,X,hid (Qbo _ _)⟩
 case round=>
  clear k0 k1 k2;obtain⟨j,x,hj,g,rfl,rfl,s,A⟩:=hrel;have P:=hid ((Below.refl B w).grown A.out U (fun k hk=>by injection hk with hk;omega));have R:=hid (O.below P.out);by_cases E:p+j<n
  ·obtain⟨z,G⟩:∃z:Nat,f (p+j)=(z:Int):=⟨(f (p+j)).toNat,by have:=(hf (p+j)).1;omega⟩;have t:z<256:=by have:=(hf (p+j)).2;omega
   have Hb:Hid (wr.cell? ⟨b,off+(p+j),none⟩=some (.int .u8 (z:Int))):=by
    show _=_;rw [World.cell?_of_block (A.block b hb (by simp;omega)),C.out _ E,G]
   have q:=hid G;clear G;go_wp2_with fail;refine(Qjg cb b off n c (p+j) (z:Int) _ hn s.out E Hb.out).mono ?_;rintro e w1 ⟨rfl,I,J⟩;have u:=hid I;have r:=hid (Qaf A.out J);clear I J;by_cases L:j<m
   ·have Ha:128<=z:=by have:=(M.2.1 j L).2;rw [q.out] at this;omega
    have Hf:j<=8:=by omega
    go_wp2_with fail;refine(Qog z j _ t (by omega) (by omega) (by omega)).mono ?_;rintro e H ⟨rfl,rfl⟩;have Z:=hid (Qh8 x z j t (by rw [g.out];exact QcX hf p j) (by
     have o:=QcX hf p (j+1);rw [QcH q.out,<- g.out] at o;have h2:=QoL (k:=j+1) (by omega);omega))
    go_wp2_with fail;refine⟨⟨j+1,x+z%128*128^j,L,hid (by rw [QcH q.out,g.out]),by go_num,by rw [Z.out],?_,r⟩,by simp [intOf];omega⟩;have e:p+j+1=p+(j+1):=by omega
    rw [<- e];exact u
   ·obtain rfl:j=m:=by omega
    by_cases T:9<=j/\ 1<z
    ·have y:Hid (guC f n p j=2):=by show _=_;unfold guC;rw [if_neg (by omega),if_pos ⟨by omega,by rw [q.out];omega⟩]
     obtain⟨K,Hd⟩:=T;have Y:=hid (O.below ((Below.refl B w).grown r.out U (fun k hk=>by injection hk with hk;omega)));go_wp2_with fail;refine(QkN z j aT _ t Hd K N Y.gT).mono ?_;rintro e H ⟨rfl,rfl⟩;go_wp2_with fail;go_ret2;refine⟨Qag r.out (zO _ _),.inr ⟨by rw [y.out];omega,_,rfl,r.size,⟨by simp,by rw [y.out];simp [adr],by simp⟩,_,u.below (zO _ _) u.lt⟩⟩
    by_cases W:0<j/\ z<=0
    ·have y:Hid (guC f n p j=3):=by show _=_;unfold guC;rw [if_neg (by omega),if_neg (by rw [q.out];omega),if_pos ⟨by omega,by rw [q.out];omega⟩]
     obtain⟨D,Hc⟩:=W;have Y:=hid (O.below ((Below.refl B w).grown r.out U (fun k hk=>by injection hk with hk;omega)));go_wp2_with fail;refine(QkM z j aS _ Hc D N Y.gS).mono ?_;rintro e H ⟨rfl,rfl⟩;go_wp2_with fail;go_ret2;refine⟨Qag r.out (zO _ _),.inr ⟨by rw [y.out];omega,_,rfl,r.size,⟨by simp,by rw [y.out];simp [adr],by simp⟩,_,u.below (zO _ _) u.lt⟩⟩
    have V:Hid (guC f n p j=0):=by show _=_;unfold guC;rw [if_neg (by omega),if_neg (by rw [q.out];omega),if_neg (by rw [q.out];omega)]
    have S:Hid (guV f n p j=x+z%128*128^j):=by show _=_;unfold guV;rw [if_pos V.out,QcH q.out,g.out]
    have F:Hid (guA f n p j=p+j+1):=by show _=_;unfold guA;rw [if_pos V.out]
    have Ha:z<128:=by
     by_cases K:9<=j
     ·omega
     ·have:=M.2.2 E (by omega);rw [q.out] at this;omega
    have Z:=hid (Qh8 x z j t (by rw [g.out];exact QcX hf p j) (by
     have o:=QgM hf p j (by omega) (fun h=>by rw [q.out];omega) (j+1) (by omega);rw [QcH q.out,<- g.out] at o;exact o))
    go_wp2_with fail;refine(Qog z j _ t (by omega) (by omega) (by omega)).mono ?_;rintro e H ⟨rfl,rfl⟩;go_wp2_with fail;go_ret2;refine⟨r.out,.inl ⟨V.out,?_,by rw [F.out];exact u.out⟩⟩;rw [S.out,<- Z.out];rfl
  ·obtain rfl:j=m:=by
    rcases Nat.lt_or_ge j m with h|h
    ·exact absurd (M.2.1 j h).1 E
    ·omega
   have y:Hid (guC f n p j=1):=by show _=_;unfold guC;rw [if_pos (by omega)]
   go_wp2_with fail;refine(Qfc cb _ n c ((p+j:Nat):Int) aE _ hn s.out (.inr (by omega)) R.gE).mono ?_;rintro e w1 ⟨rfl,Q⟩;have r:=hid (Qag A.out Q);have u:=hid (s.below Q s.lt);clear Q;go_wp2_with fail;go_ret2;refine⟨Qag r.out (zO _ _),.inr ⟨by rw [y.out];omega,_,rfl,r.size,⟨by simp,by rw [y.out];simp [adr],by simp⟩,_,u.below (zO _ _) u.lt⟩⟩
variable {EX : Nat -> Option Value}
theorem Qnp (f:Nat ->Int)(n p m:Nat):guC f n p m=0 \/(guC f n p m=1 \/guC f n p m=2 \/guC f n p m=3):=by
 unfold guC;repeat' split
 all_goals simp
def gX (f:Nat ->Int)(n m:Nat)(x:Int):Nat×Int×Nat:=if 0<=x/\ x<n then(guV f n x.toNat m,(guA f n x.toNat m:Int),guC f n x.toNat m) else(0,x,1)
theorem QhN {f:Nat ->Int}{n m p:Nat}(hp:p<n):gX f n m (p:Int)=(guV f n p m,(guA f n p m:Int),guC f n p m):=by
 unfold gX;rw [if_pos ⟨by omega,by omega⟩];simp
theorem QiK {f:Nat ->Int}{n m:Nat}{x:Int}(hx:x<0 \/(n:Int)<=x):gX f n m x=(0,x,1):=by
 unfold gX;rw [if_neg (by omega)]
theorem QiJ {f:Nat ->Int}{n m:Nat}{x:Int}(hm:Cnt f n x.toNat m)(hf:Byt f)(hn:n<=1048576)(hx0: -9223372036854775808<=x)(hx1:x<=9223372036854775807):
  (gX f n m x).1<18446744073709551616/\ (gX f n m x).2.2<=3/\ ((gX f n m x).2.2=0 ->0<=(gX f n m x).2.1/\ (gX f n m x).2.1<=n)/\ ((gX f n m x).2.2≠0 ->(gX f n m x).2.1=x):=by
 by_cases v:0<=x/\ x<n
 ·obtain⟨p,rfl⟩:∃p:Nat,x=(p:Int):=⟨x.toNat,by omega⟩;rw [QhN (by omega)];have u:Cnt f n p m:=by simpa using hm
  refine⟨?_,?_,?_,?_⟩
  ·show guV f n p m<_;unfold guV;split
   ·rename_i j;refine QgM hf p m u.1 (fun h9=> ?_) (m+1) zL;unfold guC at j;by_cases k:n<=p+m
    ·rw [if_pos k] at j;omega
    ·rw [if_neg k] at j;by_cases r:m=9/\ 1<f (p+m)
     ·rw [if_pos r] at j;omega
     ·omega
   ·omega
  ·show guC f n p m<=3;rcases Qnp f n p m with h|h|h|h<;>omega
  ·intro j;have q:guC f n p m=0:=j;have k:¬n<=p+m:=fun k=>by unfold guC at q;rw [if_pos k] at q;omega
   show 0<=(guA f n p m:Int)/\ (guA f n p m:Int)<=n;unfold guA;rw [if_pos q];omega
  ·intro j;show (guA f n p m:Int)=p;unfold guA;rw [if_neg j]
 ·rw [QiK (by omega)];exact⟨by simp,by simp,fun h=>by simp at h,fun _=>rfl⟩
theorem QcY (f:Nat ->Int)(p:Nat):∀j,Qcq f p (j+1)=(f p%128).toNat+128*Qcq f (p+1) j
 | 0=>by simp [Qcq]
 | j+1=>by
  have k:=QcY f p j;show Qcq f p (j+1)+(f (p+(j+1))%128).toNat*128^(j+1)=_;rw [k];show _=(f p%128).toNat+128*(Qcq f (p+1) j+(f (p+1+j)%128).toNat*128^j);rw [show p+1+j=p+(j+1) from by omega,Nat.pow_succ,Nat.mul_add];have:(f (p+(j+1))%128).toNat*(128^j*128)=128*((f (p+(j+1))%128).toNat*128^j):=by
   rw [Nat.mul_comm (128^j) 128,<- Nat.mul_assoc,Nat.mul_comm _ 128,Nat.mul_assoc]
  omega
def At (f:Nat ->Int)(p:Nat)(U:List Int):Prop:=∀i,i<U.length ->f (p+i)=U.getD i 0
theorem At.tail {f:Nat ->Int}{p:Nat}{z:Int}{U:List Int}(h:At f p (z::U)):At f (p+1) U:=by
 intro i j;have:=h (i+1) (by simp;omega);rw [show p+1+i=p+(i+1) from by omega,this];simp
theorem At.head {f:Nat ->Int}{p:Nat}{z:Int}{U:List Int}(h:At f p (z::U)):f p=z:=by simpa using h 0 (by simp)
theorem QkK (k:Nat):∀(V p:Nat) (f:Nat ->Int),V<128^(k+1) ->At f p (uvF k V) ->
  (∀i,i+1<(uvF k V).length ->128<=f (p+i)/\ f (p+i)<256)/\ (0<=f (p+((uvF k V).length - 1))/\ f (p+((uvF k V).length - 1))<128)/\ (0<V ->f (p+((uvF k V).length - 1))≠0)/\ Qcq f p (uvF k V).length=V:=by
 have o:∀(k V p:Nat) (f:Nat ->Int),V<128 ->At f p (uvF k V) ->
   (∀i,i+1<(uvF k V).length ->128<=f (p+i)/\ f (p+i)<256)/\ (0<=f (p+((uvF k V).length - 1))/\ f (p+((uvF k V).length - 1))<128)/\ (0<V ->f (p+((uvF k V).length - 1))≠0)/\ Qcq f p (uvF k V).length=V:=by
  intro k V p f m h;rw [QcI k V m] at h ⊢;have j:=h.head;refine⟨fun i r=>by simp at r,?_,?_,?_⟩
  ·simp;rw [j];omega
  ·simp;rw [j];omega
  ·simp [Qcq];rw [j];omega
 induction k with
 | zero=>intro V p f m h;exact o 0 V p f (by simpa using m) h
 | succ k ih=>
  intro V p f m h;by_cases v:V<128
  ·exact o (k+1) V p f v h
  ·rw [Qee k V v] at h ⊢;have q:=h.head;have b:=(Qai k (V/128)).2;obtain⟨y,z,g,t⟩:=ih (V/128) (p+1) f (by rw [Nat.pow_succ] at m;omega) h.tail;obtain⟨l,u⟩:∃l,(uvF k (V/128)).length=l+1:=⟨(uvF k (V/128)).length - 1,by omega⟩;rw [u] at y z g t;simp only [List.length_cons,u];refine⟨?_,?_,?_,?_⟩
   ·intro i r;by_cases j:i=0
    ·subst j;simp;rw [q];omega
    ·have:=y (i - 1) (by omega);rwa [show p+1+(i - 1)=p+i from by omega] at this
   ·have:=z;rw [show p+1+(l+1 - 1)=p+(l+1+1 - 1) from by omega] at this;exact this
   ·intro _;have:=g (by omega);rw [show p+1+(l+1 - 1)=p+(l+1+1 - 1) from by omega] at this;exact this
   ·rw [QcY,t,q];omega
theorem Qnm {f:Nat ->Int}{n p V m:Nat}(hV:V<18446744073709551616)(h:At f p (uvF 9 V))(hn:p+(uvF 9 V).length<=n)(hm:Cnt f n p m):
  gX f n m (p:Int)=(V,((p+(uvF 9 V).length:Nat):Int),0):=by
 have i:=Qai 9 V;obtain⟨z,g,y,k⟩:=QkK 9 V p f (by omega) h;obtain⟨l,u⟩:∃l,(uvF 9 V).length=l+1:=⟨(uvF 9 V).length - 1,by omega⟩;rw [u] at z g y k hn i ⊢;simp only [Nat.add_sub_cancel] at g y;have b:m=l:=by
  rcases Nat.lt_trichotomy m l with r|r|r
  ·have A:=(z m (by omega)).1;have E:=hm.2.2 (by omega) (by omega);omega
  ·exact r
  ·have:=(hm.2.1 l r).2;omega
 subst b;have t:m=9 ->f (p+m)<=1:=by
  intro e;subst e;have j:Qcq f p (9+1)=Qcq f p 9+(f (p+9)%128).toNat*128^9:=rfl;rw [j] at k;have q:(f (p+9)%128).toNat=(f (p+9)).toNat:=by omega
  rw [q] at k;simp only [Nat.reducePow] at k;omega
 have s:0<m ->f (p+m)≠0:=by
  intro M;refine y ?_;rcases Nat.eq_zero_or_pos V with v|v
  ·rw [v,QcI 9 0 (by omega)] at u;simp at u;omega
  ·exact v
 have o:guC f n p m=0:=by
  unfold guC;rw [if_neg (by omega),if_neg (by rintro⟨j,q⟩;have:=t j;omega),if_neg (by rintro⟨j,q⟩;exact s j q)]
 rw [QhN (by omega)];unfold guV guA;rw [o];simp [k];omega
theorem QcA {U W:List Int}{i:Nat}(h:i<U.length):(U++W).getD i 0=U.getD i 0:=by
 simp [List.getD,h,List.getElem?_append_left]
theorem QkL (k:Nat):∀(m p:Nat) (f:Nat ->Int),m<=k ->(∀i,i<m ->128<=f (p+i)/\ f (p+i)<256) ->0<=f (p+m) ->f (p+m)<128 ->(0<m ->f (p+m)≠0) ->
  uvF k (Qcq f p (m+1))=(List.range (m+1)).map (fun i=>f (p+i)):=by
 have E:∀(m p:Nat) (f:Nat ->Int),0<=f (p+m) ->f (p+m)<128 ->f (p+m)≠0 ->0<Qcq f p (m+1):=by
  intro m p f q r u;show 0<Qcq f p m+(f (p+m)%128).toNat*128^m;have:0<(f (p+m)%128).toNat*128^m:=Nat.mul_pos (by omega) (Nat.pow_pos (by omega));omega
 induction k with
 | zero=>
  intro m p f o _ q r _;obtain rfl:m=0:=by omega
  have e:Qcq f p 1=(f p).toNat:=by simp [Qcq];simp at q r;omega
  rw [show (0:Nat)+1=1 from rfl,e,QcI 0 _ (by simp at q r;omega)];simp at q ⊢;omega
 | succ k ih=>
  intro m p f o v q r u;rcases Nat.eq_zero_or_pos m with rfl|s
  ·have e:Qcq f p 1=(f p).toNat:=by simp [Qcq];simp at q r;omega
   rw [show (0:Nat)+1=1 from rfl,e,QcI _ _ (by simp at q r;omega)];simp at q ⊢;omega
  ·obtain⟨j,rfl⟩:∃j,m=j+1:=⟨m - 1,by omega⟩;have e:=QcY f p (j+1);have b:=v 0 (by omega);simp only [Nat.add_zero] at b;have y:0<=f (p+1+j):=by rw [show p+1+j=p+(j+1) from by omega];exact q
   have z:f (p+1+j)<128:=by rw [show p+1+j=p+(j+1) from by omega];exact r
   have h:f (p+1+j)≠0:=by rw [show p+1+j=p+(j+1) from by omega];exact u s
   have M:=E j (p+1) f y z h;have A:=ih j (p+1) f (by omega) (fun i hi=>by have:=v (i+1) (by omega);rwa [show p+(i+1)=p+1+i from by omega] at this) y z (fun _=>h);rw [e,Qee k _ (by omega)];have g:((f p%128).toNat+128*Qcq f (p+1) (j+1))/128=Qcq f (p+1) (j+1):=by omega
   have t:(((128+((f p%128).toNat+128*Qcq f (p+1) (j+1))%128:Nat)):Int)=f p:=by omega
   rw [g,t,A];conv=>rhs;rw [List.range_succ_eq_map]
   simp only [List.map_cons,List.map_map,Nat.add_zero];congr 1;apply List.map_congr_left;intro i _;show f (p+1+i)=f (p+(i+1));rw [show p+1+i=p+(i+1) from by omega]
theorem Qmh {f:Nat ->Int}{n m:Nat}{x:Int}(hf:Byt f)(hm:Cnt f n x.toNat m)(h:(gX f n m x).2.2=0):
  ∃p:Nat,x=(p:Int)/\ p+m+1<=n/\ (gX f n m x).1<18446744073709551616/\ (gX f n m x).2.1=((p+m+1:Nat):Int)/\ uvF 9 (gX f n m x).1=(List.range (m+1)).map (fun i=>f (p+i)):=by
 by_cases t:0<=x/\ x<n
 ·obtain⟨p,rfl⟩:∃p:Nat,x=(p:Int):=⟨x.toNat,by omega⟩;have k:Cnt f n p m:=by simpa using hm
  rw [QhN (by omega)] at h ⊢;have j:guC f n p m=0:=h;have q:¬n<=p+m:=fun q=>by unfold guC at j;rw [if_pos q] at j;omega
  have r:¬(m=9/\ 1<f (p+m)):=fun r=>by unfold guC at j;rw [if_neg q,if_pos r] at j;omega
  have u:¬(0<m/\ f (p+m)=0):=fun u=>by unfold guC at j;rw [if_neg q,if_neg r,if_pos u] at j;omega
  have v:guV f n p m=Qcq f p (m+1):=by unfold guV;rw [if_pos j]
  have g:guA f n p m=p+m+1:=by unfold guA;rw [if_pos j]
  have y:f (p+m)<128:=by
   by_cases z:m=9
   ·omega
   ·exact k.2.2 (by omega) (by have:=k.1;omega)
  refine⟨p,rfl,by omega,?_,by show (guA f n p m:Int)=_;rw [g],?_⟩
  ·show guV f n p m<_;rw [v];exact QgM hf p m k.1 (fun z=>by omega) (m+1) zL
  ·show uvF 9 (guV f n p m)=_;rw [v];exact QkL 9 m p f k.1 (fun i hi=>⟨(k.2.1 i hi).2,(hf _).2⟩) (hf _).1 y (fun h0 e=>u ⟨h0,e⟩)
 ·rw [QiK (by omega)] at h;simp at h
noncomputable def cN (f:Nat ->Int)(n p:Nat):Nat:=(Qle f n p).choose
theorem Qgi (f:Nat ->Int)(n p:Nat):Cnt f n p (cN f n p):=(Qle f n p).choose_spec
noncomputable def rd (f:Nat ->Int)(n x:Nat)(most:Int):Option (Nat×Nat):=
 if (gX f n (cN f n x) (x:Int)).2.2=0/\ ((gX f n (cN f n x) (x:Int)).1:Int)<=most then some ((gX f n (cN f n x) (x:Int)).1,(gX f n (cN f n x) (x:Int)).2.1.toNat) else none
theorem QgW {f:Nat ->Int}{x:Nat}{U:List Int}{m:Nat}(h:U=(List.range m).map (fun i=>f (x+i))):At f x U:=by
 intro i j;subst h;have k:i<m:=by simpa using j
 simp [List.getD,k]
theorem Qa8 {f:Nat ->Int}(hf:Byt f){n x:Nat}{most:Int}{V x':Nat}:
  rd f n x most=some (V,x')↔V<18446744073709551616/\ (V:Int)<=most/\ At f x (uvF 9 V)/\ x'=x+(uvF 9 V).length/\ x'<=n:=by
 constructor
 ·intro h;unfold rd at h;split at h
  ·rename_i hc;injection h with h;injection h with h1 h2;obtain⟨p,g,t,j,m,k⟩:=Qmh hf (by simpa using Qgi f n x) hc.1;have z:p=x:=by omega
   subst z;rw [h1] at j k hc;have u:(uvF 9 V).length=cN f n p+1:=by rw [k];simp
   refine⟨j,hc.2,QgW k,?_,?_⟩
   ·rw [<- h2,m,u];simp;omega
   ·rw [<- h2,m];simp;omega
  ·cases h
 ·rintro⟨j,v,q,rfl,y⟩;have r:=Qnm j q y (Qgi f n x);unfold rd;rw [r];simp [v];omega
def Qdl:Int ->List (Int×Int) ->List Int
 | _,[]=>[]
 | least,p::l=>uvF 9 (p.1 - least).toNat++uvF 9 (p.2 - p.1).toNat++Qdl (p.2+2) l
def okS:Int ->List (Int×Int) ->Prop
 | _,[]=>True
 | least,p::l=>least<=p.1/\ p.1<=p.2/\ p.2<=1000000000/\ okS (p.2+2) l
noncomputable def Qa0 (f:Nat ->Int)(n:Nat):Nat ->Int ->Nat ->Option (List (Int×Int)×Nat)
 | 0,_,x=>some ([],x)
 | k+1,least,x=>do
  let (skip,x1) <- rd f n x (1000000000 - least)
  let (more,x2) <- rd f n x1 (1000000000 - (least+skip))
  let (l,x3) <- Qa0 f n k (least+skip+more+2) x2
  some ((least+(skip:Int),least+(skip:Int)+(more:Int))::l,x3)
theorem At.app {f:Nat ->Int}{x:Nat}{U W:List Int}:At f x (U++W)↔At f x U/\ At f (x+U.length) W:=by
 constructor
 ·intro h;refine⟨fun i j=> ?_,fun i j=> ?_⟩
  ·have:=h i (by simp;omega);rw [this,QcA j]
  ·have:=h (U.length+i) (by simp;omega);rw [Nat.add_assoc,this];simp [List.getD,List.getElem?_append_right]
 ·rintro⟨m,q⟩ i j;by_cases k:i<U.length
  ·rw [m i k,QcA k]
  ·have:=q (i - U.length) (by simp at j;omega);rw [show x+U.length+(i - U.length)=x+i from by omega] at this;rw [this];simp [List.getD,List.getElem?_append_right (show U.length<=i by omega)]
theorem QdV {f:Nat ->Int}(hf:Byt f){n:Nat}:∀(k:Nat) (j:Int) (x:Nat) (l:List (Int×Int)) (x':Nat),0<=j ->
  (Qa0 f n k j x=some (l,x')/\ x<=n↔l.length=k/\ okS j l/\ At f x (Qdl j l)/\ x'=x+(Qdl j l).length/\ x'<=n):=by
 intro k;induction k with
 | zero=>
  intro j x l x' _;cases l with
  | nil=>simp [Qa0,Qdl,okS,At];omega
  | cons p l=>simp [Qa0]
 | succ k ih=>
  intro j x l x' W;cases l with
  | nil=>
   simp only [List.length_nil];constructor
   ·rintro⟨h,_⟩;exfalso;unfold Qa0 at h;cases u:rd f n x (1000000000 - j) with
    | none=>rw [u] at h;simp at h
    | some a=>
     rw [u] at h;simp only [Option.bind_eq_bind,Option.bind_some] at h;cases h2:rd f n a.2 (1000000000 - (j+a.1)) with
     | none=>rw [h2] at h;simp at h
     | some b=>
      rw [h2] at h;simp only [Option.bind_some] at h;cases v:Qa0 f n k (j+a.1+b.1+2) b.2 with
      | none=>rw [v] at h;simp at h
      | some c=>rw [v] at h;simp at h
   ·rintro⟨h,_⟩;omega
  | cons p l=>
   obtain⟨m,q⟩:=p;constructor
   ·rintro⟨h,Ha⟩;unfold Qa0 at h;cases u:rd f n x (1000000000 - j) with
    | none=>rw [u] at h;simp at h
    | some a=>
     obtain⟨r,T⟩:=a;rw [u] at h;simp only [Option.bind_eq_bind,Option.bind_some] at h;cases h2:rd f n T (1000000000 - (j+r)) with
     | none=>rw [h2] at h;simp at h
     | some b=>
      obtain⟨y,O⟩:=b;rw [h2] at h;simp only [Option.bind_some] at h;cases v:Qa0 f n k (j+r+y+2) O with
      | none=>rw [v] at h;simp at h
      | some c=>
       obtain⟨t,Q⟩:=c;rw [v] at h;simp only [Option.bind_some,Option.some.injEq,Prod.mk.injEq,List.cons.injEq] at h;obtain⟨⟨⟨g,z⟩,rfl⟩,rfl⟩:=h;obtain⟨s1,s2,X,o,s5⟩:=(Qa8 hf).1 u;obtain⟨t1,t2,B,M,C⟩:=(Qa8 hf).1 h2;obtain⟨D,F,P,R,S⟩:=(ih (j+r+y+2) O t Q (by omega)).1 ⟨v,C⟩;subst g z;have A:(j+(r:Int) - j).toNat=r:=by omega
       have E:(j+(r:Int)+(y:Int) - (j+(r:Int))).toNat=y:=by omega
       refine⟨by simp [D],⟨by show j<=j+(r:Int);omega,by show j+(r:Int)<=_;omega,by show j+(r:Int)+(y:Int)<=_;omega,F⟩,?_,?_,S⟩
       ·show At f x (uvF 9 _++uvF 9 _++Qdl _ t);simp only [A,E];rw [At.app,At.app];refine⟨⟨X,by rw [<- o];exact B⟩,?_⟩;rw [List.length_append,<- Nat.add_assoc,<- o,<- M];exact P
       ·show Q=x+(uvF 9 _++uvF 9 _++Qdl _ t).length;simp only [A,E,List.length_append];rw [R,M,o];omega
   ·rintro⟨u,⟨J,K,L,N⟩,v,G,I⟩;have Hb:j<=m:=J;have Hc:m<=q:=K;have Hd:q<=1000000000:=L;have s:At f x (uvF 9 (m - j).toNat++uvF 9 (q - m).toNat++Qdl (q+2) l):=v;have H:x'=x+(uvF 9 (m - j).toNat++uvF 9 (q - m).toNat++Qdl (q+2) l).length:=G;rw [At.app,At.app] at s;rw [List.length_append,List.length_append] at H;obtain⟨⟨U,V⟩,i⟩:=s;rw [List.length_append,<- Nat.add_assoc] at i;have Y:rd f n x (1000000000 - j)=some ((m - j).toNat,x+(uvF 9 (m - j).toNat).length):=(Qa8 hf).2 ⟨by omega,by omega,U,rfl,by omega⟩;have g:j+(((m - j).toNat:Nat):Int)=m:=by omega
    have Z:rd f n (x+(uvF 9 (m - j).toNat).length) (1000000000 - (j+(((m - j).toNat:Nat):Int)))=some ((q - m).toNat,x+(uvF 9 (m - j).toNat).length+(uvF 9 (q - m).toNat).length):=(Qa8 hf).2 ⟨by omega,by omega,V,rfl,by omega⟩;have z:j+(((m - j).toNat:Nat):Int)+(((q - m).toNat:Nat):Int)=q:=by omega
    have b3:=((ih (q+2) (x+(uvF 9 (m - j).toNat).length+(uvF 9 (q - m).toNat).length) l x' (by omega)).2 ⟨by simpa using u,N,i,by omega,I⟩).1;refine⟨?_,by omega⟩;unfold Qa0;rw [Y];simp only [Option.bind_eq_bind,Option.bind_some];rw [Z];simp only [Option.bind_some,z];rw [b3];simp only [Option.bind_some,g,z]
end Go.Proofs.YtdeolligikjieaaGreatDoor
