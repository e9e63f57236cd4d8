import Derived.Test.YtdeolligikjieaaGreatDoorFkg04
import Derived.Test.YtdeolligikjieaaGreatDoorFkg01
import Derived.Deep.QuietTactic
import Derived.BigQuiet
set_option linter.unusedVariables false
set_option linter.unusedSimpArgs false
set_option maxRecDepth 100000
set_option maxHeartbeats 40000000
namespace Go.Proofs.YtdeolligikjieaaGreatDoor
open Go.ChangeShapes Go.WideShapes Go.ChangeAt Go.RowKit Go.Maps Go.Sort
def Qah (l:List Rn):List Value:=l.flatMap fun p=>[.int .i64 p.1,.int .i64 p.2.1,.int .i64 p.2.2]
theorem Qd7 (l:List Rn)(p:Rn):Qah (l++[p])=Qah l++[.int .i64 p.1,.int .i64 p.2.1,.int .i64 p.2.2]:=by simp [Qah]
def FR (w:World)(B:Nat)(v:Value)(l:List Rn):Prop:=w.ownsRow B 113 3 v l.length (Qah l)
theorem Qdk.look {w:World}{bm n:Nat}{D:DataW Value}{G:Int ->Value}{L:Int ->List (Int×Int)}(h:Qdk w bm n D G L)(r:Int)(hr:(Lit.int .i64 r).wf=true):
  (Instr.lookup 47 (.map (some bm)) (.int .i64 r) false).run Tryz.prog w=.ok (G r) w:=by
 obtain⟨v,ps,k,m⟩:=h.own.lookup (int_keyed Tryz.underlying3) Tryz.underlying47 (Qgb w) (zd:=.held (.slice none 0 0)) (zp:=[]) rfl (keyOf_int_mk Tryz.underlying3 hr);have:=h.at' r;obtain⟨j,_⟩:=Qhy m;unfold kI at this;rw [this] at j;have e:v=G r:=by injection j with j;exact j.symm
 rw [k,e]
theorem QhR {w:World}{bm n:Nat}{D:DataW Value}{G:Int ->Value}{L:Int ->List (Int×Int)}(h:Qdk w bm n D G L)(hL:∀r,L r≠[] ->0<=r/\ r<8):(KS L 8).Perm (intKeys D)/\ Maps.size D=(KS L 8).length:=by
 obtain⟨y,k,t,_⟩:=h.own.entries (int_keyed Tryz.underlying3);obtain⟨z,m,g⟩:=h.own.keysOf;obtain rfl:y=z:=by rw [k] at m;simpa using m
 have u:(KS L 8).Perm (intKeys D):=by
  have q:=h.has';rw [k] at q ⊢;refine perm_intKeys t (fun p hp=>by obtain⟨v,o⟩:=g p hp;obtain⟨x,_,i,_⟩:=Maps.keyOf_i64 Tryz.underlying3 o;exact⟨x,i⟩) ((Qin L 8).imp (fun h=>by omega)) (fun x=> ?_);have:=q x;unfold kI at this;rw [this,Qdb];constructor
  ·rintro⟨_,_,c⟩;rw [c];rfl
  ·intro c;have j:(L x).isEmpty=false:=by simpa using c
   have:=hL x (by intro e;rw [e] at j;cases j);exact⟨this.1,this.2,j⟩
 refine⟨u,?_⟩;rw [u.length_eq,k];simp [Maps.size_eq,intKeys]
def Qfv (L:Int ->List (Int×Int))(ks:List Int):Nat ->List Rn
 | 0=>[]
 | k+1=>Qfv L ks k++tag (ks.getD k 0) (L (ks.getD k 0))
theorem QfL (L:Int ->List (Int×Int))(ks:List Int):∀k,k<=ks.length ->Qfv L ks k=(ks.take k).flatMap fun r=>tag r (L r)
 | 0,_=>by simp [Qfv]
 | k+1,h=>by
  have e:ks.take (k+1)=ks.take k++[ks.getD k 0]:=by
   rw [List.take_add_one];simp [List.getD,show k<ks.length by omega]
  rw [e,List.flatMap_append,<- QfL L ks k (by omega)];simp [Qfv]
theorem Qhr {L:Int ->List (Int×Int)}(hL:∀r,(L r).length<=4000)(ks:List Int):∀k,(Qfv L ks k).length<=4000*k
 | 0=>by simp [Qfv]
 | k+1=>by
  have:=Qhr hL ks k;have:=hL (ks.getD k 0);simp only [Qfv,List.length_append,tag,List.length_map];omega
theorem QkG {r:Int}{l:List (Int×Int)}{t:Nat}(h:t<l.length):(tag r l).take (t+1)=(tag r l).take t++[(r,sF l t,sT l t)]:=by
 rw [List.take_add_one];simp [tag,sF,sT,List.getD,h]
theorem Qi5 {w:World}{bm n:Nat}{D:DataW Value}{G:Int ->Value}{L:Int ->List (Int×Int)}(h:Qdk w bm n D G L)(hL:∀r,L r≠[] ->0<=r/\ r<8)(hl:∀r,(L r).length<=4000):
  Calls Tryz.prog 44 #[.map (some bm)] w fun e w'=>∃v,e=.returned (.agg #[v])/\ FR w' w.heap.size v (Qdm L 8)/\ Below w.heap.size w w':=by
 obtain⟨i0,hi,G2,G3,G4⟩:=info_parts Tryz.infoRun;have G8:=h.own.lt;obtain⟨kp,Hz⟩:=QhR h hL;obtain⟨z,S⟩:∃z,KS L 8=z:=⟨_,rfl⟩;have Gu:Hid (Qdm L 8=Qfv L z z.length):=by
  refine hid ?_;rw [QfL L z _ zL,List.take_length,<- S];rfl
 have Kb:z.length<=8:=by rw [<- S];exact Qfz L 8
 have Hr:Hid (∀x∈z,0<=x/\ x<8/\ L x≠[]):=fun x T=>by
  rw [<- S] at T;have:=(Qdb L 8 x).1 T;exact⟨this.1,by omega,fun e=>by rw [e] at this;simp at this⟩
 have H9:Hid (∀ss:List Int,ss.Perm (intKeys D) ->ss.mergeSort (fun x y=>decide (x<=y))=z/\ ss.length=z.length):=fun ss hs=>by rw [<- S];exact⟨Qf0 kp hs,by rw [hs.length_eq,<- kp.length_eq]⟩
 rw [S] at Hz;clear S kp hL;have HG:=hid h;have H7:=hid hl;have Hg:Hid (∀r g,(G r).ownBlock=some g ->g<w.heap.size):=fun r g Q=>((h.rows r).lt g Q).2;clear h hl;obtain⟨M,J⟩:∃M,(w.alloc (.cells #[.slice none 0 0] 26)).alloc (.cells #[.slice none 0 0] 26)=M:=⟨_,rfl⟩;have H2:Hid (Below w.heap.size w M):=by rw [<- J];exact hid (Qak _ _ _)
 have B:Hid (M.heap.size=w.heap.size+2):=by rw [<- J];exact hid (by simp)
 have c2:M.cell? ⟨w.heap.size,0,none⟩=some (.slice none 0 0):=by rw [<- J];simp
 have c3:M.cell? ⟨w.heap.size+1,0,none⟩=some (.slice none 0 0):=by rw [<- J];simp
 have f2:M.frozen? ⟨w.heap.size,0,none⟩=false:=by rw [<- J];simp
 have f3:M.frozen? ⟨w.heap.size+1,0,none⟩=false:=by rw [<- J];simp
 have Hf:=hid (HG.below H2.out);go_enter Tryz.func44,Tryz.ntmps44;go_wp2_with fail;try rw [J]
 refine(Qn5 (some bm) M).mono ?_;rintro e w3 ⟨rfl,rfl⟩;go_wp2_with fail;refine(Qj1 bm n D QhY M Hf.own (by rw [Hz];unfold maxLen;omega) (by rw [Hz];omega)).mono ?_;rintro e b ⟨v4,ss,rfl,He,Hc,N⟩;obtain⟨Gd,Ge⟩:=H9 ss He;rw [Gd,Ge] at Hc;have z4:w.heap.size+2<=b.heap.size:=by have:=N.size;have:=B.out;omega
 have d2:=(N.cell (p:=⟨w.heap.size,0,none⟩) (by have:=B.out;show w.heap.size<_;omega)).trans c2;have d3:=(N.cell (p:=⟨w.heap.size+1,0,none⟩) (by have:=B.out;show w.heap.size+1<_;omega)).trans c3;have k2:=((Qc4 N).2 w.heap.size 0 (by have:=B.out;omega)).trans f2;have k3:=((Qc4 N).2 (w.heap.size+1) 0 (by have:=B.out;omega)).trans f3;have H3:=hid (Qab H2.out N);have H5:=hid (HG.below H3.out);clear He Gd Ge H9 N J c2 c3 Hf f2 f3;have Gz:Hid (z.length=0 \/∃g cap,v4=.slice (some ⟨g,0,none⟩) z.length cap/\ g<b.heap.size/\ w.heap.size+2<=g/\ z.length<=cap/\ cap<=9223372036854775807/\∀i,i<z.length ->b.cell? ⟨g,i,none⟩=some (.int .i64 (z.getD i 0))):=by
  refine hid ?_;have hr:=Hc;rcases Hc.2 with ⟨_,e0⟩|⟨g,cap,Ht,rfl,G7,Q,G1,Gx,G9,Gk⟩
  ·exact .inl e0
  ·have:=B.out;unfold maxLen at Gx;exact .inr ⟨g,cap,rfl,(hr.lt g rfl).2,by omega,G1,by omega,Qh6 hr rfl⟩
 obtain⟨x4,Ga,e4⟩:∃x c,v4=.slice x z.length c:=by
  rcases Hc.2 with ⟨rfl,e0⟩|⟨g,cap,Ht,rfl,_⟩
  ·exact⟨none,0,by rw [e0]⟩
  ·exact⟨_,_,rfl⟩
 subst e4;clear Hc;go_wp2_with fail;go_loopw [12] (fun iv wr=>∃(k:Nat) (v:Value),k<=z.length/\ iv=.int .i64 k/\ wr.cell? ⟨w.heap.size+1,0,none⟩=some v/\ wr.cell? ⟨w.heap.size,0,none⟩=some (.slice none 0 0)/\ wr.frozen? ⟨w.heap.size,0,none⟩=false/\ wr.frozen? ⟨w.heap.size+1,0,none⟩=false/\ Hid (FR wr b.heap.size v (Qfv L z k))/\ Hid (b.grownBy wr (some (w.heap.size+1)))) (fun iv _=>z.length - (intOf iv).toNat);case atStart=>exact⟨0,_,Nat.zero_le _,rfl,d3,d2,k2,k3,hid (World.ownsRow_nil _ _ _ _),hid ⟨rfl,rfl,rfl,Nat.le_refl _,fun _ _ _=>rfl⟩⟩
 case round=>
  clear d2 d3 k2 k3;obtain⟨k,v,hk,rfl,Z,o,W,j3,Hj,Hm⟩:=hrel;by_cases Hy:k<z.length
  ·have Hb:∃g,x4=some ⟨g,0,none⟩/\ z.length<=Ga/\ Ga<=9223372036854775807/\ wr.cell? ⟨g,k,none⟩=some (.int .i64 (z.getD k 0)):=by
    rcases Gz.out with h|⟨g,cap,e,Q,Ka,q1,q2,hc⟩
    ·omega
    ·injection e with e1 o Z;subst e1 Z;have Hl:some g≠some (w.heap.size+1):=fun e=>by injection e with e;omega
     exact⟨g,rfl,q1,q2,Hm.cell (hc k Hy) Hl⟩
   obtain⟨g,rfl,Kd,Ke,Gg⟩:=Hb;have Hk:=Hr (z.getD k 0) (by simp [List.getD,Hy]);have Hh:Hid (Qfv L z (k+1)=Qfv L z k++tag (z.getD k 0) (L (z.getD k 0))):=hid rfl;have Kc:=Qhr H7.out z k;obtain⟨x,T⟩:∃x,z.getD k 0=x:=⟨_,rfl⟩;rw [T] at Hk Gg Hh;have Gm:(Lit.int .i64 x).wf=true:=wfI (by omega) (by omega);have gw:Qdk wr bm n D G L:=H5.gr Hm.out (fun e=>by injection e with e;omega) (fun r g Q e=>by injection e with e;have:=Hg r g Q;omega);have Hx:=gw.look x Gm;obtain⟨xs,cs,eG,Gj,Hu,Gy⟩:=Qjx (H5.rows x);rw [eG] at Hx;have Hw:=H7 x;obtain⟨m,hm⟩:∃m,(L x).length=m:=⟨_,rfl⟩;have H8:=hid Gj;have Gv:Hid (∀a,xs=some a ->a.block<w.heap.size):=hid fun a ha=>by
    have:=Hg x a.block (by rw [eG,ha];rfl);exact this
   rw [hm] at Hx Hu Hw H8;have HM:=hid hm;have HX:=hid T;clear gw eG Gj hm T Hk Gm;go_wp2_with fail;go_loopw [20] (fun iv wr2=>∃(t:Nat) (V:Value),t<=m/\ iv=.int .i64 t/\ wr2.cell? ⟨w.heap.size+1,0,none⟩=some V/\ wr2.cell? ⟨w.heap.size,0,none⟩=some (.slice none 0 0)/\ wr2.frozen? ⟨w.heap.size,0,none⟩=false/\ wr2.frozen? ⟨w.heap.size+1,0,none⟩=false/\ Hid (FR wr2 b.heap.size V (Qfv L z k++(tag x (L x)).take t))/\ Hid (b.grownBy wr2 (some (w.heap.size+1)))) (fun iv _=>m - (intOf iv).toNat);case atStart=>exact⟨0,v,Nat.zero_le _,rfl,Z,o,W,j3,hid (by simpa using Hj.out),Hm⟩
   case round=>
    clear Z o Hx Hj Gg W j3;obtain⟨t,V,ht,rfl,Z,o,W,j3,P,R⟩:=hrel;have zr:=R.size;have G0:(Qfv L z k++(tag x (L x)).take t).length<=4000*k+4000:=by simp only [List.length_append,List.length_take];omega
    obtain⟨fl,Hv⟩:∃fl,Qfv L z k++(tag x (L x)).take t=fl:=⟨_,rfl⟩;rw [Hv] at P G0;have H4:=hid Hv;clear Hv;by_cases H0:t<m
    ·have Hb:∃H off,xs=some ⟨H,off,none⟩/\ wr.cell? ⟨H,off+t*2,none⟩=some (.int .i64 (sF (L x) t))/\ wr.cell? ⟨H,off+t*2+1,none⟩=some (.int .i64 (sT (L x) t)):=by
      rcases H8.out with h|⟨H,off,e,Q,hc⟩
      ·omega
      ·have I:=Gv _ e;have Hl:some H≠some (w.heap.size+1):=fun e=>by injection e with e;have I:H<w.heap.size:=I;omega
       exact⟨H,off,e,R.cell (hc t H0).1 Hl,R.cell (hc t H0).2 Hl⟩
     obtain⟨H,off,rfl,s0,s1⟩:=Hb;have Hs:=hid (QkG (r:=x) (l:=L x) (t:=t) (by have:=HM.out;omega));obtain⟨qf,Gh⟩:∃q,sF (L x) t=q:=⟨_,rfl⟩;obtain⟨qt,Gi⟩:∃q,sT (L x) t=q:=⟨_,rfl⟩;rw [Gh] at s0 Hs;rw [Gi] at s1 Hs;clear Gh Gi;obtain⟨s,K⟩:∃s,wr.alloc (.cells #[.int .i64 qf,.int .i64 qt] 148)=s:=⟨_,rfl⟩;have C:Below wr.heap.size wr s:=by rw [<- K];exact zO _ _
     have r0:s.cell? ⟨wr.heap.size,0,none⟩=some (.int .i64 qf):=by rw [<- K];simp
     have r1:s.cell? ⟨wr.heap.size,1,none⟩=some (.int .i64 qt):=by rw [<- K];simp
     have Gc:=(C.cell (p:=⟨w.heap.size+1,0,none⟩) (show w.heap.size+1<wr.heap.size by omega)).trans Z;have Gq:Hid (FR s b.heap.size V fl):=by rw [<- K];exact World.ownsRow.alloc P.out _
     have Gs:Hid (b.grownBy s (some (w.heap.size+1))):=by rw [<- K];exact hid (R.andThen (World.grownBy_alloc wr _ none) (fun j hj=>by cases hj))
     have Hn:=hid ((C.cell (p:=⟨w.heap.size,0,none⟩) (show w.heap.size<wr.heap.size by omega)).trans o);have Hp:=hid (((Qc4 C).2 w.heap.size 0 (by omega)).trans W);have Hq:=hid (((Qc4 C).2 (w.heap.size+1) 0 (by omega)).trans j3);have z5:=C.size;have H1:Hid (∀g,V.ownBlock=some g ->b.heap.size<=g):=hid fun g Q=>(World.ownsRow.lt P.out g Q).1;clear C P R o W j3;go_wp2_with (at_builtin;(try rw [K]);refine Qav rfl _ _ 24 rfl b.heap.size 113 i0 _ 3 24 Tryz.underlying24 hi G2 G3 G4 rfl (by decide) _ _ _ rfl (World.ownsRow.alloc Gq.out _) ⟨s.heap.size,0,none⟩ 1 1 [.int .i64 x,.int .i64 qf,.int .i64 qt] rfl rfl ?c1 ?c2 ?c3 ?c4 ?c5 ?_);case c1=>exact QaK _ _ _ _ _
     case c2=>intro u hu;simp at hu;rcases hu with rfl|rfl|rfl<;>rfl
     case c3=>unfold maxLen;omega
     case c4=>omega
     case c5=>simp;omega
     intro A E Ha X Hd;obtain⟨y7,n7,c7,rfl⟩:=QbJ Ha;obtain⟨A,Gl⟩:∃A,A=Value.slice y7 n7 c7:=⟨_,rfl⟩;rw [<- Gl] at Ha Hd;have Gf:some (w.heap.size+1)≠V.ownBlock:=fun e=>by have:=H1 _ e.symm;omega
     have Hi:some w.heap.size≠V.ownBlock:=fun e=>by have:=H1 _ e.symm;omega
     have F:Below s.heap.size s (s.alloc (.cells #[.int .i64 x,.int .i64 qf,.int .i64 qt] 113)):=zO _ _;have Gw:=X.cell ((F.cell (p:=⟨w.heap.size+1,0,none⟩) (show w.heap.size+1<s.heap.size by omega)).trans Gc) Gf;have Gb:=X.cell ((F.cell (p:=⟨w.heap.size,0,none⟩) (show w.heap.size<s.heap.size by omega)).trans Hn.out) Hi;have z7:=X.size;have z6:=F.size;have G6:E.frozen? ⟨w.heap.size+1,0,none⟩=false:=(World.frozen?_of_block (X.block (w.heap.size+1) (by omega) Gf)).trans (((Qc4 F).2 (w.heap.size+1) 0 (by omega)).trans Hq.out);have G5:E.frozen? ⟨w.heap.size,0,none⟩=false:=(World.frozen?_of_block (X.block w.heap.size (by omega) Hi)).trans (((Qc4 F).2 w.heap.size 0 (by omega)).trans Hp.out);have Ho:Hid (FR E b.heap.size A (Qfv L z k++(tag x (L x)).take (t+1))):=by
      rw [Hs.out,<- List.append_assoc,H4.out];unfold FR;rw [Qd7,List.length_append];exact hid Ha
     have H6:Hid (b.grownBy E (some (w.heap.size+1))):=hid ((Gs.andThen (World.grownBy_alloc s _ none) (fun j hj=>by cases hj)).andThen X (fun j hj=> .inl (H1 j hj)));have Gr:Hid (FR (E.setCell ⟨w.heap.size+1,0,none⟩ A) b.heap.size A (Qfv L z k++(tag x (L x)).take (t+1))):=by
      refine hid ?_;refine World.ownsRow.kept Ho.out (Qbw E ⟨w.heap.size+1,0,none⟩ A) ?_;cases e:A.ownBlock with
      | none=>exact .inl rfl
      | some g=>exact .inr (fun o=>by have:=(World.ownsRow.lt Ho.out g e).1;injection o with o;have o:g=w.heap.size+1:=o;omega)
     have Gt:Hid (b.grownBy (E.setCell ⟨w.heap.size+1,0,none⟩ A) (some (w.heap.size+1))):=hid (H6.andThen (Qbw E ⟨w.heap.size+1,0,none⟩ A) (fun j hj=> .inr hj));have Go:=World.cell?_setCell_same E ⟨w.heap.size+1,0,none⟩ A Gw;have Gn:(E.setCell ⟨w.heap.size+1,0,none⟩ A).cell? ⟨w.heap.size,0,none⟩=some (.slice none 0 0):=(World.cell?_setCell_far E ⟨w.heap.size+1,0,none⟩ ⟨w.heap.size,0,none⟩ A (by show w.heap.size+1≠w.heap.size;omega)).trans Gb;have HK:=hid (And.intro Go Gn);subst Gl;clear Ha X Hd Gc r0 r1 s0 s1 F Z K Go Gn Gb Ho H6;go_wp2_with fail;go_roundw;case rel=>exact⟨t+1,_,H0,by go_num,HK.1,HK.2,by simpa using G5,by simpa using G6,Gr,Gt⟩
     case measure=>simp [intOf];omega
    ·obtain rfl:t=m:=by omega
     have Gp:Hid (FR wr b.heap.size V (Qfv L z (k+1))):=by
      rw [Hh.out];have I:=P.out;rw [<- H4.out,List.take_of_length_le (by simp only [tag,List.length_map];have:=HM.out;omega)] at I;exact hid I
     clear P;go_wp2_with fail;go_roundw;case rel=>exact⟨k+1,V,Hy,by go_num,Z,o,W,j3,Gp,R⟩
     case measure=>simp [intOf];omega
  ·obtain rfl:k=z.length:=by omega
   obtain⟨Y,U,O,rfl⟩:=QbJ Hj.out;have HF:Hid (FR (wr.setCell ⟨w.heap.size,0,none⟩ (.slice Y U O)) w.heap.size (.slice Y U O) (Qdm L 8)):=by
    rw [Gu.out];have I:=Hj.out;have h2:FR wr w.heap.size (.slice Y U O) (Qfv L z z.length):=by
     obtain⟨q1,q2⟩:=I;refine⟨q1,q2.imp id ?_⟩;rintro⟨g,cap,Ht,e,Q,r⟩;exact⟨g,cap,Ht,e,by omega,r⟩
    refine hid (World.ownsRow.kept h2 (Qbw wr ⟨w.heap.size,0,none⟩ (.slice Y U O)) ?_);cases e:(Value.slice Y U O).ownBlock with
    | none=>exact .inl rfl
    | some g=>exact .inr (fun o=>by have:=(World.ownsRow.lt I g e).1;injection o with o;have o:g=w.heap.size:=o;omega)
   have HB:Hid (Below w.heap.size w (wr.setCell ⟨w.heap.size,0,none⟩ (.slice Y U O))):=hid ((H3.grown Hm.out (by omega) (fun k hk=>by injection hk with hk;omega)).setCell (p:=⟨w.heap.size,0,none⟩) zL (.slice Y U O));have k2:=World.cell?_setCell_same wr ⟨w.heap.size,0,none⟩ (.slice Y U O) o;clear Hj;go_wp2_with fail;refine zF (v:=.agg #[.slice Y U O]) (by simp [results,Tryz.results44,go_sem,k2]) ⟨_,rfl,HF.out,HB.out⟩
def mk3 (k0 c:Nat)(i:Nat):Int:=((k0+3*i+c:Nat):Int)
def gR (l:List Rn)(i:Nat):Rn:=l.getD i (0,0,0)
def FS (w:World)(a:Option Addr)(l:List Rn):Prop:=
 l.length=0 \/∃g off,a=some ⟨g,off,none⟩/\ g<w.heap.size/\∀i,i<l.length ->w.cell? ⟨g,off+i*3,none⟩=some (.int .i64 (gR l i).1)/\ w.cell? ⟨g,off+i*3+1,none⟩=some (.int .i64 (gR l i).2.1)/\ w.cell? ⟨g,off+i*3+2,none⟩=some (.int .i64 (gR l i).2.2)
theorem Qkd {w:World}{B n cap g:Nat}{l:List Rn}(h:w.ownsRow B 113 3 (.slice (some ⟨g,0,none⟩) n cap) n (Qah l))(hl:l.length=n):
  ∀i,i<n ->w.cell? ⟨g,i*3,none⟩=some (.int .i64 (gR l i).1)/\ w.cell? ⟨g,i*3+1,none⟩=some (.int .i64 (gR l i).2.1)/\ w.cell? ⟨g,i*3+2,none⟩=some (.int .i64 (gR l i).2.2):=by
 intro i j;have k:∀(l:List Rn) (i:Nat),i<l.length ->(Qah l)[i*3]? =some (.int .i64 (gR l i).1)/\ (Qah l)[i*3+1]? =some (.int .i64 (gR l i).2.1)/\ (Qah l)[i*3+2]? =some (.int .i64 (gR l i).2.2):=by
  intro l;induction l with
  | nil=>intro i j;simp at j
  | cons a l ih=>
   intro i j;cases i with
   | zero=>simp [Qah,gR]
   | succ i=>
    have:=ih i (by simpa using j);have e:Qah (a::l)=.int .i64 a.1::.int .i64 a.2.1::.int .i64 a.2.2::Qah l:=by simp [Qah]
    rw [e,show (i+1)*3=i*3+1+1+1 from by omega];simpa [gR] using this
 rw [h.cellAt _ (by omega),h.cellAt _ (by omega),h.cellAt _ (by omega)];exact k l i (by omega)
theorem FR.fs {w:World}{B:Nat}{v:Value}{l:List Rn}(h:FR w B v l):∃a c,v=.slice a l.length c/\ FS w a l/\ l.length<=c/\ c<=9223372036854775807:=by
 rcases h.2 with ⟨e,j⟩|⟨g,cap,r,e,u,_,q,m,_⟩
 ·exact⟨none,0,by rw [e,j],.inl j,by omega,by omega⟩
 ·refine⟨_,cap,e,.inr ⟨g,0,rfl,(World.ownsRow.lt h g (by rw [e];rfl)).2,fun i hi=> ?_⟩,q,by unfold maxLen at m;omega⟩;have k:w.ownsRow B 113 3 v l.length (Qah l):=h;rw [e] at k;rw [Nat.zero_add];exact Qkd k rfl i hi
theorem QcO (l:List Rn):(Qah l).length=l.length*3:=by
 induction l with
 | nil=>rfl
 | cons a l ih=>simp [Qah] at*;omega
theorem FS.rseg {w:World}{a:Option Addr}{l:List Rn}(h:FS w a l):Qb3 w a l.length (fun i=>(gR l i).1) (fun i=>(gR l i).2.1) (fun i=>(gR l i).2.2):=h
theorem FR.gr {w w':World}{B:Nat}{v:Value}{l:List Rn}{row:Option Nat}(h:FR w B v l)(hg:w.grownBy w' row)(hne:∀g,v.ownBlock=Option.some g ->Option.some g≠row):FR w' B v l:=
 World.ownsRow.kept h hg (by
  cases e:v.ownBlock with
  | none=>exact .inl rfl
  | some g=>exact .inr (hne g e))
theorem FR.below {w w':World}{B:Nat}{v:Value}{l:List Rn}(h:FR w B v l)(hb:Below w.heap.size w w'):FR w' B v l:=
 h.gr (row:=none) ⟨hb.os,hb.tape,hb.output,hb.size,fun k hk _=>hb.block k hk⟩ (by simp)
def stK (l:List Rn)(r:Rn)(k:Nat):List Rn×Rn×List Rn:=(l.take k).foldl QaH ([],r,[])
theorem Qfn {l:List Rn}{r:Rn}{k:Nat}(h:k<l.length):stK l r (k+1)=QaH (stK l r k) (gR l k):=by
 unfold stK;rw [List.take_add_one,List.foldl_append];simp [gR,List.getD,h]
theorem Qj6 (l:List Rn)(r:Rn):stK l r l.length=Qgw l r:=by unfold stK Qgw;rw [List.take_length]
def Bnd (p:Rn):Prop:=(-2000000000<=p.1/\ p.1<=2000000000)/\ (-2000000000<=p.2.1/\ p.2.1<=2000000000)/\ -2000000000<=p.2.2/\ p.2.2<=2000000000
theorem Rok.bnd {p:Rn}(h:Rok p):Bnd p:=by unfold Rok at h;unfold Bnd;omega
theorem Qgx {s:List Rn×Rn×List Rn}{q:Rn}(h:Bnd s.2.1)(hq:Bnd q):Bnd (QaH s q).2.1:=by
 unfold QaH;split
 ·exact h
 ·split
  ·exact h
  ·unfold Bnd at*;simp only;omega
theorem Qgy (s:List Rn×Rn×List Rn)(q:Rn):(QaH s q).1.length+(QaH s q).2.2.length<=s.1.length+s.2.2.length+1:=by
 unfold QaH;split
 ·simp;omega
 ·split
  ·simp;omega
  ·simp
theorem QgJ (l:List Rn)(r:Rn):∀k,k<=l.length ->(stK l r k).1.length+(stK l r k).2.2.length<=k
 | 0,_=>by simp [stK]
 | k+1,h=>by
  rw [Qfn (by omega)];have:=Qgy (stK l r k) (gR l k);have:=QgJ l r k (by omega);omega
theorem QdB {l:List Rn}{k:Nat}(h:k<l.length):gR l k∈l:=by simp [gR,List.getD,h]
theorem Qj7 {l:List Rn}{r:Rn}(hl:∀p∈l,Bnd p)(hr:Bnd r):∀k,k<=l.length ->Bnd (stK l r k).2.1
 | 0,_=>by simpa [stK] using hr
 | k+1,h=>by rw [Qfn (by omega)];exact Qgx (Qj7 hl hr k (by omega)) (hl _ (QdB (by omega)))
theorem Qch {r t r' f' f t':Int}:QaC r t r' f'=true↔Apt (r,f,t) (r',f',t'):=by unfold QaC Apt;simp
structure IL (w wr:World)(u5 u6:Value)(sb:List Rn)(qr qf qt:Int)(sa:List Rn):Prop where
 b:FR wr (w.heap.size+1) u5 sb
 a:FR wr (w.heap.size+1) u6 sa
 ne:∀g,u5.ownBlock=some g ->u6.ownBlock≠some g
 nb:u5.ownBlock≠none
 na:u6.ownBlock≠none
 bel:Below w.heap.size w wr
 sz:w.heap.size+1<=wr.heap.size
 c0:wr.cell? ⟨w.heap.size,0,none⟩=some (.int .i64 qr)
 c1:wr.cell? ⟨w.heap.size,1,none⟩=some (.int .i64 qf)
 c2:wr.cell? ⟨w.heap.size,2,none⟩=some (.int .i64 qt)
 f1:wr.frozen? ⟨w.heap.size,1,none⟩=false
 f2:wr.frozen? ⟨w.heap.size,2,none⟩=false
theorem IL.box5 {w wr:World}{u5 u6:Value}{sb sa:List Rn}{qr qf qt:Int}(h:IL w wr u5 u6 sb qr qf qt sa):some w.heap.size≠u5.ownBlock:=fun e=>by have:=(World.ownsRow.lt h.b _ e.symm).1;omega
theorem IL.below {w wr w1:World}{u5 u6:Value}{sb sa:List Rn}{qr qf qt:Int}(h:IL w wr u5 u6 sb qr qf qt sa)(hb:Below wr.heap.size wr w1):IL w w1 u5 u6 sb qr qf qt sa:=by
 have j:=h.sz;have k:=hb.size;exact⟨QfO h.b hb,QfO h.a hb,h.ne,h.nb,h.na,h.bel.trans (hb.mono (by omega)),by omega,(hb.cell (p:=⟨w.heap.size,0,none⟩) (show w.heap.size<wr.heap.size by omega)).trans h.c0,(hb.cell (p:=⟨w.heap.size,1,none⟩) (show w.heap.size<wr.heap.size by omega)).trans h.c1,(hb.cell (p:=⟨w.heap.size,2,none⟩) (show w.heap.size<wr.heap.size by omega)).trans h.c2,((Qc4 hb).2 w.heap.size 1 (by omega)).trans h.f1,((Qc4 hb).2 w.heap.size 2 (by omega)).trans h.f2⟩
theorem IL.app5 {w wr w1:World}{u5 u6 v:Value}{sb sa:List Rn}{qr qf qt:Int}(h:IL w wr u5 u6 sb qr qf qt sa)(p:Rn)(hown:w1.ownsRow (w.heap.size+1) 113 3 v (sb.length+1) (Qah sb++[.int .i64 p.1,.int .i64 p.2.1,.int .i64 p.2.2]))
  (hg:wr.grownBy w1 u5.ownBlock) (hloc:v.ownBlock=u5.ownBlock \/v.ownBlock=some wr.heap.size):IL w w1 v u6 (sb++[p]) qr qf qt sa:=by
 have r:=h.sz;have u:=hg.size;have m:=h.box5;have q:=hg.block w.heap.size (by omega) m;refine⟨?_,World.ownsRow.kept h.a hg ?_,fun g e1 e2=> ?_,?_,h.na,h.bel.grown hg (by omega) (fun k hk=>by have:=(World.ownsRow.lt h.b k hk).1;omega),by omega,hg.cell h.c0 m,hg.cell h.c1 m,hg.cell h.c2 m,(World.frozen?_of_block q).trans h.f1,(World.frozen?_of_block q).trans h.f2⟩
 ·unfold FR;rw [Qd7,List.length_append];exact hown
 ·cases e:u6.ownBlock with
  | none=>exact .inl rfl
  | some g=>exact .inr (fun e2=>h.ne g e2.symm e)
 ·rcases hloc with j|j
  ·exact h.ne g (j ▸ e1) e2
  ·rw [j] at e1;injection e1 with e1;have:=(World.ownsRow.lt h.a g e2).2;omega
 ·rcases hloc with j|j
  ·rw [j];exact h.nb
  ·rw [j];simp
theorem IL.app6 {w wr w1:World}{u5 u6 v:Value}{sb sa:List Rn}{qr qf qt:Int}(h:IL w wr u5 u6 sb qr qf qt sa)(p:Rn)(hown:w1.ownsRow (w.heap.size+1) 113 3 v (sa.length+1) (Qah sa++[.int .i64 p.1,.int .i64 p.2.1,.int .i64 p.2.2]))
  (hg:wr.grownBy w1 u6.ownBlock) (hloc:v.ownBlock=u6.ownBlock \/v.ownBlock=some wr.heap.size):IL w w1 u5 v sb qr qf qt (sa++[p]):=by
 have k:IL w wr u6 u5 sa qr qf qt sb:=⟨h.a,h.b,fun g e1 e2=>h.ne g e2 e1,h.na,h.nb,h.bel,h.sz,h.c0,h.c1,h.c2,h.f1,h.f2⟩;have j:=k.app5 p hown hg hloc;exact⟨j.a,j.b,fun g e1 e2=>j.ne g e2 e1,j.na,j.nb,j.bel,j.sz,j.c0,j.c1,j.c2,j.f1,j.f2⟩
theorem IL.row_set {w wr:World}{v:Value}{l:List Rn}(h:FR wr (w.heap.size+1) v l)(i:Nat)(u:Value):FR (wr.setCell ⟨w.heap.size,i,none⟩ u) (w.heap.size+1) v l:=by
 refine World.ownsRow.kept h (Qbw wr ⟨w.heap.size,i,none⟩ u) ?_;cases e:v.ownBlock with
 | none=>exact .inl rfl
 | some g=>exact .inr (fun j=>by have:=(World.ownsRow.lt h g e).1;injection j with j;have j:g=w.heap.size:=j;omega)
theorem IL.set1 {w wr:World}{u5 u6:Value}{sb sa:List Rn}{qr qf qt:Int}(h:IL w wr u5 u6 sb qr qf qt sa)(z:Int):IL w (wr.setCell ⟨w.heap.size,1,none⟩ (.int .i64 z)) u5 u6 sb qr z qt sa:=
 ⟨IL.row_set h.b _ _,IL.row_set h.a _ _,h.ne,h.nb,h.na,h.bel.setCell (p:=⟨w.heap.size,1,none⟩) zL _,by simpa using h.sz,(World.cell?_setCell_other _ _ _ _ (by simp)).trans h.c0,World.cell?_setCell_same _ _ _ h.c1,(World.cell?_setCell_other _ _ _ _ (by simp)).trans h.c2,by simpa using h.f1,by simpa using h.f2⟩
theorem IL.set2 {w wr:World}{u5 u6:Value}{sb sa:List Rn}{qr qf qt:Int}(h:IL w wr u5 u6 sb qr qf qt sa)(z:Int):IL w (wr.setCell ⟨w.heap.size,2,none⟩ (.int .i64 z)) u5 u6 sb qr qf z sa:=
 ⟨IL.row_set h.b _ _,IL.row_set h.a _ _,h.ne,h.nb,h.na,h.bel.setCell (p:=⟨w.heap.size,2,none⟩) zL _,by simpa using h.sz,(World.cell?_setCell_other _ _ _ _ (by simp)).trans h.c0,(World.cell?_setCell_other _ _ _ _ (by simp)).trans h.c1,World.cell?_setCell_same _ _ _ h.c2,by simpa using h.f1,by simpa using h.f2⟩
theorem IL.drew {w wr:World}{u5 u6:Value}{sb sa:List Rn}{qr qf qt:Int}(h:IL w wr u5 u6 sb qr qf qt sa):IL w wr.drew u5 u6 sb qr qf qt sa:=h.below zI.drew
theorem Qer (l:List Rn):∀u∈Qah l,u.oneCell'=true:=by
 intro u j;unfold Qah at j;obtain⟨p,_,h⟩:=List.mem_flatMap.1 j;simp at h;rcases h with rfl|rfl|rfl<;>rfl
theorem Qbl (l l':List Rn):Qah (l++l')=Qah l++Qah l':=by simp [Qah]
theorem Qe4 (r f t r' f' t':Int)(w:World)(h0: -2000000000<=t)(h1:t<=2000000000):
  Calls Tryz.prog 57 #[.agg #[.int .i64 r,.int .i64 f,.int .i64 t],.agg #[.int .i64 r',.int .i64 f',.int .i64 t']] w fun e w'=>e=.returned (.bool (QaC r t r' f'))/\ Below w.heap.size w w':=by
 by_cases q:r<r'
 ·have j:=hid (Qbn (t:=t) (f':=f') (.inl q));go_enter Tryz.func57,Tryz.ntmps57;go_wp2_with fail;go_ret;exact⟨QbA j.symm,Qak _ _ _⟩
 ·by_cases k:r=r'
  ·subst k;by_cases m:t+1<f'
   ·have j:=hid (Qbn (r:=r) (r':=r) (.inr ⟨rfl,m⟩));go_enter Tryz.func57,Tryz.ntmps57;go_wp2_with fail;go_ret;exact⟨QbA j.symm,Qak _ _ _⟩
   ·have j:=hid (Qba (r:=r) (r':=r) (t:=t) (f':=f') (by omega));go_enter Tryz.func57,Tryz.ntmps57;go_wp2_with fail;go_ret;exact⟨QbA j.symm,Qak _ _ _⟩
  ·have m:(r==r')=false:=by simp;exact k
   have j:=hid (Qba (r:=r) (r':=r') (t:=t) (f':=f') (by omega));go_enter Tryz.func57,Tryz.ntmps57;go_wp2_with fail;go_ret;exact⟨QbA j.symm,Qak _ _ _⟩
theorem QkC (a:Option Addr)(c:Nat)(l:List Rn)(rr rf rt:Int)(w:World)(hn:l.length<=100000)(h:FS w a l)(hl:∀p∈l,Bnd p)(hr:Bnd (rr,rf,rt)):
  Calls Tryz.prog 86 #[.slice a l.length c,.agg #[.int .i64 rr,.int .i64 rf,.int .i64 rt]] w fun e w'=>∃v,e=.returned v/\ FR w' w.heap.size v (ins l (rr,rf,rt))/\ Below w.heap.size w w':=by
 obtain⟨i0,hi,Hs,Ht,Hu⟩:=info_parts Tryz.infoRun;obtain⟨s,Hj⟩:∃s,stK l (rr,rf,rt)=s:=⟨_,rfl⟩;obtain⟨n,R⟩:∃n,l.length=n:=⟨_,rfl⟩;have HI:Hid (∀k,k<=n ->Bnd (s k).2.1):=by rw [<- Hj,<- R];exact hid (Qj7 hl hr)
 have HS:Hid (∀k,k<n ->s (k+1)=QaH (s k) (gR l k)):=by rw [<- Hj,<- R];exact hid fun k F=>Qfn F
 have HZ:Hid (s 0=([],(rr,rf,rt),[])):=by rw [<- Hj];exact hid rfl
 have HE:Hid (ins l (rr,rf,rt)=(s n).1++[(s n).2.1]++(s n).2.2):=by rw [<- Hj,<- R,Qj6];exact hid rfl
 have Hz:Hid (∀k,k<=n ->(s k).1.length+(s k).2.2.length<=k):=by rw [<- Hj,<- R];exact hid (QgJ l _)
 have Gc:Hid (∀k,k<n ->Bnd (gR l k)):=by rw [<- R];exact hid fun k F=>hl _ (QdB F)
 have Gb:Hid (n=0 \/∃g off,a=some ⟨g,off,none⟩/\ g<w.heap.size/\∀i,i<n ->w.cell? ⟨g,off+i*3,none⟩=some (.int .i64 (gR l i).1)/\ w.cell? ⟨g,off+i*3+1,none⟩=some (.int .i64 (gR l i).2.1)/\ w.cell? ⟨g,off+i*3+2,none⟩=some (.int .i64 (gR l i).2.2)):=by rw [<- R];exact hid h
 rw [R] at hn ⊢;clear Hj R h hl;obtain⟨Q,L⟩:∃Q,w.alloc (.cells #[.int .i64 rr,.int .i64 rf,.int .i64 rt] 113)=Q:=⟨_,rfl⟩;have z0:Q.heap.size=w.heap.size+1:=by rw [<- L];simp
 have H7:Hid (Below w.heap.size w Q):=by rw [<- L];exact hid (zO _ _)
 have x0:Q.cell? ⟨w.heap.size,0,none⟩=some (.int .i64 rr):=by rw [<- L];simp
 have x1:Q.cell? ⟨w.heap.size,1,none⟩=some (.int .i64 rf):=by rw [<- L];simp
 have x2:Q.cell? ⟨w.heap.size,2,none⟩=some (.int .i64 rt):=by rw [<- L];simp
 have y1:Q.frozen? ⟨w.heap.size,1,none⟩=false:=by rw [<- L];simp
 have y2:Q.frozen? ⟨w.heap.size,2,none⟩=false:=by rw [<- L];simp
 go_enter Tryz.func86,Tryz.ntmps86;go_wp2_with fail;try rw [L]
 have Hn:Hid (IL w ((Q.alloc (.cells #[] 113)).alloc (.cells #[] 113)) (.slice (some ⟨w.heap.size+1,0,none⟩) 0 0) (.slice (some ⟨w.heap.size+1+1,0,none⟩) 0 0) [] rr rf rt []):=by
  refine hid ?_;have J:Below Q.heap.size Q ((Q.alloc (.cells #[] 113)).alloc (.cells #[] 113)):=Qak _ _ _;have q1:=World.ownsRow_lit (base:=w.heap.size+1) (e:=113) (size:=3) Q #[] 0 (by omega) (by unfold maxLen;omega) rfl;have q2:=World.ownsRow_lit (base:=w.heap.size+1) (e:=113) (size:=3) (Q.alloc (.cells #[] 113)) #[] 0 (by simp;omega) (by unfold maxLen;omega) rfl;have zz:(Q.alloc (.cells #[] 113)).heap.size=w.heap.size+1+1:=by simp;omega
  rw [z0] at q1;rw [zz] at q2;refine⟨World.ownsRow.alloc q1 _,q2,fun g e1 e2=> ?_,by simp [Value.ownBlock],by simp [Value.ownBlock],H7.trans (J.mono (by omega)),by simp;omega,(J.cell (p:=⟨w.heap.size,0,none⟩) (show w.heap.size<_ by omega)).trans x0,(J.cell (p:=⟨w.heap.size,1,none⟩) (show w.heap.size<_ by omega)).trans x1,(J.cell (p:=⟨w.heap.size,2,none⟩) (show w.heap.size<_ by omega)).trans x2,((Qc4 J).2 w.heap.size 1 (by omega)).trans y1,((Qc4 J).2 w.heap.size 2 (by omega)).trans y2⟩;simp [Value.ownBlock] at e1 e2;omega
 clear x0 x1 x2 y1 y2 z0 L;go_loopw [5,6,7] (fun u5 u6 iv wr=>∃(k:Nat),k<=n/\ iv=.int .i64 k/\ Hid (IL w wr u5 u6 (s k).1 (s k).2.1.1 (s k).2.1.2.1 (s k).2.1.2.2 (s k).2.2)) (fun _ _ iv _=>n - (intOf iv).toNat);case atStart=>exact⟨0,Nat.zero_le _,rfl,by rw [HZ.out];exact Hn⟩
 case round=>
  clear Hn;obtain⟨k,F,rfl,E⟩:=hrel;have Hg:=HI k F;by_cases N:k<n
  ·have Hd:=HS k N;have Hw:=Hz k F;have H2:=Gc k N;have Ho:∃g off,a=some ⟨g,off,none⟩/\ g<w.heap.size/\ w.cell? ⟨g,off+k*3,none⟩=some (.int .i64 (gR l k).1)/\ w.cell? ⟨g,off+k*3+1,none⟩=some (.int .i64 (gR l k).2.1)/\ w.cell? ⟨g,off+k*3+2,none⟩=some (.int .i64 (gR l k).2.2):=by
    rcases Gb.out with h|⟨g,off,e,hg,hc⟩
    ·omega
    ·exact⟨g,off,e,hg,hc k N⟩
   obtain⟨g,off,rfl,hg,p0,p1,p2⟩:=Ho;generalize Hr:s k=sk at*;obtain⟨O,⟨t,z,q⟩,M⟩:=sk;generalize H0:gR l k=gk at*;obtain⟨U,y,m⟩:=gk;simp only at p0 p1 p2 E Hw;unfold Bnd at Hg H2;simp only at Hg H2;have Hv:=hid Hd;have HP:=hid (And.intro p0 (And.intro p1 p2));have e0:=(E.bel.cell (p:=⟨g,off+k*3,none⟩) hg).trans p0;have e1:=(E.bel.cell (p:=⟨g,off+k*3+1,none⟩) hg).trans p1;have e2:=(E.bel.cell (p:=⟨g,off+k*3+2,none⟩) hg).trans p2;have B:=E.c0;have C:=E.c1;have G:=E.c2;have zr:=E.sz;have HK:=hid Hr;have Gh:=hid H0;clear Hd Hr H0 p0 p1 p2;go_wp2_with fail;refine zR (S:=fun w'=>w'.cell? ⟨g,off+k*3,none⟩=some (.int .i64 U)/\ w'.cell? ⟨g,off+k*3+1,none⟩=some (.int .i64 y)/\ w'.cell? ⟨g,off+k*3+2,none⟩=some (.int .i64 m)/\ w'.cell? ⟨w.heap.size,0,none⟩=some (.int .i64 t)/\ w'.cell? ⟨w.heap.size,1,none⟩=some (.int .i64 z)/\ w'.cell? ⟨w.heap.size,2,none⟩=some (.int .i64 q)) ⟨e0,e1,e2,B,C,G⟩ (fun qh=> ?_);refine tZ 0 16 ?_;refine tZ 1 17 ?_;refine tZ 2 18 ?_;refine tZ 3 19 ?_;refine tZ 4 20 ?_;refine cZ 5 ?_;intro K hK;go_simp;refine(Qe4 U y m t z q _ (by omega) (by omega)).mono ?_;rintro e w1 ⟨rfl,b1⟩;have Hh:Below wr.heap.size wr w1:=(Below.refl _ wr).drew.trans b1;have Ha:=hid (E.below Hh);have z1:=Hh.size;have s0:=(Hh.cell (p:=⟨g,off+k*3,none⟩) (show g<wr.heap.size by omega)).trans e0;have s1:=(Hh.cell (p:=⟨g,off+k*3+1,none⟩) (show g<wr.heap.size by omega)).trans e1;have s2:=(Hh.cell (p:=⟨g,off+k*3+2,none⟩) (show g<wr.heap.size by omega)).trans e2;have t0:=Ha.c0;have t1:=Ha.c1;have t2:=Ha.c2;refine hK.out _ _ ⟨s0,s1,s2,t0,t1,t2⟩ (fun qh=> ?_);clear hK K;try simp only [zP]
   refine zD ?_;clear qh e0 e1 e2 B C G b1 Hh E;by_cases hA:Apt (U,y,m) (t,z,q)
   ·rw [show QaC U m t z=true from Qch.2 hA];have X:Hid (s (k+1)=(O++[(U,y,m)],(t,z,q),M)):=by
     refine hid ?_;rw [Hv.out];unfold QaH;simp only;rw [if_pos hA]
    clear t0 t1 t2;go_wp2_with (at_builtin;refine Qav rfl _ _ 24 rfl (w.heap.size+1) 113 i0 _ 3 24 Tryz.underlying24 hi Hs Ht Hu rfl (by decide) _ _ _ rfl (World.ownsRow.alloc Ha.b _) ⟨w1.heap.size,0,none⟩ 1 1 [.int .i64 U,.int .i64 y,.int .i64 m] rfl rfl ?n1 ?n2 ?n3 ?n4 ?n5 ?_);try (case n1=>exact QaK _ _ _ _ _)
    case n2=>first|exact⟨rfl,rfl,rfl⟩|(intro u W;simp at W;rcases W with rfl|rfl|rfl<;>rfl)
    case n3=>unfold maxLen;omega
    case n4=>omega
    case n5=>first|omega|(simp;omega)
    intro v7 w7 T D P;have I:=hid ((Ha.below (zO _ _)).app5 (U,y,m) T D (by simpa using P));clear T D P s0 s1 s2;go_wp2_with fail;go_roundw;case rel=>exact⟨k+1,N,by go_num,by rw [X.out];exact I⟩
    case measure=>simp [intOf];omega
   ·rw [show QaC U m t z=false from by rw [<- Bool.not_eq_true];exact fun h=>hA (Qch.1 h)];have HA:=hid hA;have v0:=t0;have v1:=t1;have v2:=t2;go_wp2_with fail;refine zR (S:=fun w'=>w'.cell? ⟨g,off+k*3,none⟩=some (.int .i64 U)/\ w'.cell? ⟨g,off+k*3+1,none⟩=some (.int .i64 y)/\ w'.cell? ⟨g,off+k*3+2,none⟩=some (.int .i64 m)/\ w'.cell? ⟨w.heap.size,0,none⟩=some (.int .i64 t)/\ w'.cell? ⟨w.heap.size,1,none⟩=some (.int .i64 z)/\ w'.cell? ⟨w.heap.size,2,none⟩=some (.int .i64 q)) ⟨s0,s1,s2,v0,v1,v2⟩ (fun qh=> ?_);refine tZ 0 29 ?_;refine tZ 1 30 ?_;refine tZ 2 31 ?_;refine tZ 3 32 ?_;refine tZ 4 33 ?_;refine cZ 5 ?_;intro K hK;go_simp;refine(Qe4 t z q U y m _ (by omega) (by omega)).mono ?_;rintro e w2 ⟨rfl,J⟩;have Hi:Below w1.heap.size w1 w2:=(Below.refl _ w1).drew.trans J;have H:=hid (Ha.below Hi);have z2:=Hi.size;have H3:=(Hi.cell (p:=⟨g,off+k*3,none⟩) (show g<w1.heap.size by omega)).trans s0;have Hk:=(Hi.cell (p:=⟨g,off+k*3+1,none⟩) (show g<w1.heap.size by omega)).trans s1;have Hl:=(Hi.cell (p:=⟨g,off+k*3+2,none⟩) (show g<w1.heap.size by omega)).trans s2;have H4:=H.c0;have Hm:=H.c1;have H5:=H.c2;refine hK.out _ _ ⟨H3,Hk,Hl,H4,Hm,H5⟩ (fun qh=> ?_);clear hK K;try simp only [zP]
    refine zD ?_;clear qh J Hi s0 s1 s2 t0 t1 t2 v0 v1 v2 Ha;by_cases hB:Apt (t,z,q) (U,y,m)
    ·rw [show QaC t q U y=true from Qch.2 hB];have X:Hid (s (k+1)=(O,(t,z,q),M++[(U,y,m)])):=by
      refine hid ?_;rw [Hv.out];unfold QaH;simp only;rw [if_neg HA.out,if_pos hB]
     clear H4 Hm H5;go_wp2_with (at_builtin;refine Qav rfl _ _ 24 rfl (w.heap.size+1) 113 i0 _ 3 24 Tryz.underlying24 hi Hs Ht Hu rfl (by decide) _ _ _ rfl (World.ownsRow.alloc H.a _) ⟨w2.heap.size,0,none⟩ 1 1 [.int .i64 U,.int .i64 y,.int .i64 m] rfl rfl ?m1 ?m2 ?m3 ?m4 ?m5 ?_);try (case m1=>exact QaK _ _ _ _ _)
     case m2=>first|exact⟨rfl,rfl,rfl⟩|(intro u W;simp at W;rcases W with rfl|rfl|rfl<;>rfl)
     case m3=>unfold maxLen;omega
     case m4=>omega
     case m5=>first|omega|(simp;omega)
     intro v7 w7 T D P;have I:=hid ((H.below (zO _ _)).app6 (U,y,m) T D (by simpa using P));clear T D P H3 Hk Hl;go_wp2_with fail;go_roundw;case rel=>exact⟨k+1,N,by go_num,by rw [X.out];exact I⟩
     case measure=>simp [intOf];omega
    ·rw [show QaC t q U y=false from by rw [<- Bool.not_eq_true];exact fun h=>hB (Qch.1 h)];have X:Hid (s (k+1)=(O,(t,min y z,max m q),M)):=by
      refine hid ?_;rw [Hv.out];unfold QaH;simp only;rw [if_neg HA.out,if_neg hB]
     have Hy:=hid H.f1;have Gg:=hid H.f2;clear hB;have H1:g≠w.heap.size:=by omega
     by_cases h1:y<z
     ·by_cases h2:q<m
      ·have d1:decide (y<z)=true:=by simp;exact h1
       have He:Hid (min y z=y):=hid (by omega);have d2:decide (q<m)=true:=by simp;exact h2
       have Hf:Hid (max m q=m):=hid (by omega);clear h1 h2;go_wp2_with fail;refine zR (S:=fun w'=>w'.cell? ⟨g,off+k*3+1,none⟩=some (.int .i64 y)/\ w'.cell? ⟨w.heap.size,1,none⟩=some (.int .i64 z)) ⟨Hk,Hm⟩ (fun qh=> ?_);refine tZ 0 42 ?_;refine tZ 1 43 ?_;refine tZ 2 44 ?_;refine tZ 3 45 ?_;refine tZ 4 46 ?_;refine tZ 5 47 ?_;refine tZ 6 48 ?_;refine tZ 7 49 ?_;refine zD ?_;clear qh;have f1:=Hy.out;obtain⟨o,A⟩:∃o,(w2.setCell ⟨w.heap.size,1,none⟩ (.int .i64 y)).drew=o:=⟨_,rfl⟩;have Z:Hid (IL w o u5 u6 O t y q M):=by rw [<- A];exact hid (H.set1 y).drew
       have r2:o.cell? ⟨g,off+k*3+2,none⟩=some (.int .i64 m):=by rw [<- A];exact(World.cell?_setCell_far w2 ⟨w.heap.size,1,none⟩ _ _ (fun e=>H1 e.symm)).trans Hl
       go_wp2_with fail;try rw [A]
       try clear f1 A
       have t3:=Z.c2;refine zR (S:=fun w'=>w'.cell? ⟨g,off+k*3+2,none⟩=some (.int .i64 m)/\ w'.cell? ⟨w.heap.size,2,none⟩=some (.int .i64 q)) ⟨r2,t3⟩ (fun qh=> ?_);refine tZ 0 56 ?_;refine tZ 1 57 ?_;refine tZ 2 58 ?_;refine tZ 3 59 ?_;refine tZ 4 60 ?_;refine tZ 5 61 ?_;refine tZ 6 62 ?_;refine tZ 7 63 ?_;refine zD ?_;clear qh;have f2:=Z.f2;obtain⟨V,Y⟩:∃V,(o.setCell ⟨w.heap.size,2,none⟩ (.int .i64 m)).drew=V:=⟨_,rfl⟩;have Hb:Hid (IL w V u5 u6 O t y m M):=by rw [<- Y];exact hid (Z.set2 m).drew
       go_wp2_with fail;try rw [Y]
       try clear f2 Y
       go_roundw;case rel=>exact⟨k+1,N,by go_num,by rw [X.out,He.out,Hf.out];exact Hb⟩
       case measure=>simp [intOf];omega
      ·have d1:decide (y<z)=true:=by simp;exact h1
       have He:Hid (min y z=y):=hid (by omega);have d2:decide (q<m)=false:=by simp;omega
       have Hf:Hid (max m q=q):=hid (by omega);clear h1 h2;go_wp2_with fail;refine zR (S:=fun w'=>w'.cell? ⟨g,off+k*3+1,none⟩=some (.int .i64 y)/\ w'.cell? ⟨w.heap.size,1,none⟩=some (.int .i64 z)) ⟨Hk,Hm⟩ (fun qh=> ?_);refine tZ 0 42 ?_;refine tZ 1 43 ?_;refine tZ 2 44 ?_;refine tZ 3 45 ?_;refine tZ 4 46 ?_;refine tZ 5 47 ?_;refine tZ 6 48 ?_;refine tZ 7 49 ?_;refine zD ?_;clear qh;have f1:=Hy.out;obtain⟨o,A⟩:∃o,(w2.setCell ⟨w.heap.size,1,none⟩ (.int .i64 y)).drew=o:=⟨_,rfl⟩;have Z:Hid (IL w o u5 u6 O t y q M):=by rw [<- A];exact hid (H.set1 y).drew
       have r2:o.cell? ⟨g,off+k*3+2,none⟩=some (.int .i64 m):=by rw [<- A];exact(World.cell?_setCell_far w2 ⟨w.heap.size,1,none⟩ _ _ (fun e=>H1 e.symm)).trans Hl
       go_wp2_with fail;try rw [A]
       try clear f1 A
       have t3:=Z.c2;refine zR (S:=fun w'=>w'.cell? ⟨g,off+k*3+2,none⟩=some (.int .i64 m)/\ w'.cell? ⟨w.heap.size,2,none⟩=some (.int .i64 q)) ⟨r2,t3⟩ (fun qh=> ?_);refine tZ 0 56 ?_;refine tZ 1 57 ?_;refine tZ 2 58 ?_;refine tZ 3 59 ?_;refine tZ 4 60 ?_;refine tZ 5 61 ?_;refine tZ 6 62 ?_;refine tZ 7 63 ?_;refine zD ?_;clear qh;obtain⟨V,Y⟩:∃V,o.drew=V:=⟨_,rfl⟩;have Hb:Hid (IL w V u5 u6 O t y q M):=by rw [<- Y];exact hid Z.drew
       go_wp2_with fail;try rw [Y]
       try clear Y
       go_roundw;case rel=>exact⟨k+1,N,by go_num,by rw [X.out,He.out,Hf.out];exact Hb⟩
       case measure=>simp [intOf];omega
     ·by_cases h2:q<m
      ·have d1:decide (y<z)=false:=by simp;omega
       have He:Hid (min y z=z):=hid (by omega);have d2:decide (q<m)=true:=by simp;exact h2
       have Hf:Hid (max m q=m):=hid (by omega);clear h1 h2;go_wp2_with fail;refine zR (S:=fun w'=>w'.cell? ⟨g,off+k*3+1,none⟩=some (.int .i64 y)/\ w'.cell? ⟨w.heap.size,1,none⟩=some (.int .i64 z)) ⟨Hk,Hm⟩ (fun qh=> ?_);refine tZ 0 42 ?_;refine tZ 1 43 ?_;refine tZ 2 44 ?_;refine tZ 3 45 ?_;refine tZ 4 46 ?_;refine tZ 5 47 ?_;refine tZ 6 48 ?_;refine tZ 7 49 ?_;refine zD ?_;clear qh;obtain⟨o,A⟩:∃o,w2.drew=o:=⟨_,rfl⟩;have Z:Hid (IL w o u5 u6 O t z q M):=by rw [<- A];exact hid H.drew
       have r2:o.cell? ⟨g,off+k*3+2,none⟩=some (.int .i64 m):=by rw [<- A];exact Hl
       go_wp2_with fail;try rw [A]
       try clear A
       have t3:=Z.c2;refine zR (S:=fun w'=>w'.cell? ⟨g,off+k*3+2,none⟩=some (.int .i64 m)/\ w'.cell? ⟨w.heap.size,2,none⟩=some (.int .i64 q)) ⟨r2,t3⟩ (fun qh=> ?_);refine tZ 0 56 ?_;refine tZ 1 57 ?_;refine tZ 2 58 ?_;refine tZ 3 59 ?_;refine tZ 4 60 ?_;refine tZ 5 61 ?_;refine tZ 6 62 ?_;refine tZ 7 63 ?_;refine zD ?_;clear qh;have f2:=Z.f2;obtain⟨V,Y⟩:∃V,(o.setCell ⟨w.heap.size,2,none⟩ (.int .i64 m)).drew=V:=⟨_,rfl⟩;have Hb:Hid (IL w V u5 u6 O t z m M):=by rw [<- Y];exact hid (Z.set2 m).drew
       go_wp2_with fail;try rw [Y]
       try clear f2 Y
       go_roundw;case rel=>exact⟨k+1,N,by go_num,by rw [X.out,He.out,Hf.out];exact Hb⟩
       case measure=>simp [intOf];omega
      ·have d1:decide (y<z)=false:=by simp;omega
       have He:Hid (min y z=z):=hid (by omega);have d2:decide (q<m)=false:=by simp;omega
       have Hf:Hid (max m q=q):=hid (by omega);clear h1 h2;go_wp2_with fail;refine zR (S:=fun w'=>w'.cell? ⟨g,off+k*3+1,none⟩=some (.int .i64 y)/\ w'.cell? ⟨w.heap.size,1,none⟩=some (.int .i64 z)) ⟨Hk,Hm⟩ (fun qh=> ?_);refine tZ 0 42 ?_;refine tZ 1 43 ?_;refine tZ 2 44 ?_;refine tZ 3 45 ?_;refine tZ 4 46 ?_;refine tZ 5 47 ?_;refine tZ 6 48 ?_;refine tZ 7 49 ?_;refine zD ?_;clear qh;obtain⟨o,A⟩:∃o,w2.drew=o:=⟨_,rfl⟩;have Z:Hid (IL w o u5 u6 O t z q M):=by rw [<- A];exact hid H.drew
       have r2:o.cell? ⟨g,off+k*3+2,none⟩=some (.int .i64 m):=by rw [<- A];exact Hl
       go_wp2_with fail;try rw [A]
       try clear A
       have t3:=Z.c2;refine zR (S:=fun w'=>w'.cell? ⟨g,off+k*3+2,none⟩=some (.int .i64 m)/\ w'.cell? ⟨w.heap.size,2,none⟩=some (.int .i64 q)) ⟨r2,t3⟩ (fun qh=> ?_);refine tZ 0 56 ?_;refine tZ 1 57 ?_;refine tZ 2 58 ?_;refine tZ 3 59 ?_;refine tZ 4 60 ?_;refine tZ 5 61 ?_;refine tZ 6 62 ?_;refine tZ 7 63 ?_;refine zD ?_;clear qh;obtain⟨V,Y⟩:∃V,o.drew=V:=⟨_,rfl⟩;have Hb:Hid (IL w V u5 u6 O t z q M):=by rw [<- Y];exact hid Z.drew
       go_wp2_with fail;try rw [Y]
       try clear Y
       go_roundw;case rel=>exact⟨k+1,N,by go_num,by rw [X.out,He.out,Hf.out];exact Hb⟩
       case measure=>simp [intOf];omega
  ·obtain rfl:k=n:=by omega
   have Hw:=Hz k zL;generalize Hr:s k=sk at*;obtain⟨O,⟨t,z,q⟩,M⟩:=sk;simp only at E Hw;have B:=E.c0;have C:=E.c1;have G:=E.c2;have zr:=E.sz;clear Hr Hg;go_wp2_with (at_builtin;refine Qav rfl _ _ 24 rfl (w.heap.size+1) 113 i0 _ 3 24 Tryz.underlying24 hi Hs Ht Hu rfl (by decide) _ _ _ rfl (World.ownsRow.alloc E.b _) ⟨wr.heap.size,0,none⟩ 1 1 [.int .i64 t,.int .i64 z,.int .i64 q] rfl rfl ?o1 ?o2 ?o3 ?o4 ?o5 ?_);try (case o1=>exact QaK _ _ _ _ _)
   case o2=>first|exact⟨rfl,rfl,rfl⟩|(intro u W;simp at W;rcases W with rfl|rfl|rfl<;>rfl)
   case o3=>unfold maxLen;omega
   case o4=>omega
   case o5=>first|omega|(simp;omega)
   intro v7 w7 T D P;have I:=hid ((E.below (zO _ _)).app5 (t,z,q) T D (by simpa using P));clear T D P B C G E;have Hx:=I.na;have H6:=hid I.a;have Gj:=I.sz;rcases I.a.2 with ⟨e,_⟩|⟨g6,c6,Ge,e,_,_,Gi,Gf,_,_⟩
   ·rw [e] at Hx;exact absurd rfl Hx
   subst e;unfold maxLen at Gf;have H9:Hid (∀j u,(Qah M)[j]? =some u ->w7.cell? ((⟨g6,0,none⟩:Addr).add j)=some u):=hid (World.ownsRow.cells H6.out rfl);clear Hx;go_wp2_with (at_builtin;refine Qav rfl _ _ 24 rfl (w.heap.size+1) 113 i0 _ 3 24 Tryz.underlying24 hi Hs Ht Hu rfl (by decide) v7 (O++[(t,z,q)]).length (Qah (O++[(t,z,q)])) rfl I.b ⟨g6,0,none⟩ M.length c6 (Qah M) rfl (QcO M) H9.out (Qer M) ?r3 ?r4 ?r5 ?_);case r3=>unfold maxLen;simp;omega
   case r4=>simp;omega
   case r5=>omega
   intro v8 w8 Hc Hp Hq;have H8:Hid (Below w.heap.size w w8):=hid (I.bel.grown Hp (by omega) (fun k F=>by have:=(World.ownsRow.lt I.b k F).1;omega));have Ga:Hid (FR w8 w.heap.size v8 (O++[(t,z,q)]++M)):=by
    refine hid ?_;unfold FR;rw [Qbl,List.length_append,show (O++[(t,z,q)]).length=O.length+1 from by simp];obtain⟨q1,q2⟩:=Hc;refine⟨q1,q2.imp id ?_⟩;rintro⟨g,cap,Gd,e,hg,r⟩;exact⟨g,cap,Gd,e,by omega,r⟩
   clear Hc Hp Hq;go_wp2_with fail;go_ret;exact⟨v8,rfl,by rw [HE.out];exact Ga.out,H8.out⟩
theorem Qfl (a:Option Addr)(c:Nat)(l:List Rn)(rr rf rt:Int)(w:World)(hn:l.length<=100000)(h:FS w a l)(hl:QbT l)(hr:Rok (rr,rf,rt)):
  Calls Tryz.prog 86 #[.slice a l.length c,.agg #[.int .i64 rr,.int .i64 rf,.int .i64 rt]] w fun e w'=>∃v,e=.returned v/\ FR w' w.heap.size v (ins l (rr,rf,rt))/\ Below w.heap.size w w':=QkC a c l rr rf rt w hn h (fun p hp=>(hl.2 p hp).bnd) hr.bnd
def unL (R F T:Nat ->Int)(n:Nat)(R' F' T':Nat ->Int)(n':Nat):List Rn:=unF (flat R F T n) (flat R' F' T' n')
theorem Qml (l:List Rn)(r:Rn):(ins l r).length<=l.length+1:=by
 have:=QgJ l r l.length zL;rw [Qj6] at this;unfold ins;simp only [List.length_append,List.length_singleton];omega
theorem QcZ:∀(b l:List Rn),(unF l b).length<=l.length+b.length
 | [],l=>by simp [unF]
 | q::b,l=>by
  have j:=QcZ b (ins l q);have k:=Qml l q;show (unF (ins l q) b).length<=_;simp only [List.length_cons];omega
theorem Qdy (l b:List Rn)(q:Rn):unF l (b++[q])=ins (unF l b) q:=by simp [unF]
theorem QaU (R F T:Nat ->Int)(n:Nat):(flat R F T n).length=n:=by simp [flat]
theorem Qgo (R F T:Nat ->Int)(n i:Nat)(h:i<n):gR (flat R F T n) i=(R i,F i,T i):=by simp [gR,flat,List.getD,h]
theorem QfA (l:List Rn)(j:Nat)(u:Value)(h:(Qah l)[j]? =some u):j/3<l.length/\ ((j%3=0/\ u=.int .i64 (gR l (j/3)).1) \/(j%3=1/\ u=.int .i64 (gR l (j/3)).2.1) \/(j%3=2/\ u=.int .i64 (gR l (j/3)).2.2)):=by
 induction l generalizing j with
 | nil=>simp [Qah] at h
 | cons a l ih=>
  have e:Qah (a::l)=.int .i64 a.1::.int .i64 a.2.1::.int .i64 a.2.2::Qah l:=by simp [Qah]
  rw [e] at h;match j,h with
  | 0,h=>simp at h;simp [gR,h]
  | 1,h=>simp at h;simp [gR,h]
  | 2,h=>simp at h;simp [gR,h]
  | j+3,h=>
   have h:(Qah l)[j]? =some u:=by simpa using h
   obtain⟨r,q⟩:=ih j h;have k:(j+3)/3=j/3+1:=by omega
   have m:(j+3)%3=j%3:=by omega
   rw [k,m];refine⟨by simp;omega,?_⟩;simpa [gR] using q
theorem Qe2 {w:World}{g off n:Nat}{R F T:Nat ->Int}(h:Qb3 w (some ⟨g,off,none⟩) n R F T):∀j u,(Qah (flat R F T n))[j]? =some u ->w.cell? ((⟨g,off,none⟩:Addr).add j)=some u:=by
 intro j u z;obtain⟨k,m⟩:=QfA _ j u z;rw [QaU] at k;obtain⟨b,o,e,i,r,v,y⟩:=h.at k;injection e with e;injection e with e3 e4;subst e3 e4;rw [Qgo _ _ _ _ _ k] at m;have t:j=j/3*3+j%3:=by omega
 rcases m with ⟨q,rfl⟩|⟨q,rfl⟩|⟨q,rfl⟩
 ·rw [Addr.add_lit,show off+j=off+j/3*3 from by omega];exact r
 ·rw [Addr.add_lit,show off+j=off+j/3*3+1 from by omega];exact v
 ·rw [Addr.add_lit,show off+j=off+j/3*3+2 from by omega];exact y
theorem FR.weak {w:World}{B C:Nat}{v:Value}{l:List Rn}(h:FR w B v l)(hc:C<=B):FR w C v l:=by
 obtain⟨k,m⟩:=h;refine⟨k,m.imp id ?_⟩;rintro⟨g,cap,j,e,q,r⟩;exact⟨g,cap,j,e,by omega,r⟩
theorem QdX {P:Program}(w:World)(t ty e:TypeId)(i:TypeInfo)(ht:P.underlying t=some (.slice e))(hi:P.info? e=some i)(base:Option Addr)(n cap c':Nat)(h:n<=cap):
  (Builtin.append_ #[t,t] ty #[.slice base n cap,.slice none 0 c']).run P w=.ok (.slice base n cap) w:=by
 cases base<;>simp [Builtin.append_,run_underlying ht,sizeOf,typeInfo,hi,Builtin.lenOf,Builtin.firstCells,storeCells,loadCells,loadCellsFrom,h,Result.andThen]
theorem Qfr {P:Program}{w:World}{ops:Array Oper}{rest:List Oper}{o:Oper}{a:Act}{Q:Exit ->Act ->World ->Prop}(hgd:o.guard=none)(s x:Operand)(t:TypeId)
  (ho:o.op=.call {callee:=.builtin .append,args:=#[s,x],argTypes:=#[t,t]})
  (base:Nat) (e:TypeId) (i:TypeInfo) (z:Value) (size bytes:Nat) (ht:P.underlying t=some (.slice e)) (hi:P.info? e=some i) (hz:i.zero=some z)
  (hsize:i.size=size) (hby:i.bytes=bytes) (hzs:z.cells.size=size) (hsz:0<size)
  (v:Value) (n:Nat) (xs:List Value) (hs:a.eval s=v) (hown:w.ownsRow base e size v n xs)
  (ad:Option Addr) (m c:Nat) (news:List Value) (hx:a.eval x=.slice ad m c) (hl:news.length=m*size) (hnews:m=0 \/∃b,ad=some b/\∀j u,news[j]? =some u ->w.cell? (b.add j)=some u) (h1:∀u∈news,u.oneCell'=true)
  (h63:n+m<=maxLen) (hbytes:(n+m)*bytes<=140737488355328) (hbase:base<=w.heap.size)
  (h:∀v' w',w'.ownsRow base e size v' (n+m) (xs++news) ->w.grownBy w' v.ownBlock ->(v'.ownBlock=v.ownBlock \/v'.ownBlock=some w.heap.size) ->wpList P ops Q rest (a.put o.dst v') w'):wpList P ops Q (o::rest) a w:=by
 rcases ad with _|b
 ·obtain rfl:m=0:=by
   rcases hnews with q|⟨_,e,_⟩
   ·exact q
   ·cases e
  obtain rfl:news=[]:=List.length_eq_zero_iff.1 (by omega);obtain⟨b,cap,k,A⟩:∃b cap,v=.slice b n cap/\ n<=cap:=by
   rcases hown.2 with ⟨e,r⟩|⟨g,cap,M,e,_,_,E,_⟩
   ·exact⟨none,0,by rw [e,r],by omega⟩
   ·exact⟨_,cap,e,E⟩
  refine wpList_plain hgd fun _ hK=> ?_;unfold Oper.wp execOp;rw [k] at hs;simp only [ho,resolve,invoke,builtin,Sem.run_bind,Sem.run_pure,Result.andThen_ok,List.map_toArray,List.map_cons,List.map_nil,hs,hx,QdX w _ _ _ i ht hi b n cap c A];refine hK _ _ (h _ _ ?_ ⟨rfl,rfl,rfl,Nat.le_refl _,fun _ _ _=>rfl⟩ (.inl (by rw [k])));rw [List.append_nil,<- k];exact hown
 ·refine Qav hgd s x t ho base e i z size bytes ht hi hz hsize hby hzs hsz v n xs hs hown b m c news hx hl ?_ h1 h63 hbytes hbase h;rcases hnews with q|⟨b',e,y⟩
  ·subst q;obtain rfl:news=[]:=List.length_eq_zero_iff.1 (by omega);intro j u p;simp at p
  ·injection e with e;subst e;exact y
theorem Qe5 (a:Option Addr)(n c:Nat)(R F T:Nat ->Int)(a':Option Addr)(n' c':Nat)(R' F' T':Nat ->Int)(w:World)(hn:n<=1000)(hn':n'<=1000)(h:Qb3 w a n R F T)(h':Qb3 w a' n' R' F' T')(ho:Qeg R F T n)(ho':Qeg R' F' T' n'):
  Calls Tryz.prog 53 #[.agg #[.slice a n c],.agg #[.slice a' n' c']] w fun e w'=>∃v,e=.returned (.agg #[v])/\ FR w' w.heap.size v (unL R F T n R' F' T' n')/\ Below w.heap.size w w':=by
 obtain⟨i0,hi,H4,H5,H6⟩:=info_parts Tryz.infoRun;obtain⟨t,Y⟩:∃t:Nat ->List Rn,(fun k=>unF (flat R F T n) (flat R' F' T' k))=t:=⟨_,rfl⟩;have Hf:Hid (t 0=flat R F T n):=by rw [<- Y];exact hid rfl
 have H1:Hid (∀k,t (k+1)=ins (t k) (R' k,F' k,T' k)):=by rw [<- Y];exact hid fun k=>by show unF _ (flat R' F' T' (k+1))=_;rw [Qc9,Qdy]
 have Hy:Hid (t n'=unL R F T n R' F' T' n'):=by rw [<- Y];exact hid rfl
 have H0:Hid (∀k,(t k).length<=n+k):=by rw [<- Y];exact hid fun k=>by have:=QcZ (flat R' F' T' k) (flat R F T n);rw [QaU,QaU] at this;exact this
 have Hz:Hid (∀k,k<=n' ->QbT (t k)):=by rw [<- Y];exact hid fun k V=>(Qdj _ _ (Qbv n ho) (Qbv k (fun i hi=>ho' i (by omega))).2).1
 have Hx:Hid (∀k,k<n' ->Rok (R' k,F' k,T' k)):=hid fun k V=>Qbg.1 (ho' k V).1;have C:=hid (QaU R F T n);have X:Hid (n=0 \/∃g off,a=some ⟨g,off,none⟩/\ g<w.heap.size/\∀j u,(Qah (flat R F T n))[j]? =some u ->w.cell? ((⟨g,off,none⟩:Addr).add j)=some u):=by
  rcases Nat.eq_zero_or_pos n with G|G
  ·exact hid (.inl G)
  ·obtain⟨b,o,e,P,_⟩:=h.at G;rw [e] at h;exact hid (.inr ⟨b,o,e,P,Qe2 h⟩)
 clear Y ho ho';obtain⟨Z,Hj⟩:∃Z,flat R F T n=Z:=⟨_,rfl⟩;rw [Hj] at Hf C X;clear Hj;obtain⟨r,Hh⟩:∃r,((w.alloc (.cells #[.slice a n c] 26)).alloc (.cells #[.slice a' n' c'] 26)).alloc (.cells #[.slice none 0 0] 26)=r:=⟨_,rfl⟩;obtain⟨z,Q⟩:∃z,(w.alloc (.cells #[.slice a n c] 26)).alloc (.cells #[.slice a' n' c'] 26)=z:=⟨_,rfl⟩;have za:z.heap.size=w.heap.size+2:=by rw [<- Q];simp
 have Hg:Below w.heap.size w z:=by rw [<- Q];exact Qak _ _ _
 have Hl:z.cell? ⟨w.heap.size,0,none⟩=some (.slice a n c):=by rw [<- Q];simp
 have Hm:z.cell? ⟨w.heap.size+1,0,none⟩=some (.slice a' n' c'):=by rw [<- Q];simp
 have H:z.alloc (.cells #[.slice none 0 0] 26)=r:=by rw [<- Q];exact Hh
 have J:Below z.heap.size z r:=by rw [<- H];exact zO _ _
 have Hn:Hid (Below w.heap.size w r):=hid (Qab Hg J);have s:Hid (r.heap.size=w.heap.size+3):=hid (by rw [<- H];simp;omega);have x0:r.cell? ⟨w.heap.size,0,none⟩=some (.slice a n c):=(J.cell (p:=⟨w.heap.size,0,none⟩) (show w.heap.size<z.heap.size by omega)).trans Hl;have x1:r.cell? ⟨w.heap.size+1,0,none⟩=some (.slice a' n' c'):=(J.cell (p:=⟨w.heap.size+1,0,none⟩) (show w.heap.size+1<z.heap.size by omega)).trans Hm;have x2:r.cell? ⟨w.heap.size+1+1,0,none⟩=some (.slice none 0 0):=by rw [<- H,show w.heap.size+1+1=z.heap.size from by omega];simp
 have y2:r.frozen? ⟨w.heap.size+1+1,0,none⟩=false:=by rw [<- H,show w.heap.size+1+1=z.heap.size from by omega];simp
 clear Q Hl Hm H J Hg za;have Hv:=hid h';have Hr:Hid (∀w1,Below w.heap.size w w1 ->n=0 \/∃ad,a=some ad/\∀j u,(Qah Z)[j]? =some u ->w1.cell? (ad.add j)=some u):=by
  refine hid fun w1 P=> ?_;rcases X.out with G|⟨g,off,e,hg,hc⟩
  ·exact .inl G
  ·refine .inr ⟨_,e,fun j u hj=> ?_⟩;have K:=hc j u hj;rw [Addr.add_lit] at K ⊢;exact(P.cell (p:=⟨g,off+j,none⟩) hg).trans K
 clear h h' X;obtain⟨M,D⟩:∃M,r.alloc (.cells #[] 113)=M:=⟨_,rfl⟩;have E:Below r.heap.size r M:=by rw [<- D];exact zO _ _
 have u0:=(E.cell (p:=⟨w.heap.size,0,none⟩) (show w.heap.size<r.heap.size by have:=s.out;omega)).trans x0;have u1:=(E.cell (p:=⟨w.heap.size+1,0,none⟩) (show w.heap.size+1<r.heap.size by have:=s.out;omega)).trans x1;have u2:=(E.cell (p:=⟨w.heap.size+1+1,0,none⟩) (show w.heap.size+1+1<r.heap.size by have:=s.out;omega)).trans x2;have v2:=((Qc4 E).2 (w.heap.size+1+1) 0 (by have:=s.out;omega)).trans y2;have Hw:Hid (M.ownsRow (w.heap.size+3) 113 3 (.slice (some ⟨r.heap.size,0,none⟩) 0 0) 0 []):=by
  rw [<- D];exact hid (World.ownsRow_lit (base:=w.heap.size+3) (e:=113) (size:=3) r #[] 0 (by have:=s.out;omega) (by unfold maxLen;omega) rfl)
 have He:=hid (Qab Hn.out E);have I:Hid (w.heap.size+3<=M.heap.size):=hid (by have:=E.size;have:=s.out;omega);clear E x0 x1 x2 y2;go_enter Tryz.func53,Tryz.ntmps53;go_wp2_with (at_builtin;refine Qfr rfl _ _ 24 rfl (w.heap.size+3) 113 i0 _ 3 24 Tryz.underlying24 hi H4 H5 H6 rfl (by decide) (.slice (some ⟨r.heap.size,0,none⟩) 0 0) 0 [] rfl Hw.out a n c (Qah Z) rfl ?c1 (Hr M He.out) (Qer Z) ?c4 ?c5 I.out ?_);case c1=>rw [QcO,C.out]
 case c4=>unfold maxLen;omega
 case c5=>omega
 intro v3 N Ha U Hb;have L:∀q,q<w.heap.size+3 ->some q≠(Value.slice (some ⟨r.heap.size,0,none⟩) 0 0).ownBlock:=fun q hq e=>by
  have:=s.out;simp [Value.ownBlock] at e;omega
 have z3:w.heap.size+3<=N.heap.size:=by have:=U.size;have:=I.out;omega
 have d1:=U.cell u1 (L (w.heap.size+1) (by omega));have d2:=U.cell u2 (L (w.heap.size+1+1) (by omega));have k2:N.frozen? ⟨w.heap.size+1+1,0,none⟩=false:=(World.frozen?_of_block (U.block (w.heap.size+1+1) (by have:=I.out;omega) (L _ (by omega)))).trans v2;have Hs:Hid (FR N (w.heap.size+3) v3 (t 0)):=by
  rw [Hf.out];unfold FR;rw [C.out];have K:=Ha;exact hid K
 have Ho:Hid (Below w.heap.size w N):=hid (He.grown U (by have:=I.out;omega) (fun k V=>by have:=s.out;simp [Value.ownBlock] at V;omega));clear Ha U Hb u0 u1 u2 v2 D Hh L;go_wp2_with fail;go_loopw [5,6] (fun u5 iv wr=>∃(k:Nat),k<=n'/\ iv=.int .i64 k/\ Hid (FR wr (w.heap.size+3) u5 (t k))/\ wr.cell? ⟨w.heap.size+1,0,none⟩=some (.slice a' n' c')/\ wr.cell? ⟨w.heap.size+1+1,0,none⟩=some (.slice none 0 0)/\ wr.frozen? ⟨w.heap.size+1+1,0,none⟩=false/\ Hid (Below w.heap.size w wr)/\ w.heap.size+3<=wr.heap.size) (fun _ iv _=>n' - (intOf iv).toNat);case atStart=>exact⟨0,Nat.zero_le _,rfl,Hs,d1,d2,k2,Ho,z3⟩
 case round=>
  clear d1 d2 k2 z3;obtain⟨k,V,rfl,W,e1,A,j2,S,zr⟩:=hrel;by_cases Hd:k<n'
  ·obtain⟨gb,ob,rfl,H7,q0,q1,q2⟩:=(Hv.below S.out).at Hd;obtain⟨x,cc,rfl,Hk,H2,H3⟩:=W.fs;have H8:=H0 k;have HC:=hid (Qfl x cc (t k) (R' k) (F' k) (T' k) wr (by omega) Hk (Hz k V) (Hx k Hd));have HN:=hid (H1 k);obtain⟨ln,Hc⟩:∃ln,(t k).length=ln:=⟨_,rfl⟩;rw [Hc] at HC;clear Hk;go_wp2_with fail;try rw [Hc]
   refine HC.mono ?_;rintro e w4 ⟨v4,rfl,Hi,b4⟩;have Ht:Hid (FR w4 (w.heap.size+3) v4 (t (k+1))):=by rw [HN.out];exact hid (Hi.weak zr)
   have r1:=(b4.cell (p:=⟨w.heap.size+1,0,none⟩) (show w.heap.size+1<wr.heap.size by omega)).trans e1;have r2:=(b4.cell (p:=⟨w.heap.size+1+1,0,none⟩) (show w.heap.size+1+1<wr.heap.size by omega)).trans A;have s2:=((Qc4 b4).2 (w.heap.size+1+1) 0 (by omega)).trans j2;have Hp:=hid (Qab S.out b4);have z4:=b4.size;clear Hi b4 e1 A j2 q0 q1 q2 Hc;go_wp2_with fail;go_roundw;case rel=>exact⟨k+1,Hd,by go_num,Ht,r1,r2,s2,Hp,by omega⟩
   case measure=>simp [intOf];omega
  ·obtain rfl:k=n':=by omega
   have B:Hid (FR wr (w.heap.size+3) u5 (unL R F T n R' F' T' k)):=by rw [<- Hy.out];exact W
   obtain⟨y,m,O,rfl⟩:=QbJ B.out;have Hu:Hid (FR (wr.setCell ⟨w.heap.size+1+1,0,none⟩ (.slice y m O)) w.heap.size (.slice y m O) (unL R F T n R' F' T' k)):=by
    refine hid ?_;refine World.ownsRow.kept (B.weak (by omega)) (Qbw wr ⟨w.heap.size+1+1,0,none⟩ _) ?_;cases e:(Value.slice y m O).ownBlock with
    | none=>exact .inl rfl
    | some g=>exact .inr (fun A=>by have:=(World.ownsRow.lt B.out g e).1;injection A with A;have A:g=w.heap.size+1+1:=A;omega)
   have Hq:Hid (Below w.heap.size w (wr.setCell ⟨w.heap.size+1+1,0,none⟩ (.slice y m O))):=hid (S.setCell (p:=⟨w.heap.size+1+1,0,none⟩) (by show w.heap.size<=w.heap.size+1+1;omega) _);have k6:=World.cell?_setCell_same wr ⟨w.heap.size+1+1,0,none⟩ (.slice y m O) A;clear W;go_wp2_with fail;refine zF (v:=.agg #[.slice y m O]) (by simp [results,Tryz.results53,go_sem,k6]) ⟨_,rfl,Hu.out,Hq.out⟩
def gS (p:List ByteArray)(i:Nat):ByteArray:=p.getD i ByteArray.empty
def QaR (w:World)(a:Option Addr)(p:List ByteArray):Prop:=
 p.length=0 \/∃b off,a=some ⟨b,off,none⟩/\ b<w.heap.size/\∀i,i<p.length ->w.cell? ⟨b,off+i,none⟩=some (.string (gS p i))
theorem QaR.kept {w w1:World}{B:Nat}{a:Option Addr}{p:List ByteArray}(h:QaR w a p)(hb:Below B w w1)(hB:w.heap.size<=B):QaR w1 a p:=by
 refine h.imp id ?_;rintro⟨b,off,e,j,k⟩;exact⟨b,off,e,Nat.lt_of_lt_of_le j hb.size,fun i hi=>(hb.cell (p:=⟨b,off+i,none⟩) (Nat.lt_of_lt_of_le j hB)).trans (k i hi)⟩
theorem QaR.below {w w1:World}{a:Option Addr}{p:List ByteArray}(h:QaR w a p)(hb:Below w.heap.size w w1):QaR w1 a p:=h.kept hb zL
structure Lf where
 p:List ByteArray
 fl:Bool
 r:Int
 q:Int
 v:ByteArray
def gL (l:List Lf)(i:Nat):Lf:=l.getD i ⟨[],false,0,0,ByteArray.empty⟩
def Qf1 (w:World)(a:Option Addr)(l:List Lf):Prop:=
 l.length=0 \/∃b off,a=some ⟨b,off,none⟩/\ b<w.heap.size/\∀i,i<l.length ->∃pa pc,w.cell? ⟨b,off+i*5,none⟩=some (.slice pa (gL l i).p.length pc)/\ QaR w pa (gL l i).p/\ w.cell? ⟨b,off+i*5+1,none⟩=some (.bool (gL l i).fl)/\ w.cell? ⟨b,off+i*5+2,none⟩=some (.int .i64 (gL l i).r)/\ w.cell? ⟨b,off+i*5+3,none⟩=some (.int .i64 (gL l i).q)/\ w.cell? ⟨b,off+i*5+4,none⟩=some (.string (gL l i).v)
theorem Qf1.below {w w1:World}{a:Option Addr}{l:List Lf}(h:Qf1 w a l)(hb:Below w.heap.size w w1):Qf1 w1 a l:=by
 refine h.imp id ?_;rintro⟨b,off,e,j,y⟩;refine⟨b,off,e,Nat.lt_of_lt_of_le j hb.size,fun i hi=> ?_⟩;obtain⟨z,pc,k,s,m,r,u,v⟩:=y i hi;have q:=fun o=>hb.cell (p:=⟨b,o,none⟩) j;exact⟨z,pc,(q _).trans k,s.below hb,(q _).trans m,(q _).trans r,(q _).trans u,(q _).trans v⟩
def LfI (x:Lf):Prop:=(Lit.int .i64 x.r).wf=true/\ (Lit.int .i64 x.q).wf=true
theorem Qc2 (b off j:Nat):(⟨b,off,none⟩:Addr).add j=⟨b,off+j,none⟩:=by
 by_cases k:j=0
 ·subst k;rfl
 ·simp [Addr.add,k]
def LBd (l:List Lf):Prop:=∀i,(gL l i).p.length<=1048576
theorem Qnk {p:List ByteArray}{i:Nat}(h:p.length<=i):gS p i=ByteArray.empty:=by simp [gS,List.getD,List.getElem?_eq_none h]
end Go.Proofs.YtdeolligikjieaaGreatDoor
