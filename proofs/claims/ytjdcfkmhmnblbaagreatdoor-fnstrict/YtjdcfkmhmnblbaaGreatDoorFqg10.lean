import Derived.Test.YtjdcfkmhmnblbaaGreatDoorFqg09
import Derived.Shelf.SlIter.Collect
import Derived.Test.YtjdcfkmhmnblbaaGreatDoorFqg05
import Derived.Test.YtjdcfkmhmnblbaaGreatDoorFqg03
import Derived.RegionTactic
import Derived.ChangeAlike
import Derived.Test.YtjdcfkmhmnblbaaGreatDoorFqg02
import Derived.Deep.CutRange
import Derived.Test.YtjdcfkmhmnblbaaGreatDoorFqg04
import Derived.Test.YtjdcfkmhmnblbaaGreatDoorFqg01
set_option linter.unusedVariables false
set_option linter.unusedSimpArgs false
set_option maxRecDepth 100000
set_option maxHeartbeats 40000000
namespace Go.Proofs.YtjdcfkmhmnblbaaGreatDoor
open Go.ChangeShapes Go.WideShapes Go.ChangeAt Go.RowKit
section
variable {R F T : Nat -> Int} {n : Nat} {la : List Lf} {R' F' T' : Nat -> Int} {n' : Nat} {lb : List Lf}
end
section
variable {fa fb : Dt -> Option ByteArray} {hb : Dt -> Bool} {f : Dt -> Option ByteArray} {ds : List Dt} {d : Dt} {v : ByteArray}
end
noncomputable def cW (J:List Lf)(z:List Ky):Nat:=(J.filter (fun x=>yes (z <+:Way x))).length
open Go.Maps
section
variable {α β : Type} {w : World} {t : TypeId} {kv : α -> Value} {vo : Option β -> Value} {b c : Nat} {f : α -> Option β} {D : DataW Value}
end
section
variable {α β : Type} {w w' : World} {t : TypeId} {kv : α -> Value} {vo : Option β -> Value} {mo : Option Nat} {r c cnt : Nat} {f : α -> Option β} {ds : List α}
end
section
variable {α β : Type} {t : TypeId} {kv : α -> Value} {vo : Option β -> Value} {mo : Option Nat} {r c cnt : Nat} {f : α -> Option β} {ds : List α}
variable (w : World) {ops : Array Oper} {rest : List Oper} {o : Oper} {a : Act} {Q : Exit -> Act -> World -> Prop}
end
section
variable {α β : Type} {w w' : World} {t : TypeId} {kv : α -> Value} {vo : Option β -> Value} {mo : Option Nat} {r c cnt : Nat} {f : α -> Option β} {ds : List α}
end
theorem QiR {w w':World}{row:Option Nat}{a:Addr}(hg:w.grownBy w' row)(hlt:a.block<w.heap.size)(hne:some a.block≠row):w'.frozen? a=w.frozen? a:=by
 unfold World.frozen?;rw [hg.block a.block hlt hne]
theorem Bx2.gr {w w':World}{b:Nat}{v0 v1:Value}{row:Option Nat}(h:Bx2 w b v0 v1)(hg:w.grownBy w' row)(hr:∀k,row=some k ->k≠b):Bx2 w' b v0 v1:=
 have j:some b≠row:=fun e=>hr b e.symm rfl
 ⟨hg.cell h.c0 j,hg.cell h.c1 j,fun i=>(QiR hg h.lt j).trans (h.f i),Nat.lt_of_lt_of_le h.lt hg.size⟩
section
variable {w w' : World} {s t : Nat} {a0 a1 a2 b0 b1 b2 : Option Nat} {x0 : Nat × Nat}
end
section
variable {w w' : World} {B c : Nat} {N : List Ky -> Option (Nat × Nat)} {M : List Ky -> Dt -> Option ByteArray}
theorem Tre.lower {B':Nat}(h:Tre w B N M c)(hB:B'<=B):Tre w B' N M c:=⟨h.kids,h.marks,h.apart,fun p x hx=>by have:=h.lo p x hx;omega,h.none',h.up⟩
end
section
variable {w w' : World} {B c : Nat} {J : List Lf} {z : List Ky} {K : Ky -> Prop} {N N1 : List Ky -> Option (Nat × Nat)} {x0 x1 : Nat × Nat}
theorem JT.mono {c':Nat}(h:JT w B J z K N c x0)(hc:c<=c'):JT w B J z K N c' x0:=⟨h.tre.mono hc,h.root,h.there⟩
end
open Go.Deep
def loV (m i:Nat):ByteArray:=txJ (rpt ⟨#[118]⟩ (if i=19 then m else 200))
def loF (m i:Nat):Lf:=⟨[txJ [97+(i:Int)]],false,0,((i+1:Nat):Int),loV m i⟩
def loL (m k:Nat):List Lf:=(List.range k).map (loF m)
theorem Qbs (m k:Nat):(loL m k).length=k:=by simp [loL]
theorem Qk5 (m k:Nat):loL m (k+1)=loL m k++[loF m k]:=by simp [loL,List.range_succ]
theorem Qh3 {m k i:Nat}(h:i<k):gL (loL m k) i=loF m i:=by simp [gL,List.getD,loL,h]
def loS (m:Nat):Sx:=⟨loL m 20,1,fun _=>0,fun _=>1,fun _=>20⟩
theorem QoG:∀i:Nat,i<20 ->0<i ->Op.bytesLess (txJ [97+((i - 1:Nat):Int)]).data.toList (txJ [97+(i:Int)]).data.toList=true:=by decide+kernel
theorem QnL {m:Nat}(hm:m<=200):QaQ (fun _=>0) (fun _=>1) (fun _=>20) 1 (loL m 20):=by
 refine⟨by decide,by rw [Qbs];omega,fun i hi=> ?_,fun i hi j hj=> ?_⟩
 ·rw [Qbs] at hi;rw [Qh3 hi];refine⟨⟨⟨Nat.le_refl _,by show 1<=8;omega,fun t ht=> ?_⟩,?_,fun h=>by cases h⟩,?_,fun h0=> ?_⟩
  ·obtain rfl:t=0:=by have:t<1:=ht;omega
   show 1<=(txJ [97+(i:Int)]).size/\ (txJ [97+(i:Int)]).size<=40;rw [Qd7];simp
  ·show (loV m i).size<=200;unfold loV;rw [Qd7,QgT];have:(⟨#[118]⟩:ByteArray).size=1:=rfl;rw [this];split<;>omega
  ·show Qct (fun _=>0) (fun _=>1) (fun _=>20) 0 ((i+1:Nat):Int) ((i+1:Nat):Int) 1=true;simp [Qct];omega
  ·rw [Qh3 (by omega)];have q:ltS (txJ [97+((i - 1:Nat):Int)]) (txJ [97+(i:Int)])=true:=by
    unfold ltS;rw [ByteArray.toList_eq,ByteArray.toList_eq];exact QoG i hi h0
   have k:QaC [txJ [97+((i - 1:Nat):Int)]] [txJ [97+(i:Int)]]= -1:=by
    unfold QaC QbH;rw [if_pos q];rfl
   show orI (QaC [txJ [97+((i - 1:Nat):Int)]] [txJ [97+(i:Int)]]) _<0;rw [k];simp [orI]
 ·rw [Qbs] at hi;rw [Qh3 hi,Qh3 (by omega)];rintro⟨_,h⟩;have:((j+1:Nat):Int)=((i+1:Nat):Int):=h;omega
theorem LC.setBo {w:World}{lo b i:Nat}{v u:Value}{l:List Lf}{P Q:Nat ->Nat}(h:LC w lo v l P Q)(hv:v.ownBlock≠some b)(hP:∀j,j<l.length ->P j≠b):LC (w.setCell ⟨b,i,none⟩ u) lo v l P Q:=
 ⟨QaD h.row (fun g hg=>zH _ _ _ _ (fun e=>hv (by rw [hg,e]))),fun j hj=>by
  obtain⟨m,q,r,k⟩:=h.pt j hj;exact⟨m,by simpa [World.setCell] using q,r,k.1.same (zH _ _ _ _ (fun e=>hP j hj e)),k.2⟩⟩
structure LoS (w wr:World)(m j g c:Nat)(P Q:Nat ->Nat):Prop where
 bx:Bx2 wr (w.heap.size+1+1) (.slice (some ⟨g,0,none⟩) j c) (.slice none 0 0)
 lc:LC wr (w.heap.size+1) (.slice (some ⟨g,0,none⟩) j c) (loL m j) P Q
 gb:g≠w.heap.size+1+1
 pb:∀i,i<j ->P i≠w.heap.size+1+1
 rs:Bx2 wr w.heap.size (.slice none 0 0) (.slice none 0 0)
 low:Below w.heap.size w wr
 sz:w.heap.size+3<=wr.heap.size
theorem LoS.below {w wr w1:World}{m j g c:Nat}{P Q:Nat ->Nat}(h:LoS w wr m j g c P Q)(hb:Below wr.heap.size wr w1):LoS w w1 m j g c P Q:=
 ⟨h.bx.below hb h.bx.lt,h.lc.below hb,h.gb,h.pb,h.rs.below hb h.rs.lt,Qac h.low hb,Nat.le_trans h.sz hb.size⟩
theorem QoH (k:Nat)(hk:k<16)(w:World):
  Calls Tryz.prog 12 #[.int .i64 (k:Int)] w fun e w'=>∃a c x d,e=.returned (.agg #[.slice a (loS (30+k%10)).l.length c,.slice x (loS (30+k%10)).n d])/\ SNc w' w.heap.size a c x (loS (30+k%10))/\ Below w.heap.size w w':=by
 obtain⟨i0,u,Hx,Hy,Hz⟩:=info_parts Qd0;obtain⟨m,hm⟩:∃m,30+k%10=m:=⟨_,rfl⟩;have Hw:IntKind.i64.wrap (30+(k:Int)%10)=(m:Int):=by rw [show 30+(k:Int)%10=(m:Int) by omega];exact Qan _ (by omega) (by omega)
 have Hu:m<=1000:=by omega
 rw [hm];clear hm;have K:Hid (LoS w (((w.alloc (.cells #[.slice none 0 0,.slice none 0 0] 29)).alloc (.cells #[] 77)).alloc (.cells #[.slice (some ⟨w.heap.size+1,0,none⟩) 0 0,.slice none 0 0] 29)) m 0 (w.heap.size+1) 0 (fun _=>0) (fun _=>0)):=hid (by
  have R:=World.ownsRow_lit (base:=w.heap.size+1) (e:=77) (size:=5) (w.alloc (.cells #[.slice none 0 0,.slice none 0 0] 29)) #[] 0 (by simp) (by unfold maxLen;omega) rfl;refine⟨?_,⟨?_,fun i u=>by simp [loL] at u⟩,by omega,fun i u=>by omega,((Bx2.made w _ _ _).allocs _).allocs _,(Qak _ _ _).alloc (by simp;omega) _,by simp⟩
  ·simpa using Bx2.made ((w.alloc (.cells #[.slice none 0 0,.slice none 0 0] 29)).alloc (.cells #[] 77)) (.slice (some ⟨w.heap.size+1,0,none⟩) 0 0) (.slice none 0 0) 29
  ·have R2:=QaD R (fun g hg=>(zO _ (.cells #[.slice (some ⟨w.heap.size+1,0,none⟩) 0 0,.slice none 0 0] 29)).block g (R.lt g hg).2);simpa [loL] using R2)
 go_enter Tryz.func12,Tryz.ntmps12;go_wp2_with fail;obtain⟨W3,F⟩:∃W3,(((w.alloc (.cells #[.slice none 0 0,.slice none 0 0] 29)).alloc (.cells #[] 77)).alloc (.cells #[.slice (some ⟨w.heap.size+1,0,none⟩) 0 0,.slice none 0 0] 29))=W3:=⟨_,rfl⟩;rw [F] at K;try rw [F]
 clear F;go_loopw [5] (fun i wr=>∃(j g c:Nat) (P Q:Nat ->Nat),j<=20/\ i=.int .i64 (j:Int)/\ Hid (LoS w wr m j g c P Q)) (fun i _=>20 - (intOf i).toNat);case atStart=>exact⟨0,_,_,_,_,Nat.zero_le _,rfl,K⟩
 case round=>
  clear K;obtain⟨j,g,c,P,Q,hj,rfl,r⟩:=hrel;by_cases Ht:j<20
  ·have i1:(j:Int)<20:=by omega
   obtain⟨y,Hf⟩:∃z:Nat,97+j=z:=⟨_,rfl⟩;have w1:IntKind.i64.wrap (97+(j:Int))=(y:Int):=by rw [show 97+(j:Int)=(y:Int) by omega];exact Qan _ (by omega) (by omega)
   have v1:IntKind.u8.wrap (y:Int)=(y:Int):=by rw [IntKind.wrap_u8];omega
   have Hg:[97+(j:Int)]=[(y:Int)]:=by rw [show 97+(j:Int)=(y:Int) by omega]
   go_wp2_with fail;refine(Qch ⟨#[118]⟩ 200 wr (by decide) (by omega)).mono ?_;rintro e u1 ⟨rfl,Hm⟩;have J:=hid Hm;clear Hm;go_upto_if 18 with fail;go_cut [6] from 15 to 22 (fun v wx=>v=.string (loV m j)/\ Hid (Below wr.heap.size wr wx));case first=>
    by_cases C:j=19
    ·have e1:((j:Int)==19)=true:=by simp;omega
     have Hr:=hid C;clear C;go_wp2_with fail;refine(Qch ⟨#[118]⟩ m u1 (by decide) Hu).mono ?_;rintro e u2 ⟨rfl,Hn⟩;have Hs:=hid (Qac J.out Hn);clear Hn;go_wp2_with fail;go_meet;exact⟨by unfold loV;rw [if_pos Hr.out],Hs⟩
    ·have e1:((j:Int)==19)=false:=by simp;omega
     go_wp2_with fail;go_meet;exact⟨by unfold loV;rw [if_neg C],J⟩
   case rest=>
   obtain⟨rfl,Hj⟩:=hcut;have N:=hid (r.below Hj.out);clear r Hj J;obtain⟨wr,Ho⟩:∃w',wc=w':=⟨_,rfl⟩;rw [Ho] at N ⊢;have r:=N;clear N Ho;obtain⟨I,He⟩:∃I,loV m j=I:=⟨_,rfl⟩;rw [He];obtain⟨o,Hd⟩:∃o,txJ [97+(j:Int)]=o:=⟨_,rfl⟩;have Hv:(convert 22 9 (.slice (some ⟨wr.heap.size,0,none⟩) 1 1)).run Tryz.prog (wr.alloc (.cells #[.int .u8 (y:Int)] 5))=.ok (.string o) (wr.alloc (.cells #[.int .u8 (y:Int)] 5)):=by
    have hO:Own (wr.alloc (.cells #[.int .u8 (y:Int)] 5)) wr.heap.size (.slice (some ⟨wr.heap.size,0,none⟩) 1 1) [97+(j:Int)]:=by
     rw [Hg];exact World.ownsRow_lit (base:=wr.heap.size) (e:=5) (size:=1) wr #[.int .u8 (y:Int)] 1 zL (by unfold maxLen;omega) rfl
    have:=QjG ⟨hO,fun z hz=>by rw [Hg] at hz;simp at hz;omega⟩ 0;rw [World.drewN_zero,Hd] at this;exact this
   have E:Below wr.heap.size wr ((wr.alloc (.cells #[.int .u8 (y:Int)] 5)).alloc (.cells #[.string o] 9)):=Qak _ _ _;have O:((wr.alloc (.cells #[.int .u8 (y:Int)] 5)).alloc (.cells #[.string o] 9)).heap.size=wr.heap.size+1+1:=by simp
   have Hc:=r.sz;have W:=(r.lc.lt g rfl);have hR:((wr.alloc (.cells #[.int .u8 (y:Int)] 5)).alloc (.cells #[.string o] 9)).ownsRow (wr.heap.size+1) 9 1 (.slice (some ⟨wr.heap.size+1,0,none⟩) 1 1) 1 ((List.range (1*1)).map fun t=> .string (gS [o] t)):=by
    have:=World.ownsRow_lit (base:=wr.heap.size+1) (e:=9) (size:=1) (wr.alloc (.cells #[.int .u8 (y:Int)] 5)) #[.string o] 1 (by simp) (by unfold maxLen;omega) rfl;simpa [gS] using this
   obtain⟨B,c',w7,S,M,A⟩:=LC.app r.lc E (by omega) (by rw [Qbs];omega) ⟨[o],false,0,((j+1:Nat):Int),I⟩ (wr.heap.size+1) 1 (by omega) (by rw [O];omega) (fun e=>by simp [Value.ownBlock] at e;omega) (by simpa using Qed hR) (by simp);rw [O,Qbs] at S;rw [Qbs] at M A;have T:B≠w.heap.size+1+1:=by
    have h1:=r.gb;rcases A.l with e|⟨q,e,s⟩
    ·simp [Value.ownBlock] at e;omega
    ·simp [Value.ownBlock] at e;rw [O] at s;omega
   have D:∀i,i<j+1 ->(if i=j then wr.heap.size+1 else P i)≠w.heap.size+1+1:=fun i u=>by
    by_cases e:i=j
    ·rw [if_pos e];omega
    ·rw [if_neg e];exact r.pb i (by omega)
   have Hh:∀b,g≠b ->∀k,(Value.slice (some ⟨g,0,none⟩) j c).ownBlock=some k ->k≠b:=fun b hb k e e2=>hb (by simp [Value.ownBlock] at e;omega);have H:=(r.bx.below E r.bx.lt).gr A.g (Hh _ r.gb);have G:=(r.rs.below E r.rs.lt).gr A.g (Hh _ (by omega));have Ha:Below w.heap.size w w7:=(r.low.trans (E.mono (by omega))).trans (A.below (by rw [O];omega) (fun k e=>by simp [Value.ownBlock] at e;omega));have z7:=A.g.size;rw [O] at z7;have HN:Hid (LoS w (w7.setCell ⟨w.heap.size+1+1,0,none⟩ (.slice (some ⟨B,0,none⟩) (j+1) c')) m (j+1) B c' (fun i=>if i=j then wr.heap.size+1 else P i) (fun i=>if i=j then 1 else Q i)):=hid (by
    refine⟨H.set0 _,?_,T,D,G.setAt _ _ (by show w.heap.size+1+1≠w.heap.size;omega),Ha.setCell (p:=⟨w.heap.size+1+1,0,none⟩) (by simp;omega) _,by simp [World.setCell];omega⟩;have l8:loL m (j+1)=loL m j++[⟨[o],false,0,((j+1:Nat):Int),I⟩]:=by rw [Qk5];unfold loF;rw [Hd,He]
    rw [l8];exact M.setBo (fun e=>T (by simpa [Value.ownBlock] using e)) (fun i u=>D i (by simpa [Qbs] using u)))
   have x0:=r.bx.c0;have x1:=(r.bx.allocs (.cells #[.int .u8 (y:Int)] 5)).c0;have x2:=(r.bx.below E r.bx.lt).c0;have y0:=H.c0;have yf:=H.f;have wj:IntKind.i64.wrap ((j:Int)+1)=((j+1:Nat):Int):=by rw [show (j:Int)+1=((j+1:Nat):Int) by omega];exact Qan _ (by omega) (by omega)
   clear Hg Hd E O Hc W hR M A T D Hh H G Ha z7 Hf He r;go_wp2_with (at_builtin;refine Qaa rfl _ _ _ _ rfl S (by rfl) (by rfl) rfl ?_;clear S);go_roundw;case rel=>exact⟨j+1,_,_,_,_,Ht,by go_num,HN⟩
   case measure=>simp [intOf];omega
  ·obtain rfl:j=20:=by omega
   have i1:¬(20:Int)<20:=by omega
   have Hc:=r.sz;have W:=(r.lc.lt g rfl);obtain⟨h,Y⟩:∃h,wr.alloc (.cells #[.int .i64 0,.int .i64 1,.int .i64 20] 79)=h:=⟨_,rfl⟩;have U:Below wr.heap.size wr h:=by rw [<- Y];exact zO _ _
   have z5:h.heap.size=wr.heap.size+1:=by rw [<- Y];simp
   have q0:h.cell? ⟨wr.heap.size,0,none⟩=some (.int .i64 0):=by rw [<- Y];simp
   have q1:h.cell? ⟨wr.heap.size,1,none⟩=some (.int .i64 1):=by rw [<- Y];simp
   have q2:h.cell? ⟨wr.heap.size,2,none⟩=some (.int .i64 20):=by rw [<- Y];simp
   have V:=r.bx.below U r.bx.lt;have Hq:=r.rs.below U r.rs.lt;have Hp:=r.lc.below U;have X:=V.set1 (.slice (some ⟨wr.heap.size,0,none⟩) 1 1);have Z:=Hq.setAt ⟨w.heap.size+1+1,1,none⟩ (.slice (some ⟨wr.heap.size,0,none⟩) 1 1) (by show w.heap.size+1+1≠w.heap.size;omega);have G:=Z.set (.slice (some ⟨g,0,none⟩) 20 c) (.slice (some ⟨wr.heap.size,0,none⟩) 1 1);have Hb:∀i,i<(loL m 20).length ->w.heap.size+1<=P i:=fun i u=>(r.lc.pt i u).1;have M:LC (((h.setCell ⟨w.heap.size+1+1,1,none⟩ (.slice (some ⟨wr.heap.size,0,none⟩) 1 1)).setCell ⟨w.heap.size,0,none⟩ (.slice (some ⟨g,0,none⟩) 20 c)).setCell ⟨w.heap.size,1,none⟩ (.slice (some ⟨wr.heap.size,0,none⟩) 1 1)) (w.heap.size+1) (.slice (some ⟨g,0,none⟩) 20 c) (loL m 20) P Q:=
    ((Hp.setBo (fun e=>r.gb (by simpa [Value.ownBlock] using e)) (fun i u=>r.pb i (by simpa [Qbs] using u))).setBo (fun e=>by simp [Value.ownBlock] at e;omega) (fun i u=>by have:=Hb i u;omega)).setBo (fun e=>by simp [Value.ownBlock] at e;omega) (fun i u=>by have:=Hb i u;omega)
   have Hk:=hid M;have Hl:=hid G;have Hi:Hid (Below w.heap.size w (((h.setCell ⟨w.heap.size+1+1,1,none⟩ (.slice (some ⟨wr.heap.size,0,none⟩) 1 1)).setCell ⟨w.heap.size,0,none⟩ (.slice (some ⟨g,0,none⟩) 20 c)).setCell ⟨w.heap.size,1,none⟩ (.slice (some ⟨wr.heap.size,0,none⟩) 1 1))):=hid ((((Qac r.low U).setCell (p:=⟨w.heap.size+1+1,1,none⟩) (by simp;omega) _).setCell (p:=⟨w.heap.size,0,none⟩) zL _).setCell (p:=⟨w.heap.size,1,none⟩) zL _);have HQ:Hid ((∀i,i<3 ->(((h.setCell ⟨w.heap.size+1+1,1,none⟩ (.slice (some ⟨wr.heap.size,0,none⟩) 1 1)).setCell ⟨w.heap.size,0,none⟩ (.slice (some ⟨g,0,none⟩) 20 c)).setCell ⟨w.heap.size,1,none⟩ (.slice (some ⟨wr.heap.size,0,none⟩) 1 1)).cell? ⟨wr.heap.size,i,none⟩=h.cell? ⟨wr.heap.size,i,none⟩)/\ wr.heap.size<h.heap.size/\ w.heap.size<=wr.heap.size):=hid ⟨fun i u=>by
    rw [World.cell?_setCell_other _ _ _ _ (by simp<;>omega),World.cell?_setCell_other _ _ _ _ (by simp<;>omega),World.cell?_setCell_other _ _ _ _ (by simp<;>omega)],by omega,by omega⟩
   have x0:=V.c0;have x1:=V.c1;have xf:=V.f;have y0:=X.c0;have y1:=X.c1;have o0:=Z.c0;have o1:=Z.c1;have of:=Z.f;have L:=hid (And.intro q0 (And.intro q1 q2));clear U z5 q0 q1 q2 V Hq Hp X Z G M Hb r Hc W;go_wp2_with fail;have s0:=Hl.c0;have s1:=Hl.c1;refine zF (v:=.agg #[.slice (some ⟨g,0,none⟩) 20 c,.slice (some ⟨wr.heap.size,0,none⟩) 1 1]) (by simp [results,Tryz.results12,go_sem,s0,s1]) ?_;have G0:Ending.returned (.agg #[.slice (some ⟨g,0,none⟩) 20 c,.slice (some ⟨wr.heap.size,0,none⟩) 1 1])=.returned (.agg #[.slice (some ⟨g,0,none⟩) (loS m).l.length c,.slice (some ⟨wr.heap.size,0,none⟩) (loS m).n 1]):=by
    rw [show (loS m).l.length=20 from Qbs m 20];rfl
   have G1:SNc (((h.setCell ⟨w.heap.size+1+1,1,none⟩ (.slice (some ⟨wr.heap.size,0,none⟩) 1 1)).setCell ⟨w.heap.size,0,none⟩ (.slice (some ⟨g,0,none⟩) 20 c)).setCell ⟨w.heap.size,1,none⟩ (.slice (some ⟨wr.heap.size,0,none⟩) 1 1)) w.heap.size (some ⟨g,0,none⟩) c (some ⟨wr.heap.size,0,none⟩) (loS m):=⟨fun w' k1 k2=>by
    constructor
    ·have:=(Hk.move k1 (fun q h1 h2=>k2 q (by omega) h2));exact this.lcap (by rw [Qbs])
    ·have s:=HQ.out;have e:=k2 wr.heap.size s.2.2 (by simp [World.setCell];exact s.2.1);refine .inr ⟨wr.heap.size,0,rfl,Nat.lt_of_lt_of_le (by simp [World.setCell];exact s.2.1) k1,fun i u=> ?_⟩;obtain rfl:i=0:=by have:i<1:=u;omega
     exact⟨(World.cell?_of_block (a:=⟨wr.heap.size,0+0*3,none⟩) e).trans ((s.1 0 (by omega)).trans L.1),(World.cell?_of_block (a:=⟨wr.heap.size,0+0*3+1,none⟩) e).trans ((s.1 1 (by omega)).trans L.2.1),(World.cell?_of_block (a:=⟨wr.heap.size,0+0*3+2,none⟩) e).trans ((s.1 2 (by omega)).trans L.2.2)⟩,Hk.cp (Qbs _ _)⟩
   first
    | exact⟨_,c,_,1,G0,G1,Hi.out⟩
    | exact⟨_,c,_,⟨1,G0⟩,G1,Hi.out⟩
def Qdx (ts:List ByteArray):List Value:=ts.map Value.string
theorem Qgb (ts:List ByteArray):(Qdx ts).length=ts.length:=by simp [Qdx]
theorem Qh7 {w:World}{B:Nat}{v:Value}{ts:List ByteArray}(h:w.ownsRow B 9 1 v ts.length (Qdx ts)):∃a c,v=.slice a ts.length c/\ QaT w a ts/\ ts.length<=c/\ c<=9223372036854775807:=by
 rcases h.2 with ⟨rfl,j⟩|⟨g,cap,y,rfl,t,k,m,r,z,u⟩
 ·exact⟨none,0,by rw [j],.inl j,by omega,by omega⟩
 ·refine⟨_,cap,rfl,.inr ⟨g,0,rfl,(Array.getElem?_eq_some_iff.1 k).1,fun i hi=> ?_⟩,m,by unfold maxLen at r;omega⟩;have q:w.cell? ⟨g,i,none⟩=(Qdx ts)[i]? :=by
   rw [<- u,Nat.mul_one,List.getElem?_take_of_lt hi];simp [World.cell?,k]
  rw [Nat.zero_add,q];simp [Qdx,gS,List.getD,hi]
theorem Qjr {w w':World}{B e size n:Nat}{v:Value}{xs:List Value}(h:w.ownsRow B e size v n xs)(hk:∀g,v.ownBlock=some g ->w'.heap[g]? =w.heap[g]?):w'.ownsRow B e size v n xs:=by
 obtain⟨u,j⟩:=h;refine⟨u,?_⟩;rcases j with j|⟨g,cap,k,e,q,m,r⟩
 ·exact .inl j
 ·subst e;exact .inr ⟨g,cap,k,rfl,q,(hk g rfl).trans m,r⟩
theorem QkA {w w':World}{B e size n:Nat}{v:Value}{xs:List Value}(h:w.ownsRow B e size v n xs)(hb:Below w.heap.size w w'):w'.ownsRow B e size v n xs:=Qjr h fun g hg=>hb.block g (h.lt g hg).2
theorem Qow (base:Nat)(w:World)(v:Value)(xs ns:List ByteArray)(a:Addr)(c:Nat)(ho:w.ownsRow base 9 1 v xs.length (Qdx xs))(hn:∀i,i<ns.length ->w.cell? (a.add i)=some (.string (gS ns i)))(hm:xs.length+ns.length<=4194304)(hb:base<=w.heap.size):
  ∃v' w',(Builtin.append_ #[49,49] 49 #[v,.slice (some a) ns.length c]).run Tryz.prog w=.ok v' w'/\ w'.ownsRow base 9 1 v' (xs++ns).length (Qdx (xs++ns))/\ w.grownBy w' v.ownBlock/\ Below base w w'/\ (v≠.slice none 0 0 ->v'≠.slice none 0 0):=by
 obtain⟨b,h,g,t,o⟩:=info_parts QdP;obtain⟨v',w',r,y,m,z⟩:=run_append_own (P:=Tryz.prog) w base 49 49 9 b (.string ByteArray.empty) 1 16 Tryz.underlying49 h g t o rfl (by decide) v xs.length (Qdx xs) ho a ns.length c (Qdx ns) (by rw [Qgb];omega) (fun j u hu=>by
  have q:j<ns.length:=by
   by_cases e:j<ns.length
   ·exact e
   ·rw [List.getElem?_eq_none (by rw [Qgb];omega)] at hu;cases hu
  rw [hn j q,<- hu];simp [Qdx,gS,List.getD,q]) (fun u hu=>by
   obtain⟨s,_,rfl⟩:=List.mem_map.1 hu;rfl) (by unfold maxLen;omega) (by omega) hb
 refine⟨v',w',r,?_,m,?_,fun hv e=>hv (z.1 e).1⟩
 ·rw [List.length_append];simpa [Qdx] using y
 ·exact(Below.refl base w).grown m hb (fun k hk=>(ho.lt k hk).1)
theorem Qoq {P:Program}{o:Oper}{a:Act}{w w':World}{K:Act ->World ->Prop}{Q:Exit ->Act ->World ->Prop}(s x:Operand)(t:TypeId)(ho:o.op=.call {callee:=.builtin .append,args:=#[s,x],argTypes:=#[t,t]}){v u v':Value}{t':TypeId}(hr:(Builtin.append_ #[t,t] t' #[v,u]).run P w=.ok v' w')(hs:a.eval s=v)(hx:a.eval x=u)(ht:o.type=t')(h:K (a.put o.dst v') w'):Oper.wp P o a w K Q:=by
 subst ht;unfold Oper.wp execOp;simp only [ho,resolve,invoke,builtin,Sem.run_bind,Sem.run_pure,Result.andThen_ok,List.map_toArray,List.map_cons,List.map_nil,hs,hx,hr];exact h
theorem QbR {P:Program}{ops:Array Oper}{rest:List Oper}{o:Oper}{a:Act}{w w':World}{Q:Exit ->Act ->World ->Prop}(hgd:o.guard=none)(s x:Operand)(t:TypeId)(ho:o.op=.call {callee:=.builtin .append,args:=#[s,x],argTypes:=#[t,t]}){v u v':Value}{t':TypeId}(hr:(Builtin.append_ #[t,t] t' #[v,u]).run P w=.ok v' w')(hs:a.eval s=v)(hx:a.eval x=u)(ht:o.type=t')(h:wpList P ops Q rest (a.put o.dst v') w'):wpList P ops Q (o::rest) a w:=by
 refine wpList_plain hgd fun K hK=> ?_;exact Qoq s x t ho hr hs hx ht (hK _ _ h)
theorem Qnv (s:ByteArray)(a b:Nat){c:Nat}(h:b<=c):(s.extract a b).size<=c:=by
 rw [ByteArray.size_extract];exact Nat.le_trans (Nat.sub_le _ _) (Nat.le_trans (Nat.min_le_left _ _) h)
theorem Qon (f:Nat ->Int)(n x:Nat):∃v:ByteArray,v.size<=201/\∀(B rb:Nat) (w:World),B<=w.heap.size ->RdJ w B rb f n x ->
  Calls Tryz.prog 55 #[.pointer (some ⟨rb,0,none⟩)] w fun e w'=>e=.returned (.string v)/\ RdJ w' B rb f n (rx n x)/\ w.grownBy w' (some rb):=by
 obtain⟨k,q⟩:∃k,rk f n x=k:=⟨_,rfl⟩;by_cases p:k=255
 ·refine⟨txJ (rpt ⟨#[118]⟩ 201),by rw [Qd7,QgT];decide,fun B rb w hB h=> ?_⟩;have j:=hid (QaW B rb f n x w h);rw [q] at j;have z:((k:Int)==255)=true:=by simp;omega
  clear h q;go_enter Tryz.func55,Tryz.ntmps55;go_wp2_with fail;refine j.mono ?_;rintro e w1 ⟨rfl,r1,m⟩;have y:=hid (Qch ⟨#[118]⟩ 201 w1 (by decide) (by omega));go_wp2_with fail;refine y.mono ?_;rintro e o ⟨rfl,u⟩;go_wp2_with fail;go_ret;exact⟨rfl,r1.below (u.mono (by have:=m.size;omega)),Qby m u⟩
 ·by_cases s:250<=k
  ·refine⟨txJ (rpt ⟨#[118]⟩ 200),by rw [Qd7,QgT];decide,fun B rb w hB h=> ?_⟩;have j:=hid (QaW B rb f n x w h);rw [q] at j;have z:((k:Int)==255)=false:=by simp;omega
   have g:(250:Int)<=(k:Int):=by omega
   clear h q;go_enter Tryz.func55,Tryz.ntmps55;go_wp2_with fail;refine j.mono ?_;rintro e w1 ⟨rfl,r1,m⟩;have y:=hid (Qch ⟨#[118]⟩ 200 w1 (by decide) (by omega));go_wp2_with fail;refine y.mono ?_;rintro e o ⟨rfl,u⟩;go_wp2_with fail;go_ret;exact⟨rfl,r1.below (u.mono (by have:=m.size;omega)),Qby m u⟩
  ·obtain⟨r,t⟩:∃r:Nat,k%4=r:=⟨_,rfl⟩;refine⟨(⟨#[119,120,121,122]⟩:ByteArray).extract r 4,Qnv _ _ _ (by omega),fun B rb w hB h=> ?_⟩;have j:=hid (QaW B rb f n x w h);rw [q] at j;have z:((k:Int)==255)=false:=by simp;omega
   have g:¬(250:Int)<=(k:Int):=by omega
   have i:(k:Int)%4=(r:Int):=by omega
   have b:r<4:=by omega
   clear h q t;go_enter Tryz.func55,Tryz.ntmps55;go_wp2_with fail;refine j.mono ?_;rintro e w1 ⟨rfl,r1,m⟩;go_wp2_with fail;go_ret;exact⟨rfl,r1,m⟩
def PR (w:World)(B:Nat)(v:Value)(ps:List ByteArray):Prop:=w.ownsRow B 9 1 v ps.length (Qdx ps)
structure PtN (w:World)(lo:Nat)(pa:Option Addr)(pc:Nat)(p:List ByteArray):Prop where
 cap:p.length<=pc/\ pc<=9223372036854775807
 seg:∀w':World,w.heap.size<=w'.heap.size ->(∀q,lo<=q ->q<w.heap.size ->w'.heap[q]? =w.heap[q]?) ->QaT w' pa p
theorem PtN.move {w w1:World}{lo lo':Nat}{pa:Option Addr}{pc:Nat}{p:List ByteArray}(h:PtN w lo pa pc p)(hl:lo'<=lo)(hs:w.heap.size<=w1.heap.size)(hq:∀q,lo<=q ->q<w.heap.size ->w1.heap[q]? =w.heap[q]?):PtN w1 lo' pa pc p:=
 ⟨h.cap,fun w' h1 h2=>h.seg w' (Nat.le_trans hs h1) (fun q h3 h4=>(h2 q (Nat.le_trans hl h3) (Nat.lt_of_lt_of_le h4 hs)).trans (hq q h3 h4))⟩
theorem PtN.below {w w1:World}{lo:Nat}{pa:Option Addr}{pc:Nat}{p:List ByteArray}(h:PtN w lo pa pc p)(hb:Below w.heap.size w w1):PtN w1 lo pa pc p:=h.move zL hb.size (fun q _ h2=>hb.block q h2)
theorem PtN.at {w:World}{lo:Nat}{pa:Option Addr}{pc:Nat}{p:List ByteArray}(h:PtN w lo pa pc p):QaT w pa p:=h.seg w zL (fun _ _ _=>rfl)
theorem PR.ptn {w:World}{B:Nat}{v:Value}{ps:List ByteArray}(h:PR w B v ps){lo:Nat}(hl:lo<=B):∃j pc,v=.slice j ps.length pc/\ PtN w lo j pc ps:=by
 obtain⟨j,pc,e,s,c⟩:=Qh7 h;refine⟨j,pc,e,c,fun w' h1 h2=> ?_⟩;obtain⟨q,r,k,m,_⟩:=Qh7 (Qjr h (fun g hg=>h2 g (Nat.le_trans hl (h.lt g hg).1) (h.lt g hg).2));rw [e] at k;injection k with e1 e2 e3;rw [e1];exact m
theorem Qfy (B:Nat)(w:World)(v:Value)(ps:List ByteArray)(s:ByteArray)(h:PR w B v ps)(hB:B<=w.heap.size)(hl:ps.length<=100):
  ∃v' w',(Builtin.append_ #[49,49] 49 #[v,.slice (some ⟨w.heap.size,0,none⟩) 1 1]).run Tryz.prog (w.alloc (.cells #[.string s] 9))=.ok v' w'/\ PR w' B v' (ps++[s])/\ Below B w w':=by
 have j:Below w.heap.size w (w.alloc (.cells #[.string s] 9)):=zO _ _;obtain⟨v',w',k,m,r,q,u⟩:=Qow B (w.alloc (.cells #[.string s] 9)) v ps [s] ⟨w.heap.size,0,none⟩ 1 (QkA h j) (fun i hi=>by
  obtain rfl:i=0:=by simp at hi;omega
  simp [Addr.add,gS]) (by simp;omega) (by simp;omega)
 exact⟨v',w',k,m,(j.mono hB).trans q⟩
theorem PR.lit1 (w:World)(s:ByteArray):PR (w.alloc (.cells #[.string s] 9)) w.heap.size (.slice (some ⟨w.heap.size,0,none⟩) 1 1) [s]:=
 World.ownsRow_lit (base:=w.heap.size) (e:=9) (size:=1) w #[.string s] 1 zL (by unfold maxLen;omega) rfl
theorem PR.lit0 (w:World):PR (w.alloc (.cells #[] 9)) w.heap.size (.slice (some ⟨w.heap.size,0,none⟩) 0 0) []:=
 World.ownsRow_lit (base:=w.heap.size) (e:=9) (size:=1) w #[] 0 zL (by unfold maxLen;omega) rfl
def PaP (f:Nat ->Int)(n x:Nat)(p:List ByteArray):Prop:=p.length<=9/\∀(B rb:Nat) (w:World),B<=w.heap.size ->RdJ w B rb f n x ->
  Calls Tryz.prog 53 #[.pointer (some ⟨rb,0,none⟩)] w fun e w'=>∃pa pc,e=.returned (.slice pa p.length pc)/\ PtN w' w.heap.size pa pc p/\ RdJ w' B rb f n (rx n x)/\ w.grownBy w' (some rb)
theorem PaP.fin {f:Nat ->Int}{n x:Nat}{p:List ByteArray}{B rb:Nat}{w w1 w2:World}{v:Value}(hB:B<=w.heap.size)(r1:RdJ w1 B rb f n (rx n x))(g1:w.grownBy w1 (some rb))(h:PR w2 w1.heap.size v p)(b2:Below w1.heap.size w1 w2):∃j pc,Ending.returned v=.returned (.slice j p.length pc)/\ PtN w2 w.heap.size j pc p/\ RdJ w2 B rb f n (rx n x)/\ w.grownBy w2 (some rb):=by
 obtain⟨j,pc,e,k⟩:=h.ptn g1.size;exact⟨j,pc,by rw [e],k,r1.below (b2.mono (by have:=g1.size;omega)),Qby g1 b2⟩
theorem QoM (f:Nat ->Int)(n x k:Nat)(hk:rk f n x=k)(h1:252<=k):∃p,PaP f n x p:=by
 obtain⟨r,b⟩:∃r:Nat,k%2=r:=⟨_,rfl⟩;obtain⟨m,i⟩:∃m:Nat,40+r=m:=⟨_,rfl⟩;obtain⟨t,y⟩:∃t,txJ (rpt ⟨#[110]⟩ m)=t:=⟨_,rfl⟩;refine⟨[t],by simp,fun B rb w hB h=> ?_⟩;have u:=hid (QaW B rb f n x w h);rw [hk] at u;have A:(252:Int)<=(k:Int):=by omega
 have E:(k:Int)%2=(r:Int):=by omega
 have M:IntKind.i64.wrap (40+(r:Int))=(m:Int):=by rw [show (40:Int)+(r:Int)=(m:Int) by omega];exact Qan _ (by omega) (by omega)
 have g:Hid (m<=1000):=hid (by omega);have o:=hid y;clear h hk b i y;go_enter Tryz.func53,Tryz.ntmps53;go_wp2_with fail;refine u.mono ?_;rintro e w1 ⟨rfl,r1,v⟩;have q:=hid (Qch ⟨#[110]⟩ m w1 (by decide) g.out);rw [o.out] at q;go_wp2_with fail;refine q.mono ?_;rintro e s ⟨rfl,j⟩;have z:=hid (PaP.fin hB r1 v (QcI (PR.lit1 s t) j.size) (Qac j (zO _ _)));clear r1 v j;go_wp2_with fail;go_ret;exact z.out
theorem QoN (f:Nat ->Int)(n x k:Nat)(hk:rk f n x=k)(h1:¬252<=k)(h2:248<=k):∃p,PaP f n x p:=by
 obtain⟨r,Y⟩:∃r:Nat,k%2=r:=⟨_,rfl⟩;obtain⟨m,V⟩:∃m:Nat,8+r=m:=⟨_,rfl⟩;refine⟨List.replicate m ⟨#[100]⟩,by simp;omega,fun B rb w hB h=> ?_⟩;have g:=hid (QaW B rb f n x w h);rw [hk] at g;have Z:¬(252:Int)<=(k:Int):=by omega
 have G:(248:Int)<=(k:Int):=by omega
 have H:(k:Int)%2=(r:Int):=by omega
 have I:IntKind.i64.wrap (8+(r:Int))=(m:Int):=by rw [show (8:Int)+(r:Int)=(m:Int) by omega];exact Qan _ (by omega) (by omega)
 have K:m<=9:=by omega
 clear h hk Y V;go_enter Tryz.func53,Tryz.ntmps53;go_wp2_with fail;refine g.mono ?_;rintro e w1 ⟨rfl,r1,t⟩;have Q:=hid r1;have M:=hid t;have z:=hid (PR.lit0 w1);have y:=hid (zO w1 (.cells #[] 9));clear r1 t;go_wp2_with fail;go_loopw [4,5] (fun v i wr=>∃j:Nat,j<=m/\ i=.int .i64 (j:Int)/\ Hid (PR wr w1.heap.size v (List.replicate j ⟨#[100]⟩))/\ Hid (Below w1.heap.size w1 wr)) (fun _ i _=>m - (intOf i).toNat);case atStart=>exact⟨0,Nat.zero_le _,rfl,z,y⟩
 case round=>
  clear z y;obtain⟨j,J,rfl,u,q⟩:=hrel;by_cases U:j<m
  ·obtain⟨v',w',o,s,b⟩:=Qfy w1.heap.size wr u4 _ ⟨#[100]⟩ u.out q.size (by simp;omega);have O:Hid (PR w' w1.heap.size v' (List.replicate (j+1) ⟨#[100]⟩)):=hid (by rw [List.replicate_succ'];exact s);have A:=hid (q.trans b);clear s b u q;go_wp2_with (at_builtin;refine QbR rfl _ _ _ rfl o (by rfl) (by rfl) rfl ?_;clear o);go_roundw;case rel=>exact⟨j+1,U,by go_num,O,A⟩
   case measure=>simp [intOf];omega
  ·obtain rfl:j=m:=by omega
   have E:=hid (PaP.fin hB Q.out M.out u.out q.out);clear u q;go_wp2_with fail;go_ret;exact E.out
theorem QoO (f:Nat ->Int)(n x k:Nat)(hk:rk f n x=k)(h1:¬248<=k)(h2:244<=k):∃p,PaP f n x p:=by
 obtain⟨r,t⟩:∃r:Nat,k%4=r:=⟨_,rfl⟩;have m:(([⟨#[97]⟩,⟨#[]⟩,⟨#[98]⟩]:List ByteArray).take r).length=r:=by rw [List.length_take];show min r 3=r;omega
 refine⟨([⟨#[97]⟩,⟨#[]⟩,⟨#[98]⟩]:List ByteArray).take r,by omega,fun B rb w hB h=> ?_⟩;rw [m];have u:=hid (QaW B rb f n x w h);rw [hk] at u;have o:¬(252:Int)<=(k:Int):=by omega
 have b:¬(248:Int)<=(k:Int):=by omega
 have s:(244:Int)<=(k:Int):=by omega
 have A:(k:Int)%4=(r:Int):=by omega
 have E:r<4:=by omega
 have q:=hid m;clear h hk t m;go_enter Tryz.func53,Tryz.ntmps53;go_wp2_with fail;refine u.mono ?_;rintro e w1 ⟨rfl,r1,y⟩;have z:=hid r1;have j:=hid y;clear r1 y;go_wp2_with fail;go_ret;have v:Below w1.heap.size w1 (w1.alloc (.cells #[.string ⟨#[97]⟩,.string ⟨#[]⟩,.string ⟨#[98]⟩] 9)):=zO _ _;refine⟨_,3,rfl,⟨by rw [q.out];omega,fun w' z1 z2=> ?_⟩,z.below (v.mono (by have:=j.size;omega)),Qby j.out v⟩;have e:=z2 w1.heap.size j.size (by simp);refine .inr ⟨w1.heap.size,0,rfl,by simp at z1;omega,fun i hi=> ?_⟩;rw [World.cell?_of_block (a:=⟨w1.heap.size,0+i,none⟩) e,Nat.zero_add];rw [q.out] at hi;have g:i<3:=by omega
 match i,hi,g with
 | 0,hi,_=>simp [gS,List.getD,hi]
 | 1,hi,_=>simp [gS,List.getD,hi]
 | 2,hi,_=>simp [gS,List.getD,hi]
theorem QoP (f:Nat ->Int)(n x k:Nat)(hk:rk f n x=k)(h1:¬244<=k):∃p,PaP f n x p:=by
 obtain⟨r1,G⟩:∃r:Nat,k%3=r:=⟨_,rfl⟩;obtain⟨t,V⟩:∃r:Nat,r1+1=r:=⟨_,rfl⟩;obtain⟨q,Z⟩:∃r:Nat,k/3%3=r:=⟨_,rfl⟩;obtain⟨r2,H⟩:∃r:Nat,k/9%2=r:=⟨_,rfl⟩;obtain⟨o,Y⟩:∃r:Nat,r2+1=r:=⟨_,rfl⟩;obtain⟨A,I⟩:∃r:Nat,k/18%3=r:=⟨_,rfl⟩;have N:¬(252:Int)<=(k:Int):=by omega
 have X:¬(248:Int)<=(k:Int):=by omega
 have C:¬(244:Int)<=(k:Int):=by omega
 have D:(k:Int)%3=(r1:Int):=by omega
 have F:(k:Int)/3%3=(q:Int):=by omega
 have P:(k:Int)/9%2=(r2:Int):=by omega
 have R:(k:Int)/18%3=(A:Int):=by omega
 have S:IntKind.i64.wrap ((r1:Int)+1)=(t:Int):=by rw [show (r1:Int)+1=(t:Int) by omega];exact Qan _ (by omega) (by omega)
 have T:IntKind.i64.wrap ((r2:Int)+1)=(o:Int):=by rw [show (r2:Int)+1=(o:Int) by omega];exact Qan _ (by omega) (by omega)
 have l1:r1<3:=by omega
 have l2:r2<2:=by omega
 have l3:A<3:=by omega
 have l4:q<3:=by omega
 have J:t<=3/\ r1<=t:=by omega
 have K:o<=2/\ r2<=o:=by omega
 obtain⟨j,W⟩:∃s,(⟨#[97,98,99]⟩:ByteArray).extract r1 t=s:=⟨_,rfl⟩;obtain⟨i,Ha⟩:∃s,(⟨#[97,98]⟩:ByteArray).extract r2 o=s:=⟨_,rfl⟩;obtain⟨Q,Hb⟩:∃s,(⟨#[97,255,47]⟩:ByteArray).extract A 3=s:=⟨_,rfl⟩;clear G V Z H Y I;obtain⟨Hc,Hd⟩:=J;obtain⟨He,Hf⟩:=K;by_cases q0:q=0
 ·have L:¬(0:Int)<(q:Int):=by omega
  have U:¬(1:Int)<(q:Int):=by omega
  refine⟨[j],by simp,fun B rb w hB h=> ?_⟩;have m:=hid (QaW B rb f n x w h);rw [hk] at m;clear h hk;go_enter Tryz.func53,Tryz.ntmps53;go_wp2_with fail;refine m.mono ?_;rintro e w1 ⟨rfl,r1,u⟩;have y:=hid (PaP.fin hB r1 u (PR.lit1 w1 j) (zO _ _));clear r1 u;go_wp2_with fail;go_ret;exact y.out
 ·have L:(0:Int)<(q:Int):=by omega
  by_cases q1:q=1
  ·have U:¬(1:Int)<(q:Int):=by omega
   refine⟨[j]++[i],by simp,fun B rb w hB h=> ?_⟩;have m:=hid (QaW B rb f n x w h);rw [hk] at m;clear h hk;go_enter Tryz.func53,Tryz.ntmps53;go_wp2_with fail;refine m.mono ?_;rintro e w1 ⟨rfl,r1,u⟩;obtain⟨v',w',v,g,z⟩:=Qfy w1.heap.size (w1.alloc (.cells #[.string j] 9)) _ _ i (PR.lit1 w1 j) (by simp) (by simp);rw [show (w1.alloc (.cells #[.string j] 9)).heap.size=w1.heap.size+1 from by simp] at v;have y:=hid (PaP.fin hB r1 u g ((zO _ _).trans z));clear r1 u g z;go_wp2_with (at_builtin;refine QbR rfl _ _ _ rfl v (by rfl) (by rfl) rfl ?_;clear v);go_ret;exact y.out
  ·have U:(1:Int)<(q:Int):=by omega
   refine⟨[j]++[i]++[Q],by simp,fun B rb w hB h=> ?_⟩;have m:=hid (QaW B rb f n x w h);rw [hk] at m;clear h hk;go_enter Tryz.func53,Tryz.ntmps53;go_wp2_with fail;refine m.mono ?_;rintro e w1 ⟨rfl,r1,u⟩;obtain⟨v',w',v,g,z⟩:=Qfy w1.heap.size (w1.alloc (.cells #[.string j] 9)) _ _ i (PR.lit1 w1 j) (by simp) (by simp);rw [show (w1.alloc (.cells #[.string j] 9)).heap.size=w1.heap.size+1 from by simp] at v;have b:Below w1.heap.size w1 w':=(zO _ _).trans z;obtain⟨v2,w2,E,O,M⟩:=Qfy w1.heap.size w' _ _ Q g b.size (by simp);have y:=hid (PaP.fin hB r1 u O (b.trans M));clear r1 u g z b O M;go_wp2_with (at_builtin;first|(refine QbR rfl _ _ _ rfl v (by rfl) (by rfl) rfl ?_;clear v)|(refine QbR rfl _ _ _ rfl E (by rfl) (by rfl) rfl ?_;clear E));go_ret;exact y.out
theorem QoQ (f:Nat ->Int)(n x:Nat):∃p,PaP f n x p:=by
 by_cases j:252<=rk f n x
 ·exact QoM f n x _ rfl j
 ·by_cases k:248<=rk f n x
  ·exact QoN f n x _ rfl j k
  ·by_cases m:244<=rk f n x
   ·exact QoO f n x _ rfl k m
   ·exact QoP f n x _ rfl m
end Go.Proofs.YtjdcfkmhmnblbaaGreatDoor
