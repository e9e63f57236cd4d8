import Derived.Test.YtdeolligikjieaaGreatDoorFkg07
import Derived.Test.YtdeolligikjieaaGreatDoorFkg01
import Derived.Test.YtdeolligikjieaaGreatDoorFkg02
import Derived.Test.YtdeolligikjieaaGreatDoorFkg11
import Derived.Test.YtdeolligikjieaaGreatDoorFkg08
import Derived.Test.YtdeolligikjieaaGreatDoorFkg10
set_option linter.unusedVariables false
set_option linter.unusedSimpArgs false
set_option maxRecDepth 100000
set_option maxHeartbeats 40000000
namespace Go.Proofs.YtdeolligikjieaaGreatDoor
open Go.ChangeShapes Go.WideShapes Go.ChangeAt Go.RowKit
def Qdo (ts:List ByteArray):List Value:=ts.map Value.string
theorem QfP (ts:List ByteArray):(Qdo ts).length=ts.length:=by simp [Qdo]
theorem Qhs {w:World}{B:Nat}{v:Value}{ts:List ByteArray}(h:w.ownsRow B 9 1 v ts.length (Qdo ts)):∃a c,v=.slice a ts.length c/\ QaR w a ts/\ ts.length<=c/\ c<=9223372036854775807:=by
 rcases h.2 with ⟨rfl,j⟩|⟨g,cap,y,rfl,t,k,m,r,z,u⟩
 ·exact⟨none,0,by rw [j],.inl j,by omega,by omega⟩
 ·refine⟨_,cap,rfl,.inr ⟨g,0,rfl,(Array.getElem?_eq_some_iff.1 k).1,fun i hi=> ?_⟩,m,by unfold maxLen at r;omega⟩;have q:w.cell? ⟨g,i,none⟩=(Qdo ts)[i]? :=by
   rw [<- u,Nat.mul_one,List.getElem?_take_of_lt hi];simp [World.cell?,k]
  rw [Nat.zero_add,q];simp [Qdo,gS,List.getD,hi]
theorem Qjm {w w':World}{B e size n:Nat}{v:Value}{xs:List Value}(h:w.ownsRow B e size v n xs)(hk:∀g,v.ownBlock=some g ->w'.heap[g]? =w.heap[g]?):w'.ownsRow B e size v n xs:=by
 obtain⟨u,j⟩:=h;refine⟨u,?_⟩;rcases j with j|⟨g,cap,k,e,q,m,r⟩
 ·exact .inl j
 ·subst e;exact .inr ⟨g,cap,k,rfl,q,(hk g rfl).trans m,r⟩
theorem Qk1 {w w':World}{B e size n:Nat}{v:Value}{xs:List Value}(h:w.ownsRow B e size v n xs)(hb:Below w.heap.size w w'):w'.ownsRow B e size v n xs:=Qjm h fun g hg=>hb.block g (h.lt g hg).2
theorem Qop (base:Nat)(w:World)(v:Value)(xs ns:List ByteArray)(a:Addr)(c:Nat)(ho:w.ownsRow base 9 1 v xs.length (Qdo xs))(hn:∀i,i<ns.length ->w.cell? (a.add i)=some (.string (gS ns i)))(hm:xs.length+ns.length<=4194304)(hb:base<=w.heap.size):
  ∃v' w',(Builtin.append_ #[65,65] 65 #[v,.slice (some a) ns.length c]).run Tryz.prog w=.ok v' w'/\ w'.ownsRow base 9 1 v' (xs++ns).length (Qdo (xs++ns))/\ w.grownBy w' v.ownBlock/\ Below base w w'/\ (v≠.slice none 0 0 ->v'≠.slice none 0 0):=by
 obtain⟨b,h,g,t,o⟩:=info_parts QeW;obtain⟨v',w',r,y,m,z⟩:=run_append_own (P:=Tryz.prog) w base 65 65 9 b (.string ByteArray.empty) 1 16 Tryz.underlying65 h g t o rfl (by decide) v xs.length (Qdo xs) ho a ns.length c (Qdo ns) (by rw [QfP];omega) (fun j u hu=>by
  have q:j<ns.length:=by
   by_cases e:j<ns.length
   ·exact e
   ·rw [List.getElem?_eq_none (by rw [QfP];omega)] at hu;cases hu
  rw [hn j q,<- hu];simp [Qdo,gS,List.getD,q]) (fun u hu=>by
   obtain⟨s,_,rfl⟩:=List.mem_map.1 hu;rfl) (by unfold maxLen;omega) (by omega) hb
 refine⟨v',w',r,?_,m,?_,fun hv e=>hv (z.1 e).1⟩
 ·rw [List.length_append];simpa [Qdo] using y
 ·exact(Below.refl base w).grown m hb (fun k hk=>(ho.lt k hk).1)
theorem Qoj {P:Program}{o:Oper}{a:Act}{w w':World}{K:Act ->World ->Prop}{Q:Exit ->Act ->World ->Prop}(s x:Operand)(t:TypeId)(ho:o.op=.call {callee:=.builtin .append,args:=#[s,x],argTypes:=#[t,t]}){v u v':Value}{t':TypeId}(hr:(Builtin.append_ #[t,t] t' #[v,u]).run P w=.ok v' w')(hs:a.eval s=v)(hx:a.eval x=u)(ht:o.type=t')(h:K (a.put o.dst v') w'):Oper.wp P o a w K Q:=by
 subst ht;unfold Oper.wp execOp;simp only [ho,resolve,invoke,builtin,Sem.run_bind,Sem.run_pure,Result.andThen_ok,List.map_toArray,List.map_cons,List.map_nil,hs,hx,hr];exact h
theorem QbO {P:Program}{ops:Array Oper}{rest:List Oper}{o:Oper}{a:Act}{w w':World}{Q:Exit ->Act ->World ->Prop}(hgd:o.guard=none)(s x:Operand)(t:TypeId)(ho:o.op=.call {callee:=.builtin .append,args:=#[s,x],argTypes:=#[t,t]}){v u v':Value}{t':TypeId}(hr:(Builtin.append_ #[t,t] t' #[v,u]).run P w=.ok v' w')(hs:a.eval s=v)(hx:a.eval x=u)(ht:o.type=t')(h:wpList P ops Q rest (a.put o.dst v') w'):wpList P ops Q (o::rest) a w:=by
 refine wpList_plain hgd fun K hK=> ?_;exact Qoj s x t ho hr hs hx ht (hK _ _ h)
theorem Qnh (s:ByteArray)(a b:Nat){c:Nat}(h:b<=c):(s.extract a b).size<=c:=by
 rw [ByteArray.size_extract];exact Nat.le_trans (Nat.sub_le _ _) (Nat.le_trans (Nat.min_le_left _ _) h)
theorem Qof (f:Nat ->Int)(n x:Nat):∃v:ByteArray,v.size<=201/\∀(B rb:Nat) (w:World),B<=w.heap.size ->RdJ w B rb f n x ->
  Calls Tryz.prog 82 #[.pointer (some ⟨rb,0,none⟩)] w fun e w'=>e=.returned (.string v)/\ RdJ w' B rb f n (rx n x)/\ w.grownBy w' (some rb):=by
 obtain⟨k,q⟩:∃k,rk f n x=k:=⟨_,rfl⟩;by_cases p:k=255
 ·refine⟨txJ (rpt ⟨#[118]⟩ 201),by rw [QhG,Qjy];decide,fun B rb w hB h=> ?_⟩;have j:=hid (QaN B rb f n x w h);rw [q] at j;have z:((k:Int)==255)=true:=by simp;omega
  clear h q;go_enter Tryz.func82,Tryz.ntmps82;go_wp2_with fail;refine j.mono ?_;rintro e w1 ⟨rfl,r1,m⟩;have y:=hid (QcE ⟨#[118]⟩ 201 w1 (by decide) (by omega));go_wp2_with fail;refine y.mono ?_;rintro e o ⟨rfl,u⟩;go_wp2_with fail;go_ret;exact⟨rfl,r1.below (u.mono (by have:=m.size;omega)),Qbx m u⟩
 ·by_cases s:250<=k
  ·refine⟨txJ (rpt ⟨#[118]⟩ 200),by rw [QhG,Qjy];decide,fun B rb w hB h=> ?_⟩;have j:=hid (QaN B rb f n x w h);rw [q] at j;have z:((k:Int)==255)=false:=by simp;omega
   have g:(250:Int)<=(k:Int):=by omega
   clear h q;go_enter Tryz.func82,Tryz.ntmps82;go_wp2_with fail;refine j.mono ?_;rintro e w1 ⟨rfl,r1,m⟩;have y:=hid (QcE ⟨#[118]⟩ 200 w1 (by decide) (by omega));go_wp2_with fail;refine y.mono ?_;rintro e o ⟨rfl,u⟩;go_wp2_with fail;go_ret;exact⟨rfl,r1.below (u.mono (by have:=m.size;omega)),Qbx m u⟩
  ·obtain⟨r,t⟩:∃r:Nat,k%4=r:=⟨_,rfl⟩;refine⟨(⟨#[119,120,121,122]⟩:ByteArray).extract r 4,Qnh _ _ _ (by omega),fun B rb w hB h=> ?_⟩;have j:=hid (QaN B rb f n x w h);rw [q] at j;have z:((k:Int)==255)=false:=by simp;omega
   have g:¬(250:Int)<=(k:Int):=by omega
   have i:(k:Int)%4=(r:Int):=by omega
   have b:r<4:=by omega
   clear h q t;go_enter Tryz.func82,Tryz.ntmps82;go_wp2_with fail;refine j.mono ?_;rintro e w1 ⟨rfl,r1,m⟩;go_wp2_with fail;go_ret;exact⟨rfl,r1,m⟩
def PR (w:World)(B:Nat)(v:Value)(ps:List ByteArray):Prop:=w.ownsRow B 9 1 v ps.length (Qdo ps)
structure PtN (w:World)(lo:Nat)(pa:Option Addr)(pc:Nat)(p:List ByteArray):Prop where
 cap:p.length<=pc/\ pc<=9223372036854775807
 seg:∀w':World,w.heap.size<=w'.heap.size ->(∀q,lo<=q ->q<w.heap.size ->w'.heap[q]? =w.heap[q]?) ->QaR w' pa p
theorem PtN.move {w w1:World}{lo lo':Nat}{pa:Option Addr}{pc:Nat}{p:List ByteArray}(h:PtN w lo pa pc p)(hl:lo'<=lo)(hs:w.heap.size<=w1.heap.size)(hq:∀q,lo<=q ->q<w.heap.size ->w1.heap[q]? =w.heap[q]?):PtN w1 lo' pa pc p:=
 ⟨h.cap,fun w' h1 h2=>h.seg w' (Nat.le_trans hs h1) (fun q h3 h4=>(h2 q (Nat.le_trans hl h3) (Nat.lt_of_lt_of_le h4 hs)).trans (hq q h3 h4))⟩
theorem PtN.below {w w1:World}{lo:Nat}{pa:Option Addr}{pc:Nat}{p:List ByteArray}(h:PtN w lo pa pc p)(hb:Below w.heap.size w w1):PtN w1 lo pa pc p:=h.move zL hb.size (fun q _ h2=>hb.block q h2)
theorem PtN.at {w:World}{lo:Nat}{pa:Option Addr}{pc:Nat}{p:List ByteArray}(h:PtN w lo pa pc p):QaR w pa p:=h.seg w zL (fun _ _ _=>rfl)
theorem PR.ptn {w:World}{B:Nat}{v:Value}{ps:List ByteArray}(h:PR w B v ps){lo:Nat}(hl:lo<=B):∃j pc,v=.slice j ps.length pc/\ PtN w lo j pc ps:=by
 obtain⟨j,pc,e,s,c⟩:=Qhs h;refine⟨j,pc,e,c,fun w' h1 h2=> ?_⟩;obtain⟨q,r,k,m,_⟩:=Qhs (Qjm h (fun g hg=>h2 g (Nat.le_trans hl (h.lt g hg).1) (h.lt g hg).2));rw [e] at k;injection k with e1 e2 e3;rw [e1];exact m
theorem Qfo (B:Nat)(w:World)(v:Value)(ps:List ByteArray)(s:ByteArray)(h:PR w B v ps)(hB:B<=w.heap.size)(hl:ps.length<=100):
  ∃v' w',(Builtin.append_ #[65,65] 65 #[v,.slice (some ⟨w.heap.size,0,none⟩) 1 1]).run Tryz.prog (w.alloc (.cells #[.string s] 9))=.ok v' w'/\ PR w' B v' (ps++[s])/\ Below B w w':=by
 have j:Below w.heap.size w (w.alloc (.cells #[.string s] 9)):=zO _ _;obtain⟨v',w',k,m,r,q,u⟩:=Qop B (w.alloc (.cells #[.string s] 9)) v ps [s] ⟨w.heap.size,0,none⟩ 1 (Qk1 h j) (fun i hi=>by
  obtain rfl:i=0:=by simp at hi;omega
  simp [Addr.add,gS]) (by simp;omega) (by simp;omega)
 exact⟨v',w',k,m,(j.mono hB).trans q⟩
theorem PR.lit1 (w:World)(s:ByteArray):PR (w.alloc (.cells #[.string s] 9)) w.heap.size (.slice (some ⟨w.heap.size,0,none⟩) 1 1) [s]:=
 World.ownsRow_lit (base:=w.heap.size) (e:=9) (size:=1) w #[.string s] 1 zL (by unfold maxLen;omega) rfl
theorem PR.lit0 (w:World):PR (w.alloc (.cells #[] 9)) w.heap.size (.slice (some ⟨w.heap.size,0,none⟩) 0 0) []:=
 World.ownsRow_lit (base:=w.heap.size) (e:=9) (size:=1) w #[] 0 zL (by unfold maxLen;omega) rfl
def PaP (f:Nat ->Int)(n x:Nat)(p:List ByteArray):Prop:=p.length<=9/\∀(B rb:Nat) (w:World),B<=w.heap.size ->RdJ w B rb f n x ->
  Calls Tryz.prog 80 #[.pointer (some ⟨rb,0,none⟩)] w fun e w'=>∃pa pc,e=.returned (.slice pa p.length pc)/\ PtN w' w.heap.size pa pc p/\ RdJ w' B rb f n (rx n x)/\ w.grownBy w' (some rb)
theorem PaP.fin {f:Nat ->Int}{n x:Nat}{p:List ByteArray}{B rb:Nat}{w w1 w2:World}{v:Value}(hB:B<=w.heap.size)(r1:RdJ w1 B rb f n (rx n x))(g1:w.grownBy w1 (some rb))(h:PR w2 w1.heap.size v p)(b2:Below w1.heap.size w1 w2):∃j pc,Ending.returned v=.returned (.slice j p.length pc)/\ PtN w2 w.heap.size j pc p/\ RdJ w2 B rb f n (rx n x)/\ w.grownBy w2 (some rb):=by
 obtain⟨j,pc,e,k⟩:=h.ptn g1.size;exact⟨j,pc,by rw [e],k,r1.below (b2.mono (by have:=g1.size;omega)),Qbx g1 b2⟩
theorem QoG (f:Nat ->Int)(n x k:Nat)(hk:rk f n x=k)(h1:252<=k):∃p,PaP f n x p:=by
 obtain⟨r,b⟩:∃r:Nat,k%2=r:=⟨_,rfl⟩;obtain⟨m,i⟩:∃m:Nat,40+r=m:=⟨_,rfl⟩;obtain⟨t,y⟩:∃t,txJ (rpt ⟨#[110]⟩ m)=t:=⟨_,rfl⟩;refine⟨[t],by simp,fun B rb w hB h=> ?_⟩;have u:=hid (QaN B rb f n x w h);rw [hk] at u;have A:(252:Int)<=(k:Int):=by omega
 have E:(k:Int)%2=(r:Int):=by omega
 have M:IntKind.i64.wrap (40+(r:Int))=(m:Int):=by rw [show (40:Int)+(r:Int)=(m:Int) by omega];exact Qau _ (by omega) (by omega)
 have g:Hid (m<=1000):=hid (by omega);have o:=hid y;clear h hk b i y;go_enter Tryz.func80,Tryz.ntmps80;go_wp2_with fail;refine u.mono ?_;rintro e w1 ⟨rfl,r1,v⟩;have q:=hid (QcE ⟨#[110]⟩ m w1 (by decide) g.out);rw [o.out] at q;go_wp2_with fail;refine q.mono ?_;rintro e s ⟨rfl,j⟩;have z:=hid (PaP.fin hB r1 v (QaV (PR.lit1 s t) j.size) (Qab j (zO _ _)));clear r1 v j;go_wp2_with fail;go_ret;exact z.out
theorem QoH (f:Nat ->Int)(n x k:Nat)(hk:rk f n x=k)(h1:¬252<=k)(h2:248<=k):∃p,PaP f n x p:=by
 obtain⟨r,Y⟩:∃r:Nat,k%2=r:=⟨_,rfl⟩;obtain⟨m,V⟩:∃m:Nat,8+r=m:=⟨_,rfl⟩;refine⟨List.replicate m ⟨#[100]⟩,by simp;omega,fun B rb w hB h=> ?_⟩;have g:=hid (QaN B rb f n x w h);rw [hk] at g;have Z:¬(252:Int)<=(k:Int):=by omega
 have G:(248:Int)<=(k:Int):=by omega
 have H:(k:Int)%2=(r:Int):=by omega
 have I:IntKind.i64.wrap (8+(r:Int))=(m:Int):=by rw [show (8:Int)+(r:Int)=(m:Int) by omega];exact Qau _ (by omega) (by omega)
 have K:m<=9:=by omega
 clear h hk Y V;go_enter Tryz.func80,Tryz.ntmps80;go_wp2_with fail;refine g.mono ?_;rintro e w1 ⟨rfl,r1,t⟩;have Q:=hid r1;have M:=hid t;have z:=hid (PR.lit0 w1);have y:=hid (zO w1 (.cells #[] 9));clear r1 t;go_wp2_with fail;go_loopw [4,5] (fun v i wr=>∃j:Nat,j<=m/\ i=.int .i64 (j:Int)/\ Hid (PR wr w1.heap.size v (List.replicate j ⟨#[100]⟩))/\ Hid (Below w1.heap.size w1 wr)) (fun _ i _=>m - (intOf i).toNat);case atStart=>exact⟨0,Nat.zero_le _,rfl,z,y⟩
 case round=>
  clear z y;obtain⟨j,J,rfl,u,q⟩:=hrel;by_cases U:j<m
  ·obtain⟨v',w',o,s,b⟩:=Qfo w1.heap.size wr u4 _ ⟨#[100]⟩ u.out q.size (by simp;omega);have O:Hid (PR w' w1.heap.size v' (List.replicate (j+1) ⟨#[100]⟩)):=hid (by rw [List.replicate_succ'];exact s);have A:=hid (q.trans b);clear s b u q;go_wp2_with (at_builtin;refine QbO rfl _ _ _ rfl o (by rfl) (by rfl) rfl ?_;clear o);go_roundw;case rel=>exact⟨j+1,U,by go_num,O,A⟩
   case measure=>simp [intOf];omega
  ·obtain rfl:j=m:=by omega
   have E:=hid (PaP.fin hB Q.out M.out u.out q.out);clear u q;go_wp2_with fail;go_ret;exact E.out
theorem QoI (f:Nat ->Int)(n x k:Nat)(hk:rk f n x=k)(h1:¬248<=k)(h2:244<=k):∃p,PaP f n x p:=by
 obtain⟨r,t⟩:∃r:Nat,k%4=r:=⟨_,rfl⟩;have m:(([⟨#[97]⟩,⟨#[]⟩,⟨#[98]⟩]:List ByteArray).take r).length=r:=by rw [List.length_take];show min r 3=r;omega
 refine⟨([⟨#[97]⟩,⟨#[]⟩,⟨#[98]⟩]:List ByteArray).take r,by omega,fun B rb w hB h=> ?_⟩;rw [m];have u:=hid (QaN B rb f n x w h);rw [hk] at u;have o:¬(252:Int)<=(k:Int):=by omega
 have b:¬(248:Int)<=(k:Int):=by omega
 have s:(244:Int)<=(k:Int):=by omega
 have A:(k:Int)%4=(r:Int):=by omega
 have E:r<4:=by omega
 have q:=hid m;clear h hk t m;go_enter Tryz.func80,Tryz.ntmps80;go_wp2_with fail;refine u.mono ?_;rintro e w1 ⟨rfl,r1,y⟩;have z:=hid r1;have j:=hid y;clear r1 y;go_wp2_with fail;go_ret;have v:Below w1.heap.size w1 (w1.alloc (.cells #[.string ⟨#[97]⟩,.string ⟨#[]⟩,.string ⟨#[98]⟩] 9)):=zO _ _;refine⟨_,3,rfl,⟨by rw [q.out];omega,fun w' z1 z2=> ?_⟩,z.below (v.mono (by have:=j.size;omega)),Qbx j.out v⟩;have e:=z2 w1.heap.size j.size (by simp);refine .inr ⟨w1.heap.size,0,rfl,by simp at z1;omega,fun i hi=> ?_⟩;rw [World.cell?_of_block (a:=⟨w1.heap.size,0+i,none⟩) e,Nat.zero_add];rw [q.out] at hi;have g:i<3:=by omega
 match i,hi,g with
 | 0,hi,_=>simp [gS,List.getD,hi]
 | 1,hi,_=>simp [gS,List.getD,hi]
 | 2,hi,_=>simp [gS,List.getD,hi]
theorem QoJ (f:Nat ->Int)(n x k:Nat)(hk:rk f n x=k)(h1:¬244<=k):∃p,PaP f n x p:=by
 obtain⟨r1,G⟩:∃r:Nat,k%3=r:=⟨_,rfl⟩;obtain⟨t,V⟩:∃r:Nat,r1+1=r:=⟨_,rfl⟩;obtain⟨q,Z⟩:∃r:Nat,k/3%3=r:=⟨_,rfl⟩;obtain⟨r2,H⟩:∃r:Nat,k/9%2=r:=⟨_,rfl⟩;obtain⟨o,Y⟩:∃r:Nat,r2+1=r:=⟨_,rfl⟩;obtain⟨A,I⟩:∃r:Nat,k/18%3=r:=⟨_,rfl⟩;have N:¬(252:Int)<=(k:Int):=by omega
 have X:¬(248:Int)<=(k:Int):=by omega
 have C:¬(244:Int)<=(k:Int):=by omega
 have D:(k:Int)%3=(r1:Int):=by omega
 have F:(k:Int)/3%3=(q:Int):=by omega
 have P:(k:Int)/9%2=(r2:Int):=by omega
 have R:(k:Int)/18%3=(A:Int):=by omega
 have S:IntKind.i64.wrap ((r1:Int)+1)=(t:Int):=by rw [show (r1:Int)+1=(t:Int) by omega];exact Qau _ (by omega) (by omega)
 have T:IntKind.i64.wrap ((r2:Int)+1)=(o:Int):=by rw [show (r2:Int)+1=(o:Int) by omega];exact Qau _ (by omega) (by omega)
 have l1:r1<3:=by omega
 have l2:r2<2:=by omega
 have l3:A<3:=by omega
 have l4:q<3:=by omega
 have J:t<=3/\ r1<=t:=by omega
 have K:o<=2/\ r2<=o:=by omega
 obtain⟨j,W⟩:∃s,(⟨#[97,98,99]⟩:ByteArray).extract r1 t=s:=⟨_,rfl⟩;obtain⟨i,Ha⟩:∃s,(⟨#[97,98]⟩:ByteArray).extract r2 o=s:=⟨_,rfl⟩;obtain⟨Q,Hb⟩:∃s,(⟨#[97,255,47]⟩:ByteArray).extract A 3=s:=⟨_,rfl⟩;clear G V Z H Y I;obtain⟨Hc,Hd⟩:=J;obtain⟨He,Hf⟩:=K;by_cases q0:q=0
 ·have L:¬(0:Int)<(q:Int):=by omega
  have U:¬(1:Int)<(q:Int):=by omega
  refine⟨[j],by simp,fun B rb w hB h=> ?_⟩;have m:=hid (QaN B rb f n x w h);rw [hk] at m;clear h hk;go_enter Tryz.func80,Tryz.ntmps80;go_wp2_with fail;refine m.mono ?_;rintro e w1 ⟨rfl,r1,u⟩;have y:=hid (PaP.fin hB r1 u (PR.lit1 w1 j) (zO _ _));clear r1 u;go_wp2_with fail;go_ret;exact y.out
 ·have L:(0:Int)<(q:Int):=by omega
  by_cases q1:q=1
  ·have U:¬(1:Int)<(q:Int):=by omega
   refine⟨[j]++[i],by simp,fun B rb w hB h=> ?_⟩;have m:=hid (QaN B rb f n x w h);rw [hk] at m;clear h hk;go_enter Tryz.func80,Tryz.ntmps80;go_wp2_with fail;refine m.mono ?_;rintro e w1 ⟨rfl,r1,u⟩;obtain⟨v',w',v,g,z⟩:=Qfo w1.heap.size (w1.alloc (.cells #[.string j] 9)) _ _ i (PR.lit1 w1 j) (by simp) (by simp);rw [show (w1.alloc (.cells #[.string j] 9)).heap.size=w1.heap.size+1 from by simp] at v;have y:=hid (PaP.fin hB r1 u g ((zO _ _).trans z));clear r1 u g z;go_wp2_with (at_builtin;refine QbO rfl _ _ _ rfl v (by rfl) (by rfl) rfl ?_;clear v);go_ret;exact y.out
  ·have U:(1:Int)<(q:Int):=by omega
   refine⟨[j]++[i]++[Q],by simp,fun B rb w hB h=> ?_⟩;have m:=hid (QaN B rb f n x w h);rw [hk] at m;clear h hk;go_enter Tryz.func80,Tryz.ntmps80;go_wp2_with fail;refine m.mono ?_;rintro e w1 ⟨rfl,r1,u⟩;obtain⟨v',w',v,g,z⟩:=Qfo w1.heap.size (w1.alloc (.cells #[.string j] 9)) _ _ i (PR.lit1 w1 j) (by simp) (by simp);rw [show (w1.alloc (.cells #[.string j] 9)).heap.size=w1.heap.size+1 from by simp] at v;have b:Below w1.heap.size w1 w':=(zO _ _).trans z;obtain⟨v2,w2,E,O,M⟩:=Qfo w1.heap.size w' _ _ Q g b.size (by simp);have y:=hid (PaP.fin hB r1 u O (b.trans M));clear r1 u g z b O M;go_wp2_with (at_builtin;first|(refine QbO rfl _ _ _ rfl v (by rfl) (by rfl) rfl ?_;clear v)|(refine QbO rfl _ _ _ rfl E (by rfl) (by rfl) rfl ?_;clear E));go_ret;exact y.out
theorem QoK (f:Nat ->Int)(n x:Nat):∃p,PaP f n x p:=by
 by_cases j:252<=rk f n x
 ·exact QoG f n x _ rfl j
 ·by_cases k:248<=rk f n x
  ·exact QoH f n x _ rfl j k
  ·by_cases m:244<=rk f n x
   ·exact QoI f n x _ rfl k m
   ·exact QoJ f n x _ rfl m
open Go.Deep
theorem Qpe {G T:Prop}(h:Hid T ->G)(k:T):G:=h k
theorem QdK (gn:Lf ->Prop)(P:List Lf)(a:Option Addr)(c:Nat)(xa:Option Addr)(d gg gc:Nat)(pa:Option Addr)(ppc:Nat)(S:Sx)(w:World)(hs:Qbe S.R S.F S.T S.n S.l)(hP:PtO S P)(h1:Qef w a S.l)(h3:Qb3 w xa S.n S.R S.F S.T)(hgg:gg<w.heap.size)(hgo:∀i,i<S.l.length ->w.cell? ⟨gg,i,none⟩=some (.bool (yes (gn (gL S.l i)))))(h2:Qef w pa P):
  Calls Tryz.prog 110 #[.agg #[.slice a S.l.length c,.slice xa S.n d],.slice (some ⟨gg,0,none⟩) S.l.length gc,.slice pa P.length ppc] w fun e w'=>∃a m x t a' m' x' t',e=.returned (.tuple #[.agg #[.slice a (chX S (dlS gn S.l P)).l.length m,.slice x (chX S (dlS gn S.l P)).n t],.agg #[.slice a' (chY S (dlS gn S.l P)).l.length m',.slice x' (chY S (dlS gn S.l P)).n t'],.int .i64 (chC S (dlS gn S.l P))])/\ SNc w' w.heap.size a m x (chX S (dlS gn S.l P))/\ SNc w' w.heap.size a' m' x' (chY S (dlS gn S.l P))/\ Below w.heap.size w w':=by
 obtain⟨s,Gv⟩:∃s,((w.alloc (.cells #[.slice a S.l.length c,.slice xa S.n d] 28)).alloc (.cells #[.slice none 0 0,.slice none 0 0] 28)).alloc (.cells #[.slice none 0 0,.slice none 0 0] 28)=s:=⟨_,rfl⟩;obtain⟨W,hW⟩:∃W,(((s.alloc (.cells #[] 69)).alloc (.cells #[] 113)).alloc (.cells #[.slice (some ⟨s.heap.size,0,none⟩) 0 0,.slice (some ⟨s.heap.size+1,0,none⟩) 0 0] 28)).alloc (.cells #[] 69)=W:=⟨_,rfl⟩;have zA:s.heap.size=w.heap.size+1+1+1:=by rw [<- Gv];simp
 have bA:Below w.heap.size w s:=by rw [<- Gv];exact(Qak _ _ _).alloc (by simp;omega) _
 have al:∀(v:World) (o:Obj),Below v.heap.size v (v.alloc o):=fun v o=>zO _ _;have Kn:Below s.heap.size s W:=by rw [<- hW];exact(Qab (Qab (Qab (al _ _) (al _ _)) (al _ _)) (al _ _))
 have b0:Below w.heap.size w W:=Qab bA Kn;have zW:W.heap.size=w.heap.size+7:=by rw [<- hW];simp;omega
 have A0:Bx2 W w.heap.size (.slice a S.l.length c) (.slice xa S.n d):=by
  have:Bx2 s w.heap.size (.slice a S.l.length c) (.slice xa S.n d):=by rw [<- Gv];exact((Bx2.made w _ _ _).allocs _).allocs _
  exact this.below Kn this.lt
 have J4:Bx2 W (w.heap.size+1) (.slice none 0 0) (.slice none 0 0):=by
  have:Bx2 s (w.heap.size+1) (.slice none 0 0) (.slice none 0 0):=by
   rw [<- Gv];have:=Bx2.made (w.alloc (.cells #[.slice a S.l.length c,.slice xa S.n d] 28)) (.slice none 0 0) (.slice none 0 0) 28;exact(by simpa using this:Bx2 _ (w.heap.size+1) _ _).allocs _
  exact this.below Kn this.lt
 have J5:Bx2 W (w.heap.size+1+1) (.slice none 0 0) (.slice none 0 0):=by
  have:Bx2 s (w.heap.size+1+1) (.slice none 0 0) (.slice none 0 0):=by
   rw [<- Gv];simpa using Bx2.made ((w.alloc (.cells #[.slice a S.l.length c,.slice xa S.n d] 28)).alloc (.cells #[.slice none 0 0,.slice none 0 0] 28)) (.slice none 0 0) (.slice none 0 0) 28
  exact this.below Kn this.lt
 have J2:LC W (w.heap.size+3) (.slice (some ⟨s.heap.size,0,none⟩) 0 0) [] (fun _=>0) (fun _=>0):=by
  refine⟨?_,fun i hi=>by simp at hi⟩;have q:=World.ownsRow_lit (base:=w.heap.size+3) (e:=69) (size:=5) s #[] 0 (by omega) (by unfold maxLen;omega) rfl;have q3:=((World.ownsRow.alloc q (.cells #[] 113)).alloc (.cells #[.slice (some ⟨s.heap.size,0,none⟩) 0 0,.slice (some ⟨s.heap.size+1,0,none⟩) 0 0] 28)).alloc (.cells #[] 69);rw [hW] at q3;exact q3
 have Ju:FR W (w.heap.size+3) (.slice (some ⟨s.heap.size+1,0,none⟩) 0 0) []:=by
  have q:=World.ownsRow_lit (base:=w.heap.size+3) (e:=113) (size:=3) (s.alloc (.cells #[] 69)) #[] 0 (by simp;omega) (by unfold maxLen;omega) rfl;have zz:(s.alloc (.cells #[] 69)).heap.size=s.heap.size+1:=by simp
  rw [zz] at q;have q3:=(World.ownsRow.alloc q (.cells #[.slice (some ⟨s.heap.size,0,none⟩) 0 0,.slice (some ⟨s.heap.size+1,0,none⟩) 0 0] 28)).alloc (.cells #[] 69);rw [hW] at q3;exact q3
 have D0:Bx2 W (s.heap.size+1+1) (.slice (some ⟨s.heap.size,0,none⟩) 0 0) (.slice (some ⟨s.heap.size+1,0,none⟩) 0 0):=by
  have q:=Bx2.made ((s.alloc (.cells #[] 69)).alloc (.cells #[] 113)) (.slice (some ⟨s.heap.size,0,none⟩) 0 0) (.slice (some ⟨s.heap.size+1,0,none⟩) 0 0) 28;have zz:((s.alloc (.cells #[] 69)).alloc (.cells #[] 113)).heap.size=s.heap.size+1+1:=by simp
  rw [zz] at q;have q3:=q.allocs (.cells #[] 69);rw [hW] at q3;exact q3
 have J3:LC W (w.heap.size+3) (.slice (some ⟨s.heap.size+1+1+1,0,none⟩) 0 0) [] (fun _=>0) (fun _=>0):=by
  refine⟨?_,fun i hi=>by simp at hi⟩;have q:=World.ownsRow_lit (base:=w.heap.size+3) (e:=69) (size:=5) (((s.alloc (.cells #[] 69)).alloc (.cells #[] 113)).alloc (.cells #[.slice (some ⟨s.heap.size,0,none⟩) 0 0,.slice (some ⟨s.heap.size+1,0,none⟩) 0 0] 28)) #[] 0 (by simp;omega) (by unfold maxLen;omega) rfl;have zz:(((s.alloc (.cells #[] 69)).alloc (.cells #[] 113)).alloc (.cells #[.slice (some ⟨s.heap.size,0,none⟩) 0 0,.slice (some ⟨s.heap.size+1,0,none⟩) 0 0] 28)).heap.size=s.heap.size+1+1+1:=by simp
  rw [zz,hW] at q;exact q
 have Kp:=Qam.1 hs.1;have HU:=hid (Qe5 xa S.n d S.R S.F S.T (some ⟨s.heap.size+1,0,none⟩) 0 0 (fun _=>0) (fun _=>0) (fun _=>0) W Kp.2 (by omega) (h3.below b0) (.inl rfl) Kp.1 (fun i hi=>absurd hi (by omega)));have J0:Hid (unL S.R S.F S.T S.n (fun _=>0) (fun _=>0) (fun _=>0) 0=cNR S P 0):=hid (by unfold unL cNR;simp [flat]);rw [J0.out] at HU;have Li:Hid (s.heap.size=w.heap.size+3):=hid (by omega);have H1:=hid h1;have H2:=hid h2;have K9:=hid hs;have Jm:=hid hP;have Lh:Hid (∀wr,Below w.heap.size w wr ->∀i,i<S.l.length ->wr.cell? ⟨gg,i,none⟩=some (.bool (yes (gn (gL S.l i))))):=hid (fun wr b i hi=>(b.cell (p:=⟨gg,i,none⟩) hgg).trans (hgo i hi));have Kg:Hid (S.l.length<=1000/\ S.n<=1000/\ P.length<=1):=hid ⟨hs.2.1,Kp.2,hP.one⟩;have Je:=hid A0;have Gs:=hid J4;have Gt:=hid J5;have Jh:=hid D0;have Ke:=hid J2;have Kd:=hid Ju;have Kh:=hid J3;have Jv:=hid b0;have J1:=hid zW;obtain⟨X,hX⟩:∃X,chX S (dlS gn S.l P)=X:=⟨_,rfl⟩;obtain⟨Y,hY⟩:∃Y,chY S (dlS gn S.l P)=Y:=⟨_,rfl⟩;obtain⟨CC,hC⟩:∃CC,chC S (dlS gn S.l P)=CC:=⟨_,rfl⟩;have Hi:=hid (And.intro hX (And.intro hY hC));rw [hX,hY,hC];have k1:=A0.c1;have k2:=D0.c1;have Hw:Hid (∀j k,QbT (cDR gn S.l P j k)/\ (cDR gn S.l P j k).length<=1001):=hid (fun j k=>⟨QmU hs hP j k,by have:=QlU (g:=gn) (l:=S.l) (P:=P) (j:=j) (k:=k);have:=hs.2.1;have:=hP.one;omega⟩);have Gl:Hid (∀k,QbT (cNR S P k)/\ (cNR S P k).length<=1001):=hid (fun k=>⟨QmY hs hP k,by have:=Qma (P:=P) (k:=k) (S:=S);have:=Kp.2;have:=hP.one;omega⟩);have Ho:Hid (∀j k,(cNL gn S.l P j k).length<=1001/\∀i,i<(cNL gn S.l P j k).length ->1<=(gL (cNL gn S.l P j k) i).p.length/\ (gL (cNL gn S.l P j k) i).p.length<=8):=hid (fun j k=>⟨by have:=QlW (g:=gn) (l:=S.l) (P:=P) (j:=j) (k:=k);have:=hs.2.1;have:=hP.one;omega,QlY hs hP j k⟩);have H6:Hid (∀k,(cDL P k).length<=1/\∀i,i<(cDL P k).length ->1<=(gL (cDL P k) i).p.length/\ (gL (cDL P k) i).p.length<=8):=hid (fun k=>⟨by have:=QlQ (P:=P) (k:=k);have:=hP.one;omega,QlS hP k⟩);clear A0 J4 J5 D0 J2 Ju J3 b0 bA Kn al zA zW h1 h2 h3 hs hP hgo hgg Kp hX hY hC J0;go_enter Tryz.func110,Tryz.ntmps110;go_wp2_with fail;try rw [Gv]
 try rw [hW]
 clear hW Gv;refine HU.mono ?_;rintro e w1 ⟨vr,rfl,f1,b1⟩;obtain⟨ra,rc,Lu,_⟩:=f1.fs;subst Lu;obtain⟨nu,La⟩:∃nu,(cNR S P 0).length=nu:=⟨_,rfl⟩;rw [La] at f1 ⊢;clear La;obtain⟨w2,Jb⟩:∃w2,w1.alloc (.cells #[.slice (some ⟨s.heap.size+1+1+1,0,none⟩) 0 0,.slice ra nu rc] 28)=w2:=⟨_,rfl⟩;have b2:Below w1.heap.size w1 w2:=by rw [<- Jb];exact zO _ _
 have Gc:=Qab b1 b2;have Hx:Hid (CS w w2 (s.heap.size+1+1) w1.heap.size (.slice a S.l.length c) (.slice xa S.n d) s.heap.size 0 [] (fun _=>0) (fun _=>0) (.slice (some ⟨s.heap.size+1,0,none⟩) 0 0) (cDR gn S.l P 0 0) (s.heap.size+1+1+1) 0 (cNL gn S.l P 0 0) (fun _=>0) (fun _=>0) (.slice ra nu rc) (cNR S P 0)):=hid (by
  have hz:=J1.out;have L3:=b1.size;have Lx:=Li.out;have e1:cDR gn S.l P 0 0=[]:=by unfold cDR goL;simp [unF]
  have e2:cNL gn S.l P 0 0=[]:=by unfold cNL stL;simp
  rw [e1,e2];refine⟨Qab Jv.out Gc,Je.below Gc Je.lt,Gs.below Gc Gs.lt,Gt.below Gc Gt.lt,Jh.below Gc Jh.lt,?_,Ke.below Gc,Kh.below Gc,Kd.below Gc,(f1.below b2).weak (by omega),by omega,by omega,by omega,⟨by omega,by omega,by omega⟩,⟨by omega,by omega⟩,fun b e=> ?_,fun b e=> ?_,fun i hi=>by simp at hi,fun i hi=>by simp at hi⟩
  ·rw [<- Jb];exact Bx2.made _ _ _ _
  ·have e:s.heap.size+1=b:=by simpa [Value.ownBlock] using e
   exact⟨by omega,by omega,by omega⟩
  ·have:=World.ownsRow.lt f1 b e;exact⟨by omega,by omega,by omega⟩)
 clear f1 b1 b2 Gc k1 k2 HU Je Gs Gt Jh Ke Kd Kh Jv J1;go_wp2_with fail;try rw [Jb]
 clear Jb;obtain⟨t2,J7⟩:∃t2,w1.heap.size=t2:=⟨_,rfl⟩;rw [J7] at Hx ⊢;clear J7;obtain⟨t1,Lb⟩:∃t1,s.heap.size+1+1=t1:=⟨_,rfl⟩;rw [Lb] at Hx ⊢;clear Lb;obtain⟨gD,J9⟩:∃gD,s.heap.size=gD:=⟨_,rfl⟩;rw [J9] at Hx;clear J9;go_loopw [11] (fun i wr=>∃(j gN D:Nat) (NP NQ:Nat ->Nat) (Gk:Value),j<=S.l.length/\ i=.int .i64 j/\ Hid (CS w wr t1 t2 (.slice a S.l.length c) (.slice xa S.n d) gD 0 [] (fun _=>0) (fun _=>0) Gk (cDR gn S.l P j 0) gN D (cNL gn S.l P j 0) NP NQ (.slice ra nu rc) (cNR S P 0))) (fun i _=>S.l.length - (intOf i).toNat);case atStart=>exact⟨0,_,_,_,_,_,Nat.zero_le _,rfl,Hx⟩
 case round=>
  clear Hx;obtain⟨j,gN,D,NP,NQ,Gk,hj,rfl,U⟩:=hrel;have Ly:S.l.length<=1000:=Kg.1;have a0:=U.a.c0;by_cases Ht:j<S.l.length
  ·have i1:(0:Int)<=(j:Int):=Int.natCast_nonneg _;have i2:(j:Int)<(S.l.length:Int):=by omega
   obtain⟨B,ao,rfl,G3,Ko⟩:=(H1.out).resolve_left (by omega);obtain⟨Lv,pc,⟨u,d0⟩,sg,M,c2,c3,c4⟩:=Ko j Ht;have Gg:=QdP K9.out j Ht;obtain⟨pb,po,rfl,G2,Ge⟩:=sg.resolve_left (by omega);have Gh:Hid (Rok (dtR (gL S.l j))):=hid (Qgs (Qcw K9.out) (Qez K9.out _ (Qa1.2 ⟨j,Ht,rfl⟩)));have K4:=hid (fun wr b=>Lh.out wr b j Ht);obtain⟨y,hy⟩:∃y,gL S.l j=y:=⟨_,rfl⟩;rw [hy] at u M c2 c3 c4 d0 Ge Gg Gh K4;have HY:=hid hy;obtain⟨z,H,Q,E,I⟩:=y;dsimp only at u M c2 c3 c4 d0 Ge Gg Gh K4;have H5:Hid (∀w',Below w.heap.size w w' ->(w'.cell? ⟨B,ao+j*5,none⟩=some (.slice (some ⟨pb,po,none⟩) z.length pc)/\ w'.cell? ⟨B,ao+j*5+1,none⟩=some (.bool H)/\ w'.cell? ⟨B,ao+j*5+2,none⟩=some (.int .i64 Q)/\ w'.cell? ⟨B,ao+j*5+3,none⟩=some (.int .i64 E)/\ w'.cell? ⟨B,ao+j*5+4,none⟩=some (.string I))):=hid (fun w' b=>⟨(b.cell (p:=⟨B,_,none⟩) G3).trans u,(b.cell (p:=⟨B,_,none⟩) G3).trans M,(b.cell (p:=⟨B,_,none⟩) G3).trans c2,(b.cell (p:=⟨B,_,none⟩) G3).trans c3,(b.cell (p:=⟨B,_,none⟩) G3).trans c4⟩);have Kl:Hid (∀w',Below w.heap.size w w' ->pb<w'.heap.size/\∀t,t<z.length ->w'.cell? ⟨pb,po+t,none⟩=some (.string (gS z t))):=hid (fun w' b=>⟨Nat.lt_of_lt_of_le G2 b.size,fun t ht=>(b.cell (p:=⟨pb,po+t,none⟩) G2).trans (Ge t ht)⟩);have Gu:=hid Gg;obtain⟨w5,Gf⟩:∃w5,wr.alloc (.cells #[.int .i64 Q,.int .i64 E] 67)=w5:=⟨_,rfl⟩;have b5:Below wr.heap.size wr w5:=by rw [<- Gf];exact zO _ _
   have X5:Bx2 w5 wr.heap.size (.int .i64 Q) (.int .i64 E):=by rw [<- Gf];exact Bx2.made _ _ _ _
   have Z:=hid (U.below b5);have m2:=(H5 wr U.low).2.2.1;have m3:=(H5 wr U.low).2.2.2.1;have m5:=K4 w5 Z.low;have x0:=X5.c0;have x1:=X5.c1;clear hy Ko sg Ge G2 G3 b5 X5 d0 Gg U K4 u M c2 c3 c4;cases hgj:yes (gn ⟨z,H,Q,E,I⟩) with
   | true=>
    rw [hgj] at m5;have Gx:gn (gL S.l j):=by rw [HY.out];exact QbP.1 hgj
    have H7:Hid (ins (cDR gn S.l P j 0) (Q,E,E)=cDR gn S.l P (j+1) 0):=hid (by rw [QmT Ht Gx,HY.out];rfl);have H8:Hid (cNL gn S.l P j 0=cNL gn S.l P (j+1) 0):=hid (QmW Ht Gx).symm;obtain⟨fx,fc,Kw,J8,_,_⟩:=Z.fd.fs;subst Kw;have Jj:=hid (Qfl fx fc (cDR gn S.l P j 0) Q E E w5 (by have:=(Hw j 0).2;omega) J8 (Hw j 0).1 Gh.out);have d1:=Z.d.c1;obtain⟨ln,H0⟩:∃ln,(cDR gn S.l P j 0).length=ln:=⟨_,rfl⟩;rw [H0] at Jj d1;clear J8 Gx hgj;go_wp2_with fail;refine Jj.mono ?_;rintro e w6 ⟨v6,rfl,Gw,b6⟩;obtain⟨vy,vm,vc,rfl⟩:=QbJ Gw;have D6:=Z.d.below b6 Z.d.lt;have o1:=D6.c1;have of:=D6.f;rw [H0] at o1;have Hz:=hid (Z.setD1 b6 Gw);rw [H7.out,H8.out] at Hz;clear Gw b6 D6 Jj x0 x1 m2 m3 m5 d1 a0 Gf H0 Z;go_wp2_with fail;go_roundw;case rel=>exact⟨j+1,gN,D,NP,NQ,_,Ht,by go_num,Hz⟩
    case measure=>simp [intOf];omega
   | false=>
    rw [hgj] at m5;have Gx:¬gn (gL S.l j):=by rw [HY.out];intro h;rw [Qal h] at hgj;cases hgj
    have H7:Hid (cDR gn S.l P j 0=cDR gn S.l P (j+1) 0):=hid (QmV Ht Gx).symm;have H8:Hid (cNL gn S.l P j 0++[⟨z,H,Q,E,I⟩]=cNL gn S.l P (j+1) 0):=hid (by rw [QmX Ht Gx,HY.out]);have Hk:Hid (∀w',Below w.heap.size w w' ->w'.cell? ⟨w.heap.size,0,none⟩=some (.slice (some ⟨B,ao,none⟩) S.l.length c) ->(Below w.heap.size w w'/\ w'.cell? ⟨w.heap.size,0,none⟩=some (.slice (some ⟨B,ao,none⟩) S.l.length c)/\ w'.cell? ⟨B,ao+j*5,none⟩=some (.slice (some ⟨pb,po,none⟩) z.length pc)/\ w'.cell? ⟨B,ao+j*5+1,none⟩=some (.bool H)/\ w'.cell? ⟨B,ao+j*5+2,none⟩=some (.int .i64 Q)/\ w'.cell? ⟨B,ao+j*5+3,none⟩=some (.int .i64 E)/\ w'.cell? ⟨B,ao+j*5+4,none⟩=some (.string I))):=hid (fun w' hB h0=>⟨hB,h0,H5.out w' hB⟩);have Kf:Hid (∀w',Below w5.heap.size w5 w' ->Calls Tryz.prog 52 #[.agg #[.slice (some ⟨pb,po,none⟩) z.length pc,.bool H,.int .i64 Q,.int .i64 E,.string I]] w' fun e w''=>∃q cap,e=.returned (.agg #[.slice (some ⟨q,0,none⟩) z.length cap,.bool H,.int .i64 Q,.int .i64 E,.string I])/\ Below w'.heap.size w' w''/\ w'.heap.size<=q/\ q<w''.heap.size/\ Wr w'' q 9 z.length (fun t=> .string (gS z t))/\ z.length<=cap/\ cap<=9223372036854775807):=hid (fun w' b=>by
     have hq:=Kl w' (Qab Z.low b);exact QcT pb po z.length pc ⟨z,H,Q,E,I⟩ w' rfl (by have:=Gu.2;omega) hq.1 hq.2)
    have Km:Hid (∀A p pc',Below w5.heap.size w5 A ->w5.heap.size<=p ->p<A.heap.size ->Wr A p 9 z.length (fun t=> .string (gS z t)) ->z.length<=pc'/\ pc'<=9223372036854775807 ->_):=hid (fun A p pc' b7 p1 p2 hw hcap=>Z.appN (y:=⟨z,H,Q,E,I⟩) (p:=p) (pc:=pc') b7 (by have:=(Ho j 0).1;omega) Gu.1 (fun i hi=>((Ho j 0).2 i hi).1) p1 p2 hw hcap);obtain⟨ln,H0⟩:∃ln,(cNL gn S.l P j 0).length=ln:=⟨_,rfl⟩;have Ga:=hid H0;clear Gx hgj H5 Kl;go_wp2_with fail;try rw [Gf]
    clear Gf x0 x1 m2 m3 m5 a0;refine zR (S:=fun w'=>Below w.heap.size w w'/\ w'.cell? ⟨w.heap.size,0,none⟩=some (.slice (some ⟨B,ao,none⟩) S.l.length c)/\ w'.cell? ⟨B,ao+j*5,none⟩=some (.slice (some ⟨pb,po,none⟩) z.length pc)/\ w'.cell? ⟨B,ao+j*5+1,none⟩=some (.bool H)/\ w'.cell? ⟨B,ao+j*5+2,none⟩=some (.int .i64 Q)/\ w'.cell? ⟨B,ao+j*5+3,none⟩=some (.int .i64 E)/\ w'.cell? ⟨B,ao+j*5+4,none⟩=some (.string I)) (Hk _ Z.low.drew (Z.a.below zI.drew Z.a.lt).c0) (fun qh=> ?_);refine tZ 0 56 ?_;refine tZ 2 58 ?_;refine tZ 3 59 ?_;refine tZ 4 60 ?_;refine tZ 5 61 ?_;refine tZ 6 62 ?_;refine QaO (i:=1) (j:=7) (d:=some 57) (d':=some 63) (by kernel_rfl) (by kernel_rfl) (by kernel_rfl) ?_ ?_
    ·
     have G:=(Z.n.below zI.drew Z.n.lt).c0;rw [H0] at G;intro o C G1 K r;simp only [gZa,gZb,gZc,gZd] at C;subst C;go_simp;refine r.out _ _ (Hk _ Z.low.drew (Z.a.below zI.drew Z.a.lt).c0) (fun qh=> ?_);clear r K;try simp only [zP]
     clear G;refine cZ 7 ?_;intro K r;go_simp;refine(Kf _ zI.drew).mono ?_;rintro e A ⟨p7,Kx,rfl,b7,G8,G9,Hm,G4⟩;have O:Below w5.heap.size w5 A:=⟨b7.os,b7.tape,b7.output,b7.size,b7.block⟩;have L1:=Z.below O;have L2:=L1.below (zO A (.cells #[.slice (some ⟨p7,0,none⟩) z.length Kx,.bool H,.int .i64 Q,.int .i64 E,.string I] 69));obtain⟨q8,Gd,w8,Hg,l8,A8,J,P8,Q8,h8⟩:=Km A p7 Kx O G8 G9 Hm G4;have Gm:=hid h8;refine r.out _ _ (Hk _ L1.low L1.a.c0) (fun qh=> ?_);clear r K;try simp only [zP]
     refine cZ 8 ?_;intro K r;go_simp;refine r.out _ _ (Hk _ L2.low L2.a.c0) (fun qh=> ?_);clear r K;try simp only [zP]
     rw [Ga.out] at Hg;refine cZ 9 ?_;intro K r;refine QaX _ _ _ _ rfl Hg (by rfl) (by rfl) rfl ?_;refine r.out _ _ (Hk _ l8 A8.c0) (fun qh=> ?_);clear r K;try simp only [zP]
     refine tZ 10 66 ?_;have G:=J.c0;have tf:=J.f;rw [Ga.out] at G;refine cZ 11 ?_;intro K r;go_simp;have h9:=Gm.out;rw [Ga.out] at h9;refine r.out _ _ (Hk _ h9.low h9.a.c0) (fun qh=> ?_);clear r K;try simp only [zP]
     refine zD ?_;have Gi:=hid h9;rw [H7.out,H8.out] at Gi;clear qh b7 O L1 L2 Hg l8 A8 J h8 h9 G tf Hm G4 G8 G9 Km Kf Hk Gm Z H0;go_wp2_with fail;go_roundw;case rel=>exact⟨j+1,q8,Gd,P8,Q8,Gk,Ht,by go_num,Gi⟩
     case measure=>simp [intOf];omega
    ·
     intro o C G1 K r;simp only [gZa,gZb,gZc,gZd] at C;subst C;go_simp;refine(Kf _ zI.drew).mono ?_;rintro e A ⟨p7,Kx,rfl,b7,G8,G9,Hm,G4⟩;have O:Below w5.heap.size w5 A:=⟨b7.os,b7.tape,b7.output,b7.size,b7.block⟩;have L1:=Z.below O;have L2:=L1.below (zO A (.cells #[.slice (some ⟨p7,0,none⟩) z.length Kx,.bool H,.int .i64 Q,.int .i64 E,.string I] 69));obtain⟨q8,Gd,w8,Hg,l8,A8,J,P8,Q8,h8⟩:=Km A p7 Kx O G8 G9 Hm G4;have Gm:=hid h8;refine r.out _ _ (Hk _ L1.low L1.a.c0) (fun qh=> ?_);clear r K;try simp only [zP]
     refine QaO (i:=1) (j:=8) (d:=some 57) (d':=some 64) (by kernel_rfl) (by kernel_rfl) (by kernel_rfl) ?_ ?_
     ·
      have G:=L1.n.c0;rw [H0] at G;intro o C G1 K r;simp only [gZa,gZb,gZc,gZd] at C;subst C;go_simp;refine r.out _ _ (Hk _ L1.low L1.a.c0) (fun qh=> ?_);clear r K;try simp only [zP]
      clear G;refine cZ 8 ?_;intro K r;go_simp;refine r.out _ _ (Hk _ L2.low L2.a.c0) (fun qh=> ?_);clear r K;try simp only [zP]
      rw [Ga.out] at Hg;refine cZ 9 ?_;intro K r;refine QaX _ _ _ _ rfl Hg (by rfl) (by rfl) rfl ?_;refine r.out _ _ (Hk _ l8 A8.c0) (fun qh=> ?_);clear r K;try simp only [zP]
      refine tZ 10 66 ?_;have G:=J.c0;have tf:=J.f;rw [Ga.out] at G;refine cZ 11 ?_;intro K r;go_simp;have h9:=Gm.out;rw [Ga.out] at h9;refine r.out _ _ (Hk _ h9.low h9.a.c0) (fun qh=> ?_);clear r K;try simp only [zP]
      refine zD ?_;have Gi:=hid h9;rw [H7.out,H8.out] at Gi;clear qh b7 O L1 L2 Hg l8 A8 J h8 h9 G tf Hm G4 G8 G9 Km Kf Hk Gm Z H0;go_wp2_with fail;go_roundw;case rel=>exact⟨j+1,q8,Gd,P8,Q8,Gk,Ht,by go_num,Gi⟩
      case measure=>simp [intOf];omega
     ·
      intro o C G1 K r;simp only [gZa,gZb,gZc,gZd] at C;subst C;go_simp;refine r.out _ _ (Hk _ L2.low L2.a.c0) (fun qh=> ?_);clear r K;try simp only [zP]
      have G:=L2.n.c0;rw [H0] at G;refine cZ 1 ?_;intro K r;go_simp;refine r.out _ _ (Hk _ L2.low L2.a.c0) (fun qh=> ?_);clear r K;try simp only [zP]
      clear G;rw [Ga.out] at Hg;refine cZ 9 ?_;intro K r;refine QaX _ _ _ _ rfl Hg (by rfl) (by rfl) rfl ?_;refine r.out _ _ (Hk _ l8 A8.c0) (fun qh=> ?_);clear r K;try simp only [zP]
      refine tZ 10 66 ?_;have G:=J.c0;have tf:=J.f;rw [Ga.out] at G;refine cZ 11 ?_;intro K r;go_simp;have h9:=Gm.out;rw [Ga.out] at h9;refine r.out _ _ (Hk _ h9.low h9.a.c0) (fun qh=> ?_);clear r K;try simp only [zP]
      refine zD ?_;have Gi:=hid h9;rw [H7.out,H8.out] at Gi;clear qh b7 O L1 L2 Hg l8 A8 J h8 h9 G tf Hm G4 G8 G9 Km Kf Hk Gm Z H0;go_wp2_with fail;go_roundw;case rel=>exact⟨j+1,q8,Gd,P8,Q8,Gk,Ht,by go_num,Gi⟩
      case measure=>simp [intOf];omega
  ·obtain rfl:j=S.l.length:=by omega
   go_wp2_with fail;go_loopw [13] (fun i wr=>∃(k gD cD gN D:Nat) (DP DQ NP NQ:Nat ->Nat) (Gk Le:Value),k<=P.length/\ i=.int .i64 k/\ Hid (CS w wr t1 t2 (.slice a S.l.length c) (.slice xa S.n d) gD cD (cDL P k) DP DQ Gk (cDR gn S.l P S.l.length k) gN D (cNL gn S.l P S.l.length k) NP NQ Le (cNR S P k))) (fun i _=>P.length - (intOf i).toNat);case atStart=>exact⟨0,_,_,_,_,_,_,_,_,_,_,Nat.zero_le _,rfl,U⟩
   case round=>
    clear U a0;obtain⟨k,gD,cD,gN,D,DP,DQ,NP,NQ,Gk,Le,hk,rfl,U⟩:=hrel;have Lz:P.length<=1:=Kg.2.2;by_cases Hn:k<P.length
    ·skip;have i1:(0:Int)<=(k:Int):=Int.natCast_nonneg _;have i2:(k:Int)<(P.length:Int):=by omega
     obtain⟨V,L,rfl,G6,Ko⟩:=(H2.out).resolve_left (by omega);obtain⟨Lv,pc,⟨u,d0⟩,sg,M,c2,c3,c4⟩:=Ko k Hn;have G0:gL P k∈P:=Qa1.2 ⟨k,Hn,rfl⟩;have Gg:=Jm.pm _ G0;obtain⟨pb,po,rfl,G2,Ge⟩:=sg.resolve_left (by omega);have Gh:Hid (Rok (dtR (gL P k))):=hid (Jm.dot _ G0);have H7:Hid (ins (cDR gn S.l P S.l.length k) (dtR (gL P k))=cDR gn S.l P S.l.length (k+1)):=hid (QlV Hn).symm;have H8:Hid (ins (cNR S P k) (dtR (gL P k))=cNR S P (k+1)):=hid (Qmb Hn).symm;have K2:Hid (Qcs (gL P k) (cDL P k)=cDL P (k+1)):=hid (QlT Hn).symm;have K3:Hid (Qcs (gL P k) (cNL gn S.l P S.l.length k)=cNL gn S.l P S.l.length (k+1)):=hid (QlZ Hn).symm;obtain⟨y,hy⟩:∃y,gL P k=y:=⟨_,rfl⟩;rw [hy] at u M c2 c3 c4 d0 Ge Gg Gh H7 H8 K2 K3;obtain⟨z,H,Q,E,I⟩:=y;dsimp only [dtR] at u M c2 c3 c4 d0 Ge Gg Gh H7 H8 K2 K3;have H5:Hid (∀w',Below w.heap.size w w' ->(w'.cell? ⟨V,L+k*5,none⟩=some (.slice (some ⟨pb,po,none⟩) z.length pc)/\ w'.cell? ⟨V,L+k*5+1,none⟩=some (.bool H)/\ w'.cell? ⟨V,L+k*5+2,none⟩=some (.int .i64 Q)/\ w'.cell? ⟨V,L+k*5+3,none⟩=some (.int .i64 E)/\ w'.cell? ⟨V,L+k*5+4,none⟩=some (.string I))):=hid (fun w' b=>⟨(b.cell (p:=⟨V,_,none⟩) G6).trans u,(b.cell (p:=⟨V,_,none⟩) G6).trans M,(b.cell (p:=⟨V,_,none⟩) G6).trans c2,(b.cell (p:=⟨V,_,none⟩) G6).trans c3,(b.cell (p:=⟨V,_,none⟩) G6).trans c4⟩);have Kl:Hid (∀w',Below w.heap.size w w' ->pb<w'.heap.size/\∀t,t<z.length ->w'.cell? ⟨pb,po+t,none⟩=some (.string (gS z t))):=hid (fun w' b=>⟨Nat.lt_of_lt_of_le G2 b.size,fun t ht=>(b.cell (p:=⟨pb,po+t,none⟩) G2).trans (Ge t ht)⟩);have Gu:=hid Gg;obtain⟨w5,Gf⟩:∃w5,wr.alloc (.cells #[.int .i64 Q,.int .i64 E] 67)=w5:=⟨_,rfl⟩;have b5:Below wr.heap.size wr w5:=by rw [<- Gf];exact zO _ _
     have X5:Bx2 w5 wr.heap.size (.int .i64 Q) (.int .i64 E):=by rw [<- Gf];exact Bx2.made _ _ _ _
     have Z:=hid (U.below b5);have Jo:=hid X5;have Lk:Hid (t1≠wr.heap.size/\ t2≠wr.heap.size):=hid ⟨by have:=U.d.lt;omega,by have:=U.n.lt;omega⟩;have m2:=(H5 wr U.low).2.2.1;have m3:=(H5 wr U.low).2.2.2.1;have x0:=X5.c0;have x1:=X5.c1;clear hy Ko sg Ge G2 G6 b5 X5 d0 Gg U u M c2 c3 c4 G0;obtain⟨Lq,Lo,Kw,Ks,_,_⟩:=Z.fd.fs;subst Kw;have Gn:=hid (Qfl Lq Lo (cDR gn S.l P S.l.length k) Q E E w5 (by have:=(Hw S.l.length k).2;omega) Ks (Hw S.l.length k).1 Gh.out);have d1:=Z.d.c1;obtain⟨L4,Gy⟩:∃ln,((cDR gn S.l P S.l.length k)).length=ln:=⟨_,rfl⟩;rw [Gy] at Gn d1;clear Ks;go_wp2_with fail;refine Gn.mono ?_;rintro e w6 ⟨v6,rfl,Gw,b6⟩;obtain⟨vy,vm,vc,rfl⟩:=QbJ Gw;have D6:=Z.d.below b6 Z.d.lt;have o1:=D6.c1;have of:=D6.f;rw [Gy] at o1;have Hz:=hid (Z.setD1 b6 Gw);rw [H7.out] at Hz;have X6:=(Jo.below b6 Jo.lt).setAt ⟨t1,1,none⟩ (.slice vy vm vc) Lk.1;obtain⟨wb,Lc⟩:∃wb,w6.setCell ⟨t1,1,none⟩ (.slice vy vm vc)=wb:=⟨_,rfl⟩;rw [Lc] at Hz X6;have Lm:=hid X6;clear x0 x1 m2 m3 d1 Gf Gw b6 D6 Gn Gy Z Jo;have x0:=X6.c0;have x1:=X6.c1;clear X6;obtain⟨Lr,Lp,Js,Kt,_,_⟩:=Hz.fn.fs;subst Js;have Go:=hid (Qfl Lr Lp (cNR S P k) Q E E wb (by have:=(Gl k).2;omega) Kt (Gl k).1 Gh.out);have d2:=Hz.n.c1;obtain⟨L5,Gz⟩:∃ln,((cNR S P k)).length=ln:=⟨_,rfl⟩;rw [Gz] at Go d2;clear Kt;go_wp2_with fail;clear o1 of;refine Go.mono ?_;rintro e Lw ⟨v7,rfl,Jq,b7⟩;obtain⟨uy,um,uc,rfl⟩:=QbJ Jq;have D7:=Hz.n.below b7 Hz.n.lt;have o1:=D7.c1;have of:=D7.f;rw [Gz] at o1;have N:=hid (Hz.setN1 b7 Jq);rw [H8.out] at N;obtain⟨wc,Jt⟩:∃wc,Lw.setCell ⟨t2,1,none⟩ (.slice uy um uc)=wc:=⟨_,rfl⟩;rw [Jt] at N;clear Lc x0 x1 d2 Jq b7 D7 Go Gz Hz Lm;have Hf:Hid (∀w',Below w.heap.size w w' ->(Below w.heap.size w w'/\ w'.cell? ⟨V,L+k*5,none⟩=some (.slice (some ⟨pb,po,none⟩) z.length pc)/\ w'.cell? ⟨V,L+k*5+1,none⟩=some (.bool H)/\ w'.cell? ⟨V,L+k*5+2,none⟩=some (.int .i64 Q)/\ w'.cell? ⟨V,L+k*5+3,none⟩=some (.int .i64 E)/\ w'.cell? ⟨V,L+k*5+4,none⟩=some (.string I))):=hid (fun w' b=>⟨b,H5.out w' b⟩);have Gp:Hid (∀w',Below wc.heap.size wc w' ->Calls Tryz.prog 52 #[.agg #[.slice (some ⟨pb,po,none⟩) z.length pc,.bool H,.int .i64 Q,.int .i64 E,.string I]] w' fun e w''=>∃q cap,e=.returned (.agg #[.slice (some ⟨q,0,none⟩) z.length cap,.bool H,.int .i64 Q,.int .i64 E,.string I])/\ Below w'.heap.size w' w''/\ w'.heap.size<=q/\ q<w''.heap.size/\ Wr w'' q 9 z.length (fun t=> .string (gS z t))/\ z.length<=cap/\ cap<=9223372036854775807):=hid (fun w' b=>by
      have hq:=Kl w' (Qab N.low b);exact QcT pb po z.length pc ⟨z,H,Q,E,I⟩ w' rfl (by have:=Gu.2;omega) hq.1 hq.2)
     obtain⟨G7,Hp⟩:∃ln,(cDL P k).length=ln:=⟨_,rfl⟩;have Gr:Hid (∀A q cap,Below wc.heap.size wc A ->wc.heap.size<=q ->q<A.heap.size ->Wr A q 9 z.length (fun t=> .string (gS z t)) ->(z.length<=cap/\ cap<=9223372036854775807) ->Calls Tryz.prog 55 #[.slice (some ⟨gD,0,none⟩) G7 cD,.agg #[.slice (some ⟨q,0,none⟩) z.length cap,.bool H,.int .i64 Q,.int .i64 E,.string I]] A fun e w'=>(∃g' cap' P' Q',e=.returned (.slice (some ⟨g',0,none⟩) (G7+1) cap')/\ A.heap.size<=g'/\ LC w' (w.heap.size+3) (.slice (some ⟨g',0,none⟩) (G7+1) cap') (cDL P (k+1)) P' Q')/\ Below A.heap.size A w'):=hid (fun A q cap b7 hq1 hq2 hw hcap=>by
      have hJ:=N.below b7;have Ls:=N.r2.lt;have Lt:=b7.size;rw [<- K2.out,<- Hp];exact QfH gD cD (cDL P k) DP DQ A (w.heap.size+3) q cap z H Q E I hJ.ld (by omega) (by have:=(H6 k).1;omega) (fun i hi=>by have:=((H6 k).2 i hi).2;omega) (by have:=Gu.2;omega) ⟨by omega,hq2⟩ hw hcap)
     have Gq:Hid (G7+1=(cDL P (k+1)).length):=hid (by rw [<- K2.out,Qby,Hp]);go_wp2_with fail;try rw [Jt]
     clear Jt o1 of;apply Qpe
     ·intro Ld;refine zR (S:=fun w'=>Below w.heap.size w w'/\ w'.cell? ⟨V,L+k*5,none⟩=some (.slice (some ⟨pb,po,none⟩) z.length pc)/\ w'.cell? ⟨V,L+k*5+1,none⟩=some (.bool H)/\ w'.cell? ⟨V,L+k*5+2,none⟩=some (.int .i64 Q)/\ w'.cell? ⟨V,L+k*5+3,none⟩=some (.int .i64 E)/\ w'.cell? ⟨V,L+k*5+4,none⟩=some (.string I)) (Hf _ N.low.drew) (fun qh=> ?_);refine tZ 0 104 ?_;refine tZ 2 106 ?_;refine tZ 3 107 ?_;refine tZ 4 108 ?_;refine tZ 5 109 ?_;refine QaO (i:=1) (j:=6) (d:=some 105) (d':=some 110) (by kernel_rfl) (by kernel_rfl) (by kernel_rfl) ?_ ?_
      ·
       have G:=(N.d.below zI.drew N.d.lt).c0;rw [Hp] at G;intro o C G1 K r;simp only [gZa,gZb,gZc,gZd] at C;subst C;go_simp;refine r.out _ _ (Hf _ N.low.drew) (fun qh=> ?_);clear r K;try simp only [zP]
       clear G;refine cZ 6 ?_;intro K r;go_simp;refine(Gp _ zI.drew).mono ?_;rintro e A ⟨q7,Hj,rfl,b7,Hd,He,Hm,Ha⟩;have O:Below wc.heap.size wc A:=⟨b7.os,b7.tape,b7.output,b7.size,b7.block⟩;refine r.out _ _ (Hf _ (Qab N.low O)) (fun qh=> ?_);clear r K;try simp only [zP]
       have H4:=hid (Gr A q7 Hj O Hd He Hm Ha);clear Hm Ha Hd He;refine cZ 7 ?_;intro K r;go_simp;refine H4.mono ?_;rintro e w8 ⟨⟨g8,c8,P8,Q8,rfl,G5,l8⟩,b8⟩;have Hl:=Qab O b8;have Hq:=hid (N.setD0 Hl l8 Gq.out (by have:=O.size;omega) (fun i hi=>((H6 (k+1)).2 i hi).1));have J:=N.d.below Hl N.d.lt;refine r.out _ _ (Hf _ (Qab N.low Hl)) (fun qh=> ?_);clear r K;try simp only [zP]
       refine tZ 8 112 ?_;have o0:=J.c0;have of:=J.f 0;rw [Hp] at o0;clear J;refine cZ 9 ?_;intro K r;go_simp;clear qh;refine r.out _ _ (Hf _ Hq.low) (fun qh=> ?_);clear r K;try simp only [zP]
       refine zD ?_;obtain⟨wz,Jc⟩:∃wz,w8.setCell ⟨t1,0,none⟩ (.slice (some ⟨g8,0,none⟩) (G7+1) c8)=wz:=⟨_,rfl⟩;rw [Jc] at Hq ⊢;clear qh Jc b7 O b8 Hl l8 G5 o0 of H4;revert Hq;revert wz;revert Q8;revert P8;revert c8;revert g8;revert Hj;revert q7;exact Ld.out
      ·
       intro o C G1 K r;simp only [gZa,gZb,gZc,gZd] at C;subst C;go_simp;refine(Gp _ zI.drew).mono ?_;rintro e A ⟨q7,Hj,rfl,b7,Hd,He,Hm,Ha⟩;have O:Below wc.heap.size wc A:=⟨b7.os,b7.tape,b7.output,b7.size,b7.block⟩;refine r.out _ _ (Hf _ (Qab N.low O)) (fun qh=> ?_);clear r K;try simp only [zP]
       have G:=(N.d.below O N.d.lt).c0;rw [Hp] at G;refine cZ 1 ?_;intro K r;go_simp;refine r.out _ _ (Hf _ (Qab N.low O)) (fun qh=> ?_);clear r K;try simp only [zP]
       clear G;have H4:=hid (Gr A q7 Hj O Hd He Hm Ha);clear Hm Ha Hd He;refine cZ 7 ?_;intro K r;go_simp;refine H4.mono ?_;rintro e w8 ⟨⟨g8,c8,P8,Q8,rfl,G5,l8⟩,b8⟩;have Hl:=Qab O b8;have Hq:=hid (N.setD0 Hl l8 Gq.out (by have:=O.size;omega) (fun i hi=>((H6 (k+1)).2 i hi).1));have J:=N.d.below Hl N.d.lt;refine r.out _ _ (Hf _ (Qab N.low Hl)) (fun qh=> ?_);clear r K;try simp only [zP]
       refine tZ 8 112 ?_;have o0:=J.c0;have of:=J.f 0;rw [Hp] at o0;clear J;refine cZ 9 ?_;intro K r;go_simp;clear qh;refine r.out _ _ (Hf _ Hq.low) (fun qh=> ?_);clear r K;try simp only [zP]
       refine zD ?_;obtain⟨wz,Jc⟩:∃wz,w8.setCell ⟨t1,0,none⟩ (.slice (some ⟨g8,0,none⟩) (G7+1) c8)=wz:=⟨_,rfl⟩;rw [Jc] at Hq ⊢;exact Ld q7 Hj g8 c8 P8 Q8 wz Hq
     intro q3 Ln g3 c3 P3 Q3 wd Hh;clear N Hf Gp Gr Hp Gq;have Hc:Hid (∀w',Below w.heap.size w w' ->(Below w.heap.size w w'/\ w'.cell? ⟨V,L+k*5,none⟩=some (.slice (some ⟨pb,po,none⟩) z.length pc)/\ w'.cell? ⟨V,L+k*5+1,none⟩=some (.bool H)/\ w'.cell? ⟨V,L+k*5+2,none⟩=some (.int .i64 Q)/\ w'.cell? ⟨V,L+k*5+3,none⟩=some (.int .i64 E)/\ w'.cell? ⟨V,L+k*5+4,none⟩=some (.string I))):=hid (fun w' b=>⟨b,H5.out w' b⟩);have H9:Hid (∀w',Below wd.heap.size wd w' ->Calls Tryz.prog 52 #[.agg #[.slice (some ⟨pb,po,none⟩) z.length pc,.bool H,.int .i64 Q,.int .i64 E,.string I]] w' fun e w''=>∃q cap,e=.returned (.agg #[.slice (some ⟨q,0,none⟩) z.length cap,.bool H,.int .i64 Q,.int .i64 E,.string I])/\ Below w'.heap.size w' w''/\ w'.heap.size<=q/\ q<w''.heap.size/\ Wr w'' q 9 z.length (fun t=> .string (gS z t))/\ z.length<=cap/\ cap<=9223372036854775807):=hid (fun w' b=>by
      have hq:=Kl w' (Qab Hh.low b);exact QcT pb po z.length pc ⟨z,H,Q,E,I⟩ w' rfl (by have:=Gu.2;omega) hq.1 hq.2)
     obtain⟨Jd,Hr⟩:∃ln,(cNL gn S.l P S.l.length k).length=ln:=⟨_,rfl⟩;have Gb:Hid (∀A q cap,Below wd.heap.size wd A ->wd.heap.size<=q ->q<A.heap.size ->Wr A q 9 z.length (fun t=> .string (gS z t)) ->(z.length<=cap/\ cap<=9223372036854775807) ->Calls Tryz.prog 55 #[.slice (some ⟨gN,0,none⟩) Jd D,.agg #[.slice (some ⟨q,0,none⟩) z.length cap,.bool H,.int .i64 Q,.int .i64 E,.string I]] A fun e w'=>(∃g' cap' P' Q',e=.returned (.slice (some ⟨g',0,none⟩) (Jd+1) cap')/\ A.heap.size<=g'/\ LC w' (w.heap.size+3) (.slice (some ⟨g',0,none⟩) (Jd+1) cap') (cNL gn S.l P S.l.length (k+1)) P' Q')/\ Below A.heap.size A w'):=hid (fun A q cap b7 hq1 hq2 hw hcap=>by
      have hJ:=Hh.below b7;have Ls:=Hh.r2.lt;have Lt:=b7.size;rw [<- K3.out,<- Hr];exact QfH gN D (cNL gn S.l P S.l.length k) NP NQ A (w.heap.size+3) q cap z H Q E I hJ.ln (by omega) (by have:=(Ho S.l.length k).1;omega) (fun i hi=>by have:=((Ho S.l.length k).2 i hi).2;omega) (by have:=Gu.2;omega) ⟨by omega,hq2⟩ hw hcap)
     have Kj:Hid (Jd+1=(cNL gn S.l P S.l.length (k+1)).length):=hid (by rw [<- K3.out,Qby,Hr]);go_wp2_with fail;refine zR (S:=fun w'=>Below w.heap.size w w'/\ w'.cell? ⟨V,L+k*5,none⟩=some (.slice (some ⟨pb,po,none⟩) z.length pc)/\ w'.cell? ⟨V,L+k*5+1,none⟩=some (.bool H)/\ w'.cell? ⟨V,L+k*5+2,none⟩=some (.int .i64 Q)/\ w'.cell? ⟨V,L+k*5+3,none⟩=some (.int .i64 E)/\ w'.cell? ⟨V,L+k*5+4,none⟩=some (.string I)) (Hc _ Hh.low.drew) (fun qh=> ?_);refine tZ 0 113 ?_;refine tZ 2 115 ?_;refine tZ 3 116 ?_;refine tZ 4 117 ?_;refine tZ 5 118 ?_;refine QaO (i:=1) (j:=6) (d:=some 114) (d':=some 119) (by kernel_rfl) (by kernel_rfl) (by kernel_rfl) ?_ ?_
     ·
      have G:=(Hh.n.below zI.drew Hh.n.lt).c0;rw [Hr] at G;intro o C G1 K r;simp only [gZa,gZb,gZc,gZd] at C;subst C;go_simp;refine r.out _ _ (Hc _ Hh.low.drew) (fun qh=> ?_);clear r K;try simp only [zP]
      clear G;refine cZ 6 ?_;intro K r;go_simp;refine(H9 _ zI.drew).mono ?_;rintro e A ⟨q7,Hj,rfl,b7,Hd,He,Hm,Ha⟩;have O:Below wd.heap.size wd A:=⟨b7.os,b7.tape,b7.output,b7.size,b7.block⟩;refine r.out _ _ (Hc _ (Qab Hh.low O)) (fun qh=> ?_);clear r K;try simp only [zP]
      have H4:=hid (Gb A q7 Hj O Hd He Hm Ha);clear Hm Ha Hd He;refine cZ 7 ?_;intro K r;go_simp;refine H4.mono ?_;rintro e w8 ⟨⟨g8,c8,P8,Q8,rfl,G5,l8⟩,b8⟩;have Hl:=Qab O b8;have Hq:=hid (Hh.setN0 Hl l8 Kj.out (by have:=O.size;omega) (fun i hi=>((Ho S.l.length (k+1)).2 i hi).1));have J:=Hh.n.below Hl Hh.n.lt;refine r.out _ _ (Hc _ (Qab Hh.low Hl)) (fun qh=> ?_);clear r K;try simp only [zP]
      refine tZ 8 121 ?_;have o0:=J.c0;have of:=J.f 0;rw [Hr] at o0;clear J;refine cZ 9 ?_;intro K r;go_simp;clear qh;refine r.out _ _ (Hc _ Hq.low) (fun qh=> ?_);clear r K;try simp only [zP]
      refine zD ?_;clear qh b7 O b8 Hl l8 G5 o0 of H4 Gb H9 Hc;go_wp2_with fail;go_roundw;case rel=>exact⟨k+1,g3,c3,g8,c8,P3,Q3,P8,Q8,_,_,Hn,by go_num,Hq⟩
      case measure=>simp [intOf];omega
     ·
      intro o C G1 K r;simp only [gZa,gZb,gZc,gZd] at C;subst C;go_simp;refine(H9 _ zI.drew).mono ?_;rintro e A ⟨q7,Hj,rfl,b7,Hd,He,Hm,Ha⟩;have O:Below wd.heap.size wd A:=⟨b7.os,b7.tape,b7.output,b7.size,b7.block⟩;refine r.out _ _ (Hc _ (Qab Hh.low O)) (fun qh=> ?_);clear r K;try simp only [zP]
      have G:=(Hh.n.below O Hh.n.lt).c0;rw [Hr] at G;refine cZ 1 ?_;intro K r;go_simp;refine r.out _ _ (Hc _ (Qab Hh.low O)) (fun qh=> ?_);clear r K;try simp only [zP]
      clear G;have H4:=hid (Gb A q7 Hj O Hd He Hm Ha);clear Hm Ha Hd He;refine cZ 7 ?_;intro K r;go_simp;refine H4.mono ?_;rintro e w8 ⟨⟨g8,c8,P8,Q8,rfl,G5,l8⟩,b8⟩;have Hl:=Qab O b8;have Hq:=hid (Hh.setN0 Hl l8 Kj.out (by have:=O.size;omega) (fun i hi=>((Ho S.l.length (k+1)).2 i hi).1));have J:=Hh.n.below Hl Hh.n.lt;refine r.out _ _ (Hc _ (Qab Hh.low Hl)) (fun qh=> ?_);clear r K;try simp only [zP]
      refine tZ 8 121 ?_;have o0:=J.c0;have of:=J.f 0;rw [Hr] at o0;clear J;refine cZ 9 ?_;intro K r;go_simp;clear qh;refine r.out _ _ (Hc _ Hq.low) (fun qh=> ?_);clear r K;try simp only [zP]
      refine zD ?_;clear qh b7 O b8 Hl l8 G5 o0 of H4 Gb H9 Hc;go_wp2_with fail;go_roundw;case rel=>exact⟨k+1,g3,c3,g8,c8,P3,Q3,P8,Q8,_,_,Hn,by go_num,Hq⟩
      case measure=>simp [intOf];omega
    ·obtain rfl:k=P.length:=by omega
     have e1:=U.ld;have e2:=U.ln;obtain⟨Hu,H3,Kw,_⟩:=U.fd.fs;subst Kw;obtain⟨Hs,Hv,Js,_⟩:=U.fn.fs;subst Js;have Jy:Hid (SNc wr (w.heap.size+3) (some ⟨gD,0,none⟩) cD Hu (mkS (cDL P P.length) (cDR gn S.l P S.l.length P.length))):=hid (Qn8 U.ld U.fd);have Jz:Hid (SNc wr (w.heap.size+3) (some ⟨gN,0,none⟩) D Hs (mkS (cNL gn S.l P S.l.length P.length) (cNR S P P.length))):=hid (Qn8 U.ln U.fn);rw [Qiy Kg.2.2,Qgf] at Jy;rw [Qgg,Qgh] at Jz;have K1:Hid (dlS gn S.l P=mkS P (dlU gn S.l P)/\ jnS S (dlS gn S.l P)=mkS (nxL gn S.l P) (nxU S P)):=hid ⟨rfl,Qox K9.out Jm.out⟩;have D1:=U.d;have N1:=U.n;rw [Qiy Kg.2.2,Qgf] at D1;rw [Qgg,Qgh] at N1;obtain⟨d1,Kq⟩:∃d1,P.length=d1:=⟨_,rfl⟩;obtain⟨d2,Kr⟩:∃d2,(dlU gn S.l P).length=d2:=⟨_,rfl⟩;obtain⟨n1,Ku⟩:∃n1,(nxL gn S.l P).length=n1:=⟨_,rfl⟩;obtain⟨n2,Kv⟩:∃n2,(nxU S P).length=n2:=⟨_,rfl⟩;have Kz:Hid (d1<=1/\ d2<=1001/\ n1<=1001/\ n2<=1001):=hid (by
      refine⟨by rw [<- Kq];exact Kg.2.2,?_,?_,?_⟩
      ·rw [<- Kr,<- Qgf];exact(Hw _ _).2
      ·rw [<- Ku,<- Qgg];exact(Ho _ _).1
      ·rw [<- Kv,<- Qgh];exact(Gl _).2)
     have Kb:Hid (chF S (dlS gn S.l P)=((decide (n1<=1000) && decide (n2<=1000)) && (decide (d1<=1000) && decide (d2<=1000)))):=hid (by
      unfold chF jnF;rw [K1.2,K1.1,<- Ku,<- Kv,<- Kq,<- Kr];rfl)
     rw [Kq,Kr] at D1;rw [Ku,Kv] at N1;have Lj:=hid (And.intro Kq (And.intro Kr (And.intro Ku Kv)));have Ji:=hid (Qg3 (some ⟨gD,0,none⟩) Hu d1 d2 cD H3 wr (by have:=Kz.out;omega) (by have:=Kz.out;omega));have Jx:=hid (fun w3=>Qg3 (some ⟨gN,0,none⟩) Hs n1 n2 D Hv w3 (by have:=Kz.out;omega) (by have:=Kz.out;omega));have Jw:=hid D1;have K5:=hid N1;have Ki:=hid U.low;have K7:=hid U.r1;have K8:=hid U.r2;have Ll:Hid (w.heap.size+3<=t1/\ w.heap.size+3<=t2/\ t1≠t2):=hid ⟨U.h1,U.h2,U.h12⟩;obtain⟨B1,J6⟩:∃B1,(decide (d1<=1000) && decide (d2<=1000))=B1:=⟨_,rfl⟩;obtain⟨B2,Jp⟩:∃B2,(decide (n1<=1000) && decide (n2<=1000))=B2:=⟨_,rfl⟩;rw [J6] at Ji Kb;rw [Jp] at Kb;have Kc:Hid (∀w3,Calls Tryz.prog 79 #[.agg #[.slice (some ⟨gN,0,none⟩) n1 D,.slice Hs n2 Hv]] w3 fun e w'=>e=.returned (.bool B2)/\ Below w3.heap.size w3 w'):=hid (fun w3=>by rw [<- Jp];exact Jx w3);have x0:=D1.c0;have x1:=D1.c1;clear J6 Jp Jx D1 N1 U e1 e2 Kq Kr Ku Kv;go_wp2_with fail;refine Ji.mono ?_;rintro e w3 ⟨rfl,b3⟩;clear x0 x1 Ji;cases B1 with
     | false=>
      have HZ:Hid (X=Sx.mt/\ Y=Sx.mt/\ CC=4):=hid (by
       have e:chF S (dlS gn S.l P)=false:=by rw [Kb.out];simp
       obtain⟨z1,z2,z3⟩:=Qou e;exact⟨Hi.1.symm.trans z1,Hi.2.1.symm.trans z2,Hi.2.2.symm.trans z3⟩)
      have Ky:=hid (Qab Ki.out b3);have Hb:=hid (K7.below b3 K7.lt);have Hy:=hid (K8.below b3 K8.lt);clear b3;have r0:=Hb.c0;have r1:=Hb.c1;have rf:=Hb.f;have Jg:=hid (Hb.set (.slice none 0 0) (.slice none 0 0));have Q3:=(Hy.setAt ⟨w.heap.size+1,0,none⟩ (.slice none 0 0) (by show w.heap.size+1≠w.heap.size+1+1;omega)).setAt ⟨w.heap.size+1,1,none⟩ (.slice none 0 0) (by show w.heap.size+1≠w.heap.size+1+1;omega);have q0:=Q3.c0;have q1:=Q3.c1;have qf:=Q3.f;have Kk:=hid (Q3.set (.slice none 0 0) (.slice none 0 0));have Ka:=hid ((Jg.setAt ⟨w.heap.size+1+1,0,none⟩ (.slice none 0 0) (by show w.heap.size+1+1≠w.heap.size+1;omega)).setAt ⟨w.heap.size+1+1,1,none⟩ (.slice none 0 0) (by show w.heap.size+1+1≠w.heap.size+1;omega));clear Q3;go_wp2_with fail;have s0:=Ka.c0;have s1:=Ka.c1;have s2:=Kk.c0;have s3:=Kk.c1;refine zF (v:=.tuple #[.agg #[.slice none 0 0,.slice none 0 0],.agg #[.slice none 0 0,.slice none 0 0],.int .i64 4]) (by simp [results,Tryz.results110,go_sem,s0,s1,s2,s3]) ⟨none,0,none,0,none,0,none,0,by rw [HZ.1,HZ.2.1,HZ.2.2];rfl,?_,?_,?_⟩
      ·rw [HZ.1];exact SNc.mt _ _ _ _
      ·rw [HZ.2.1];exact SNc.mt _ _ _ _
      ·exact(((Ky.setCell (by simp) _).setCell (by simp) _).setCell (by simp;omega) _).setCell (by simp;omega) _
     | true=>
      have N3:=K5.below b3 K5.lt;have x0:=N3.c0;have x1:=N3.c1;have Lg:=hid b3;clear b3 N3;go_wp2_with fail;refine(Kc w3).mono ?_;rintro e w4 ⟨rfl,b4⟩;have Gj:=Qab Lg.out b4;have Ky:=hid (Qab Ki.out Gj);have Hb:=hid (K7.below Gj K7.lt);have Hy:=hid (K8.below Gj K8.lt);have K0:=hid (Jw.below Gj Jw.lt);have K6:=hid (K5.below Gj K5.lt);have Jk:=hid (Jy.below Gj);have Jl:=hid (Jz.below Gj);clear b4 Gj x0 x1 Kc;cases B2 with
      | false=>
       have HZ:Hid (X=Sx.mt/\ Y=Sx.mt/\ CC=4):=hid (by
        have e:chF S (dlS gn S.l P)=false:=by rw [Kb.out];simp
        obtain⟨z1,z2,z3⟩:=Qou e;exact⟨Hi.1.symm.trans z1,Hi.2.1.symm.trans z2,Hi.2.2.symm.trans z3⟩)
       have r0:=Hb.c0;have r1:=Hb.c1;have rf:=Hb.f;have Jg:=hid (Hb.set (.slice none 0 0) (.slice none 0 0));have Q3:=(Hy.setAt ⟨w.heap.size+1,0,none⟩ (.slice none 0 0) (by show w.heap.size+1≠w.heap.size+1+1;omega)).setAt ⟨w.heap.size+1,1,none⟩ (.slice none 0 0) (by show w.heap.size+1≠w.heap.size+1+1;omega);have q0:=Q3.c0;have q1:=Q3.c1;have qf:=Q3.f;have Kk:=hid (Q3.set (.slice none 0 0) (.slice none 0 0));have Ka:=hid ((Jg.setAt ⟨w.heap.size+1+1,0,none⟩ (.slice none 0 0) (by show w.heap.size+1+1≠w.heap.size+1;omega)).setAt ⟨w.heap.size+1+1,1,none⟩ (.slice none 0 0) (by show w.heap.size+1+1≠w.heap.size+1;omega));clear Q3;go_wp2_with fail;have s0:=Ka.c0;have s1:=Ka.c1;have s2:=Kk.c0;have s3:=Kk.c1;refine zF (v:=.tuple #[.agg #[.slice none 0 0,.slice none 0 0],.agg #[.slice none 0 0,.slice none 0 0],.int .i64 4]) (by simp [results,Tryz.results110,go_sem,s0,s1,s2,s3]) ⟨none,0,none,0,none,0,none,0,by rw [HZ.1,HZ.2.1,HZ.2.2];rfl,?_,?_,?_⟩
       ·rw [HZ.1];exact SNc.mt _ _ _ _
       ·rw [HZ.2.1];exact SNc.mt _ _ _ _
       ·exact(((Ky.setCell (by simp) _).setCell (by simp) _).setCell (by simp;omega) _).setCell (by simp;omega) _
      | true=>
       have HZ:Hid (X=mkS (nxL gn S.l P) (nxU S P)/\ Y=mkS P (dlU gn S.l P)/\ CC=0):=hid (by
        have e:chF S (dlS gn S.l P)=true:=by rw [Kb.out];rfl
        obtain⟨z1,z2,z3⟩:=Qov e;exact⟨Hi.1.symm.trans (z1.trans K1.2),Hi.2.1.symm.trans (z2.trans K1.1),Hi.2.2.symm.trans z3⟩)
       have Ja:Hid (∀w',Bx2 w' t1 (.slice (some ⟨gD,0,none⟩) d1 cD) (.slice Hu d2 H3) ->Bx2 w' t2 (.slice (some ⟨gN,0,none⟩) n1 D) (.slice Hs n2 Hv) ->(w'.cell? ⟨t1,0,none⟩=some (.slice (some ⟨gD,0,none⟩) d1 cD)/\ w'.cell? ⟨t1,1,none⟩=some (.slice Hu d2 H3)/\ w'.cell? ⟨t2,0,none⟩=some (.slice (some ⟨gN,0,none⟩) n1 D)/\ w'.cell? ⟨t2,1,none⟩=some (.slice Hs n2 Hv))):=hid (fun w' h1 h2=>⟨h1.c0,h1.c1,h2.c0,h2.c1⟩);go_wp2_with fail;refine zR (S:=fun w'=>w'.cell? ⟨t1,0,none⟩=some (.slice (some ⟨gD,0,none⟩) d1 cD)/\ w'.cell? ⟨t1,1,none⟩=some (.slice Hu d2 H3)/\ w'.cell? ⟨t2,0,none⟩=some (.slice (some ⟨gN,0,none⟩) n1 D)/\ w'.cell? ⟨t2,1,none⟩=some (.slice Hs n2 Hv)) (Ja _ (K0.below zI.drew K0.lt) (K6.below zI.drew K6.lt)) (fun qh=> ?_);refine tZ 0 132 ?_;refine tZ 1 133 ?_;obtain⟨u0,Jr⟩:∃u0,w4.drew=u0:=⟨_,rfl⟩;have bu:Below w4.heap.size w4 u0:=by rw [<- Jr];exact zI.drew
       rw [Jr];clear Jr;have R1:=Hb.below bu Hb.lt;have R2:=Hy.below bu Hy.lt;have r0:=R1.c0;have r1:=R1.c1;have rf:=R1.f;have L0:=Ll.out;have DA:=((K0.below bu K0.lt).setAt ⟨w.heap.size+1,0,none⟩ (.slice (some ⟨gN,0,none⟩) n1 D) (by show w.heap.size+1≠t1;omega)).setAt ⟨w.heap.size+1,1,none⟩ (.slice Hs n2 Hv) (by show w.heap.size+1≠t1;omega);have NA:=((K6.below bu K6.lt).setAt ⟨w.heap.size+1,0,none⟩ (.slice (some ⟨gN,0,none⟩) n1 D) (by show w.heap.size+1≠t2;omega)).setAt ⟨w.heap.size+1,1,none⟩ (.slice Hs n2 Hv) (by show w.heap.size+1≠t2;omega);have RA:=R1.set (.slice (some ⟨gN,0,none⟩) n1 D) (.slice Hs n2 Hv);have QA:=(R2.setAt ⟨w.heap.size+1,0,none⟩ (.slice (some ⟨gN,0,none⟩) n1 D) (by show w.heap.size+1≠w.heap.size+1+1;omega)).setAt ⟨w.heap.size+1,1,none⟩ (.slice Hs n2 Hv) (by show w.heap.size+1≠w.heap.size+1+1;omega);have DB:=(DA.setAt ⟨w.heap.size+1+1,0,none⟩ (.slice (some ⟨gD,0,none⟩) d1 cD) (by show w.heap.size+1+1≠t1;omega)).setAt ⟨w.heap.size+1+1,1,none⟩ (.slice Hu d2 H3) (by show w.heap.size+1+1≠t1;omega);have NB:=(NA.setAt ⟨w.heap.size+1+1,0,none⟩ (.slice (some ⟨gD,0,none⟩) d1 cD) (by show w.heap.size+1+1≠t2;omega)).setAt ⟨w.heap.size+1+1,1,none⟩ (.slice Hu d2 H3) (by show w.heap.size+1+1≠t2;omega);have RB:=hid ((RA.setAt ⟨w.heap.size+1+1,0,none⟩ (.slice (some ⟨gD,0,none⟩) d1 cD) (by show w.heap.size+1+1≠w.heap.size+1;omega)).setAt ⟨w.heap.size+1+1,1,none⟩ (.slice Hu d2 H3) (by show w.heap.size+1+1≠w.heap.size+1;omega));have QB:=hid (QA.set (.slice (some ⟨gD,0,none⟩) d1 cD) (.slice Hu d2 H3));have Jn:=hid QA;clear R1 R2 RA QA;refine cZ 2 ?_;intro K r;go_simp;refine r.out _ _ (Ja _ DA NA) (fun qh=> ?_);clear r K;try simp only [zP]
       clear r0 r1 rf;have r0:=Jn.c0;have r1:=Jn.c1;have rf:=Jn.f;refine cZ 3 ?_;intro K r;go_simp;refine r.out _ _ (Ja _ DB NB) (fun qh=> ?_);clear r K;try simp only [zP]
       refine tZ 4 8 ?_;refine zD ?_;have Jf:=hid bu;clear qh r0 r1 rf DA NA DB NB bu Ja;go_wp2_with fail;have s0:=RB.c0;have s1:=RB.c1;have s2:=QB.c0;have s3:=QB.c1;refine zF (v:=.tuple #[.agg #[.slice (some ⟨gN,0,none⟩) n1 D,.slice Hs n2 Hv],.agg #[.slice (some ⟨gD,0,none⟩) d1 cD,.slice Hu d2 H3],.int .i64 0]) (by simp [results,Tryz.results110,go_sem,s0,s1,s2,s3]) ?_;first|refine⟨some ⟨gN,0,none⟩,D,Hs,Hv,some ⟨gD,0,none⟩,cD,Hu,⟨H3,?_⟩,?_,?_,?_⟩|refine⟨some ⟨gN,0,none⟩,D,Hs,Hv,some ⟨gD,0,none⟩,cD,Hu,H3,?_,?_,?_,?_⟩
       ·obtain⟨z1,z2,z3⟩:=HZ.out;obtain⟨l1,l2,l3,l4⟩:=Lj.out;rw [z1,z2,z3];show _=Ending.returned (.tuple #[.agg #[.slice _ (nxL gn S.l P).length _,.slice _ (nxU S P).length _],.agg #[.slice _ P.length _,.slice _ (dlU gn S.l P).length _],_]);rw [l1,l2,l3,l4]
       ·rw [HZ.1];refine(Jl.below Jf.out).move (by omega) (by simp [World.setCell]) (fun q h1 h2=> ?_);rw [zH _ _ _ _ (by simp;omega),zH _ _ _ _ (by simp;omega),zH _ _ _ _ (by simp;omega),zH _ _ _ _ (by simp;omega)]
       ·rw [HZ.2.1];refine(Jk.below Jf.out).move (by omega) (by simp [World.setCell]) (fun q h1 h2=> ?_);rw [zH _ _ _ _ (by simp;omega),zH _ _ _ _ (by simp;omega),zH _ _ _ _ (by simp;omega),zH _ _ _ _ (by simp;omega)]
       ·exact((((Qab Ky.out Jf.out).setCell (by simp) _).setCell (by simp) _).setCell (by simp;omega) _).setCell (by simp;omega) _
theorem QjG (p q:List ByteArray)(a b:Option Addr)(c d:Nat)(w:World)(y:p.length<=c)(hd:q.length<=d)(hc':c<=9223372036854775807)(hd':d<=9223372036854775807)(h:QaR w a p)(v:QaR w b q):
  Calls Tryz.prog 109 #[.slice a p.length c,.slice b q.length d] w fun e w'=>e=.returned (.bool (yes (p <+:q)))/\∃k,w'=w.drewN k:=by
 by_cases O:p.length<=q.length
 ·have s:decide ((p.length:Int)<=(q.length:Int))=true:=by simp;omega
  have A:decide (p.length<=q.length)=true:=by simp;omega
  have o:(q.take p.length).length=p.length:=by simp;omega
  have t:QaR w b (q.take p.length):=by
   rcases v with v|⟨b,off,rfl,M,y⟩
   ·exact .inl (by omega)
   ·refine .inr ⟨b,off,rfl,M,fun i hi=> ?_⟩;have e:gS (q.take p.length) i=gS q i:=by simp [gS,List.getD,List.getElem?_take_of_lt (show i<p.length by omega)]
    rw [e];exact y i (by omega)
  have u:=hid (QcN p (q.take p.length) a b c d w y (by omega) hc' hd' h t);rw [o] at u;have m:Hid (QaE p (q.take p.length)=0↔p <+:q):=hid (by rw [Qd3];exact⟨fun e=>by rw [e];exact List.take_prefix _ _,fun e=>List.prefix_iff_eq_take.1 e⟩);obtain⟨C,g⟩:∃C,QaE p (q.take p.length)=C:=⟨_,rfl⟩;rw [g] at u m;have Q:(0:Int)<=(p.length:Int):=Int.natCast_nonneg _;have U:(p.length:Int)<=(d:Int):=by omega
  clear h v t g o;go_enter Tryz.func109,Tryz.ntmps109;go_wp2_with fail;refine u.mono ?_;rintro e w1 ⟨rfl,z,rfl⟩;clear u;by_cases j:C=0
  ·have E:(C==0)=true:=by simpa using j
   have r:=hid (Qal (m.1 j));clear j m;go_wp2_with fail;go_ret;exact⟨Qa3 r.symm,z,rfl⟩
  ·have E:(C==0)=false:=by simpa using j
   have r:=hid (Qaj (fun h=>j (m.2 h)));clear j m;go_wp2_with fail;go_ret;exact⟨Qa3 r.symm,z,rfl⟩
 ·have s:decide ((p.length:Int)<=(q.length:Int))=false:=by simp;omega
  have A:decide (p.length<=q.length)=false:=by simp;omega
  have r:Hid (yes (p <+:q)=false):=hid (Qaj (fun e=>O e.length_le));go_enter Tryz.func109,Tryz.ntmps109;go_wp2_with fail;go_ret;exact⟨Qa3 r.symm,0,rfl⟩
structure SOw (w:World)(lo hi:Nat)(a x:Option Addr)(d:Nat)(S:Sx):Prop where
 nc:∀w':World,w.heap.size<=w'.heap.size ->(∀q,lo<=q ->q<hi ->w'.heap[q]? =w.heap[q]?) ->SCt w' a x S
 hl:lo<=hi/\ hi<=w.heap.size
theorem SOw.ct {w:World}{lo hi:Nat}{a x:Option Addr}{d:Nat}{S:Sx}(h:SOw w lo hi a x d S):SCt w a x S:=h.nc w zL (fun _ _ _=>rfl)
open Go.Maps
theorem QlD {w:World}{r1 r2:Nat}{u0 u1 u2 u3:Value}(h1:Bx2 w r1 u0 u1)(h2:Bx2 w r2 u2 u3)(hne:r1≠r2)(v0 v1 v2 v3:Value):Bx2 ((w.setCell ⟨r1,0,none⟩ v0).setCell ⟨r1,1,none⟩ v1) r2 u2 u3/\ Bx2 ((((w.setCell ⟨r1,0,none⟩ v0).setCell ⟨r1,1,none⟩ v1).setCell ⟨r2,0,none⟩ v2).setCell ⟨r2,1,none⟩ v3) r1 v0 v1/\ Bx2 ((((w.setCell ⟨r1,0,none⟩ v0).setCell ⟨r1,1,none⟩ v1).setCell ⟨r2,0,none⟩ v2).setCell ⟨r2,1,none⟩ v3) r2 v2 v3:=
 ⟨(h2.setAt _ _ hne).setAt _ _ hne,((h1.set v0 v1).setAt _ _ (Ne.symm hne)).setAt _ _ (Ne.symm hne),((h2.setAt _ _ hne).setAt _ _ hne).set v2 v3⟩
theorem Qel {w w1:World}{B r1 r2:Nat}(h:Below B w w1)(h1:B<=r1)(h2:B<=r2)(v0 v1 v2 v3:Value):Below B w ((((w1.setCell ⟨r1,0,none⟩ v0).setCell ⟨r1,1,none⟩ v1).setCell ⟨r2,0,none⟩ v2).setCell ⟨r2,1,none⟩ v3):=
 (((h.setCell (p:=⟨r1,0,none⟩) h1 _).setCell (p:=⟨r1,1,none⟩) h1 _).setCell (p:=⟨r2,0,none⟩) h2 _).setCell (p:=⟨r2,1,none⟩) h2 _
theorem Qih {w:World}{r:Nat}{u0 u1 u2 u3:Value}(h1:Bx2 w r u0 u1)(h2:Bx2 w (r+1) u2 u3)(v0 v1 v2 v3:Value):w.cell? ⟨r,0,none⟩=some u0/\ w.cell? ⟨r,1,none⟩=some u1/\ (∀i,w.frozen? ⟨r,i,none⟩=false)/\ ((w.setCell ⟨r,0,none⟩ v0).setCell ⟨r,1,none⟩ v1).cell? ⟨r+1,0,none⟩=some u2/\ ((w.setCell ⟨r,0,none⟩ v0).setCell ⟨r,1,none⟩ v1).cell? ⟨r+1,1,none⟩=some u3/\ (∀i,((w.setCell ⟨r,0,none⟩ v0).setCell ⟨r,1,none⟩ v1).frozen? ⟨r+1,i,none⟩=false)/\ Hid (Bx2 ((((w.setCell ⟨r,0,none⟩ v0).setCell ⟨r,1,none⟩ v1).setCell ⟨r+1,0,none⟩ v2).setCell ⟨r+1,1,none⟩ v3) r v0 v1/\ Bx2 ((((w.setCell ⟨r,0,none⟩ v0).setCell ⟨r,1,none⟩ v1).setCell ⟨r+1,0,none⟩ v2).setCell ⟨r+1,1,none⟩ v3) (r+1) v2 v3):=
 have j:=QlD h1 h2 (show r≠r+1 by omega) v0 v1 v2 v3
 ⟨h1.c0,h1.c1,h1.f,j.1.c0,j.1.c1,j.1.f,hid j.2⟩
theorem Qa9 {w w1:World}(h:Below w.heap.size w w1)(v0 v1 v2 v3:Value):Below w.heap.size w ((((w1.setCell ⟨w.heap.size+1,0,none⟩ v0).setCell ⟨w.heap.size+1,1,none⟩ v1).setCell ⟨w.heap.size+1+1,0,none⟩ v2).setCell ⟨w.heap.size+1+1,1,none⟩ v3):=Qel h (by omega) (by omega) _ _ _ _
theorem QgH {w:World}{lo lo' r1 r2 c:Nat}{a x:Option Addr}{Z:Sx}(h:SNc w lo a c x Z)(hl:lo'<=lo)(h1:r1<lo)(h2:r2<lo)(v0 v1 v2 v3:Value):SNc ((((w.setCell ⟨r1,0,none⟩ v0).setCell ⟨r1,1,none⟩ v1).setCell ⟨r2,0,none⟩ v2).setCell ⟨r2,1,none⟩ v3) lo' a c x Z:=
 h.move hl (by simp [World.setCell]) (fun q k1 k2=>by
  rw [zH _ _ _ _ (by simp;omega),zH _ _ _ _ (by simp;omega),zH _ _ _ _ (by simp;omega),zH _ _ _ _ (by simp;omega)])
theorem Qe3 {w u:World}{lo c:Nat}{a x:Option Addr}{Z:Sx}(h:SNc u lo a c x Z)(hl:w.heap.size+1+1<lo)(v0 v1 v2 v3:Value):SNc ((((u.setCell ⟨w.heap.size+1,0,none⟩ v0).setCell ⟨w.heap.size+1,1,none⟩ v1).setCell ⟨w.heap.size+1+1,0,none⟩ v2).setCell ⟨w.heap.size+1+1,1,none⟩ v3) w.heap.size a c x Z:=QgH h (by omega) (by omega) hl _ _ _ _
theorem Qkm:(Tryz.prog.info? 4).map (fun i=>(i.zero,i.size,i.bytes))=some (some (.bool false),1,1):=by kernel_rfl
def Qla (bs:List Bool):List Value:=bs.map fun b=> .bool b
def BR (w:World)(B:Nat)(v:Value)(bs:List Bool):Prop:=w.ownsRow B 4 1 v bs.length (Qla bs)/\ v≠.slice none 0 0
theorem BR.lt {w:World}{B:Nat}{v:Value}{bs:List Bool}(h:BR w B v bs):∀g,v.ownBlock=some g ->B<=g/\ g<w.heap.size:=fun g e=>World.ownsRow.lt h.1 g e
theorem BR.below {w w1:World}{B:Nat}{v:Value}{bs:List Bool}(h:BR w B v bs)(hb:Below w.heap.size w w1):BR w1 B v bs:=⟨Qaq h.1 (fun g hg=>hb.block g (h.lt g hg).2),h.2⟩
theorem BR.new (w:World):BR (w.alloc (.cells #[] 4)) w.heap.size (.slice (some ⟨w.heap.size,0,none⟩) 0 0) []:=by
 refine⟨?_,fun e=>by cases e⟩;exact World.ownsRow_lit (base:=w.heap.size) (e:=4) (size:=1) w #[] 0 zL (by unfold maxLen;omega) rfl
theorem Qge (B:Nat)(w:World)(v:Value)(bs:List Bool)(b:Bool)(h:BR w B v bs)(hB:B<=w.heap.size)(hl:bs.length<=1048576):
  ∃v' w',(Builtin.append_ #[193,193] 193 #[v,.slice (some ⟨w.heap.size,0,none⟩) 1 1]).run Tryz.prog (w.alloc (.cells #[.bool b] 4))=.ok v' w'/\ BR w' B v' (bs++[b])/\ Below B w w':=by
 obtain⟨t,r,y,z,g⟩:=info_parts Qkm;have m:Below w.heap.size w (w.alloc (.cells #[.bool b] 4)):=zO _ _;have q:=h.below m;obtain⟨v',w',o,i,p,A⟩:=run_append_own (P:=Tryz.prog) (w.alloc (.cells #[.bool b] 4)) B 193 193 4 t (.bool false) 1 1 Tryz.underlying193 r y z g rfl (by decide) v bs.length (Qla bs) q.1 ⟨w.heap.size,0,none⟩ 1 1 (Qla [b]) rfl (fun j u hu=>by
  match j,hu with
  | 0,hu=>simp [Qla] at hu;subst hu;simp [Addr.add]
  | j+1,hu=>simp [Qla] at hu) (fun u hu=>by
   obtain⟨s,_,rfl⟩:=List.mem_map.1 hu;rfl) (by unfold maxLen;omega) (by omega) (by simp;omega)
 refine⟨v',w',o,⟨?_,fun e=>h.2 (A.1 e).1⟩,?_⟩
 ·rw [List.length_append];simpa [Qla] using i
 ·exact(m.mono hB).grown p (by simp;omega) (fun k hk=>(q.lt k hk).1)
theorem BR.cells {w:World}{B:Nat}{v:Value}{bs:List Bool}(h:BR w B v bs):∃g c,v=.slice (some ⟨g,0,none⟩) bs.length c/\ g<w.heap.size/\∀i,i<bs.length ->w.cell? ⟨g,i,none⟩=some (.bool (bs.getD i false)):=by
 rcases h.1.2 with ⟨e,r⟩|⟨g,cap,m,rfl,t,j,u,y,z,k⟩
 ·exact absurd e h.2
 ·refine⟨g,cap,rfl,(Array.getElem?_eq_some_iff.1 j).1,fun i hi=> ?_⟩;have q:w.cell? ⟨g,i,none⟩=(Qla bs)[i]? :=by
   rw [<- k,Nat.mul_one,List.getElem?_take_of_lt hi];simp [World.cell?,j]
  rw [q];simp [Qla,List.getD,hi]
noncomputable def gnB (gn:Lf ->Prop)(l:List Lf)(k:Nat):List Bool:=(l.take k).map fun x=>yes (gn x)
theorem QeT {gn:Lf ->Prop}{l:List Lf}{k:Nat}(h:k<l.length):gnB gn l (k+1)=gnB gn l k++[yes (gn (gL l k))]:=by
 unfold gnB;rw [QbL h,List.map_append];rfl
theorem QcP (gn:Lf ->Prop)(l:List Lf):(gnB gn l l.length).length=l.length:=by simp [gnB]
theorem QiL {gn:Lf ->Prop}{l:List Lf}{i:Nat}(h:i<l.length):(gnB gn l l.length).getD i false=yes (gn (gL l i)):=by
 simp [gnB,List.getD,h,gL]
theorem QiM (gn:Lf ->Prop)(l:List Lf)(k:Nat):(gnB gn l k).length<=l.length:=by simp [gnB,List.length_take];omega
theorem Qic (a:Option Addr)(c:Nat)(xa:Option Addr)(d:Nat)(pa:Option Addr)(pc:Nat)(S:Sx)(p:List ByteArray)(w:World)(hm:S.Sm)(P:Qef w a S.l)(h3:Qb3 w xa S.n S.R S.F S.T)(hp:p.length<=1048576)(hpc:p.length<=pc/\ pc<=9223372036854775807)(hseg:QaR w pa p):
  Calls Tryz.prog 84 #[.agg #[.slice a S.l.length c,.slice xa S.n d],.slice pa p.length pc] w fun e w'=>∃a m x t a' m' x' t',e=.returned (.tuple #[.agg #[.slice a (rmX S p).l.length m,.slice x (rmX S p).n t],.agg #[.slice a' (rmY S p).l.length m',.slice x' (rmY S p).n t'],.int .i64 (rmC S p)])/\ SNc w' w.heap.size a m x (rmX S p)/\ SNc w' w.heap.size a' m' x' (rmY S p)/\ Below w.heap.size w w':=by
 obtain⟨W,E⟩:∃W,((w.alloc (.cells #[.slice a S.l.length c,.slice xa S.n d] 28)).alloc (.cells #[.slice none 0 0,.slice none 0 0] 28)).alloc (.cells #[.slice none 0 0,.slice none 0 0] 28)=W:=⟨_,rfl⟩;have C:Below w.heap.size w W:=by rw [<- E];exact(Qak _ _ _).alloc (by simp;omega) _
 have zW:W.heap.size=w.heap.size+3:=by rw [<- E];simp
 have V:Bx2 W w.heap.size (.slice a S.l.length c) (.slice xa S.n d):=by rw [<- E];exact((Bx2.made w _ _ _).allocs _).allocs _
 have R0:Bx2 W (w.heap.size+1) (.slice none 0 0) (.slice none 0 0):=by
  rw [<- E];have:=Bx2.made (w.alloc (.cells #[.slice a S.l.length c,.slice xa S.n d] 28)) (.slice none 0 0) (.slice none 0 0) 28;exact(by simpa using this:Bx2 _ (w.heap.size+1) _ _).allocs _
 have Q0:Bx2 W (w.heap.size+1+1) (.slice none 0 0) (.slice none 0 0):=by
  rw [<- E];simpa using Bx2.made ((w.alloc (.cells #[.slice a S.l.length c,.slice xa S.n d] 28)).alloc (.cells #[.slice none 0 0,.slice none 0 0] 28)) (.slice none 0 0) (.slice none 0 0) 28
 have Hx:=hid V;have H9:=hid R0;have H8:=hid Q0;have Gh:=hid C;have Gn:=hid zW;have k0:=V.c0;have k1:=V.c1;have K:=hid (Qbt a c S.l xa S.n d S.R S.F S.T W hm.l1 hm.p1 hm.n1 (P.below C) (h3.below C));change Hid (Calls _ _ _ _ fun e w'=>e=.returned (.bool (stB S))/\ _) at K;have H1:=hid P;have H3:=hid h3;have Ga:=hid hseg;have H7:=hid hpc;obtain⟨B,hB⟩:∃B,stB S=B:=⟨_,rfl⟩;have L:=hid hB;rw [hB] at K;clear C zW V R0 Q0 P h3 hseg hB hpc;go_enter Tryz.func84,Tryz.ntmps84;go_wp2_with fail;try rw [E]
 clear E;refine K.mono ?_;rintro e w1 ⟨rfl,O⟩;have q:=hid (Qab Gh.out O);have b:=hid (H9.below O H9.lt);have s:=hid (H8.below O H8.lt);have Hy:=hid (Hx.below O Hx.lt);have Gl:Hid (w.heap.size+3<=w1.heap.size):=hid (by have:=Gn.out;have:=O.size;omega);clear O k0 k1 K;cases B with
 | false=>
  have A:Hid (rmX S p=Sx.mt/\ rmY S p=Sx.mt/\ rmC S p=1):=hid (by
   have e:=Qm8 (p:=p) (v:=⟨#[]⟩) L.out;have:=QoN (S:=S) (p:=p) (by rw [e];decide);rw [e] at this;exact this)
  obtain⟨r0,r1,rf,q0,q1,qf,U⟩:=Qih b.out s.out (.slice none 0 0) (.slice none 0 0) (.slice none 0 0) (.slice none 0 0);go_wp2_with fail;obtain⟨y,z⟩:=U.out;refine zF (v:=.tuple #[.agg #[.slice none 0 0,.slice none 0 0],.agg #[.slice none 0 0,.slice none 0 0],.int .i64 1]) (by simp [results,Tryz.results84,go_sem,y.c0,y.c1,z.c0,z.c1]) ?_;rw [A.1,A.2.1,A.2.2];first
   | exact⟨none,0,none,0,none,0,none,0,rfl,SNc.mt _ _ _ _,SNc.mt _ _ _ _,Qa9 q.out _ _ _ _⟩
   | exact⟨none,0,none,0,none,0,none,⟨0,rfl⟩,SNc.mt _ _ _ _,SNc.mt _ _ _ _,Qa9 q.out _ _ _ _⟩
 | true=>
  have Hn:=hid (Qfg p pa pc w1 hp (Ga.below q.out));obtain⟨Z,hZ⟩:∃Z,yes (QaQ p)=Z:=⟨_,rfl⟩;rw [hZ] at Hn;have Gb:=hid hZ;clear hZ;go_wp2_with fail;refine Hn.mono ?_;rintro e j ⟨rfl,rfl⟩;clear Hn;cases Z with
  | false=>
   have A:Hid (rmX S p=Sx.mt/\ rmY S p=Sx.mt/\ rmC S p=2):=hid (by
    have e:=Qkz (p:=p) (v:=⟨#[]⟩) L.out (fun h=>by have:=Gb.out;rw [Qal h.1] at this;cases this);have:=QoN (S:=S) (p:=p) (by rw [e];decide);rw [e] at this;exact this)
   obtain⟨r0,r1,rf,q0,q1,qf,U⟩:=Qih b.out s.out (.slice none 0 0) (.slice none 0 0) (.slice none 0 0) (.slice none 0 0);go_wp2_with fail;obtain⟨y,z⟩:=U.out;refine zF (v:=.tuple #[.agg #[.slice none 0 0,.slice none 0 0],.agg #[.slice none 0 0,.slice none 0 0],.int .i64 2]) (by simp [results,Tryz.results84,go_sem,y.c0,y.c1,z.c0,z.c1]) ?_;rw [A.1,A.2.1,A.2.2];first
    | exact⟨none,0,none,0,none,0,none,0,rfl,SNc.mt _ _ _ _,SNc.mt _ _ _ _,Qa9 q.out _ _ _ _⟩
    | exact⟨none,0,none,0,none,0,none,⟨0,rfl⟩,SNc.mt _ _ _ _,SNc.mt _ _ _ _,Qa9 q.out _ _ _ _⟩
  | true=>
   have Gg:=QbP.1 Gb.out;have hs:=Qid L.out;have Gk:=hid hs;have Ho:=hid (QoY (S:=S) (p:=p) (QnC L.out ⟨Gg,by decide⟩));obtain⟨w3,Hg⟩:∃w3,j.alloc (.cells #[] 4)=w3:=⟨_,rfl⟩;have b3:Below j.heap.size j w3:=by rw [<- Hg];exact zO _ _
   have H4:Hid (BR w3 j.heap.size (.slice (some ⟨j.heap.size,0,none⟩) 0 0) (gnB (gnR p) S.l 0)):=hid (by rw [<- Hg];exact BR.new _);have Hz:=hid b3;have Gp:S.l.length<=1000:=hs.2.1;have Go:=hid (And.intro (Nat.le_refl j.heap.size) b3.size);clear Gg hs b3;go_wp2_with fail;try rw [Hg]
   clear Hg;go_loopw [7,8] (fun o i wr=>∃k:Nat,k<=S.l.length/\ i=.int .i64 k/\ Hid (Below j.heap.size j wr)/\ Hid (BR wr j.heap.size o (gnB (gnR p) S.l k))) (fun _ i _=>S.l.length - (intOf i).toNat);case atStart=>exact⟨0,Nat.zero_le _,rfl,Hz,H4⟩
   case round=>
    clear Hz H4;obtain⟨k,hk,rfl,Q,J⟩:=hrel;have I:=hid (Qab q.out Q.out);have G:=Hy.below Q.out Hy.lt;have k0:=G.c0;have k1:=G.c1;by_cases Hu:k<S.l.length
    ·have i1:(0:Int)<=(k:Int):=Int.natCast_nonneg _;have i2:(k:Int)<(S.l.length:Int):=by omega
     obtain⟨ab,ao,rfl,Gc,Ge⟩:=(H1.out).resolve_left (by omega);obtain⟨qa,qc,⟨r,Hc⟩,sg,u,c2,c3,c4⟩:=Ge k Hu;have x0:=(I.cell (p:=⟨ab,ao+k*5,none⟩) Gc).trans r;have N:=hid (QjG p (gL S.l k).p pa qa pc qc wr H7.1 Hc.1 H7.2 Hc.2 (Ga.below I.out) (sg.below I.out));have Ha:Hid (gnB (gnR p) S.l (k+1)=gnB (gnR p) S.l k++[yes (p <+:(gL S.l k).p)]):=hid (QeT Hu);obtain⟨bb,Gd⟩:∃bb,yes (p <+:(gL S.l k).p)=bb:=⟨_,rfl⟩;obtain⟨lp,Gf⟩:∃lp,(gL S.l k).p.length=lp:=⟨_,rfl⟩;rw [Gd] at N Ha;rw [Gf] at N x0;clear Gd Gf Ge sg r u c2 c3 c4 Hc Gc G;go_wp2_with fail;refine N.mono ?_;rintro e w4 ⟨rfl,dn,Hv⟩;have H0:Hid (Below j.heap.size j w4):=hid (by rw [Hv];exact Qaz Q.out dn);have o4:BR w4 j.heap.size u7 (gnB (gnR p) S.l k):=by rw [Hv];exact J.below (Qaz zI dn)
     obtain⟨v5,M,Hf,o5,g⟩:=Qge j.heap.size w4 u7 (gnB (gnR p) S.l k) bb o4 H0.size (by have:=QiM (gnR p) S.l k;omega);have Gi:=hid (H0.trans g);have Gj:Hid (BR M j.heap.size v5 (gnB (gnR p) S.l (k+1))):=hid (by rw [Ha.out];exact o5);clear N Hv o4 o5 g Ha x0 k0 k1 J;go_wp2_with (at_builtin;refine Qaa rfl _ _ _ _ rfl Hf (by rfl) (by rfl) rfl ?_;clear Hf);go_roundw;case rel=>exact⟨k+1,Hu,by go_num,Gi,Gj⟩
     case measure=>simp [intOf];omega
    ·obtain rfl:k=S.l.length:=by omega
     obtain⟨gg,gc,hv,Ht,Hs⟩:=J.cells;subst hv;rw [QcP];rw [QcP] at Hs;obtain⟨M,Hw⟩:∃M,wr.alloc (.cells #[] 69)=M:=⟨_,rfl⟩;have g:Below wr.heap.size wr M:=by rw [<- Hw];exact zO _ _
     have Hp:=Qab Q.out g;have Hq:=Qab I.out g;have Hm:=hid (QdK (gnR p) [] a c xa d gg gc (some ⟨wr.heap.size,0,none⟩) 0 S M Gk.out (PtO.nil S) (H1.below Hq) (H3.below Hq) (Nat.lt_of_lt_of_le Ht g.size) (fun i hi=>by
      rw [<- QiL hi];exact(g.cell (p:=⟨gg,i,none⟩) Ht).trans (Hs i hi)) (.inl rfl))
     obtain⟨X,hX⟩:∃X,chX S (dlS (gnR p) S.l [])=X:=⟨_,rfl⟩;obtain⟨Y,hY⟩:∃Y,chY S (dlS (gnR p) S.l [])=Y:=⟨_,rfl⟩;obtain⟨H,Hr⟩:∃H,chC S (dlS (gnR p) S.l [])=H:=⟨_,rfl⟩;rw [hX,hY,Hr] at Hm;have Hb:Hid (rmX S p=X/\ rmY S p=Y/\ rmC S p=H):=hid ⟨Ho.1.trans hX,Ho.2.1.trans hY,Ho.2.2.trans Hr⟩;have Hl:=hid Hp;have Gm:Hid (w.heap.size+3<=M.heap.size):=hid (by have P:=Gl.out;have h2:=Hp.size;omega);clear hX hY Hr Ht Hs g Hp Hq J Q G;go_wp2_with fail;try rw [Hw]
     clear Hw;refine Hm.mono ?_;rintro e w4 ⟨ra,rc,rx,rd,Hh,Hi,Hk,Hj,rfl,ox,oy,b4⟩;have D:=Qab Hl.out b4;have Hd:=hid (b.below D b.lt);have He:=hid (s.below D s.lt);have H2:=hid (Qab q.out D);have H5:=hid ox;have H6:=hid oy;clear b4 D ox oy Hm k0 k1 b s q;have b:=Hd;have s:=He;have q:=H2;clear Hd He H2;obtain⟨r0,r1,rf,q0,q1,qf,U⟩:=Qih b.out s.out (.slice ra X.l.length rc) (.slice rx X.n rd) (.slice Hh Y.l.length Hi) (.slice Hk Y.n Hj);go_wp2_with fail;obtain⟨y,z⟩:=U.out;refine zF (v:=.tuple #[.agg #[.slice ra X.l.length rc,.slice rx X.n rd],.agg #[.slice Hh Y.l.length Hi,.slice Hk Y.n Hj],.int .i64 H]) (by simp [results,Tryz.results84,go_sem,y.c0,y.c1,z.c0,z.c1]) ?_;have hz:=Gm.out;rw [Hb.1,Hb.2.1,Hb.2.2];first
      | exact⟨ra,rc,rx,rd,Hh,Hi,Hk,Hj,rfl,Qe3 H5.out (by omega) _ _ _ _,Qe3 H6.out (by omega) _ _ _ _,Qa9 q.out _ _ _ _⟩
      | exact⟨ra,rc,rx,rd,Hh,Hi,Hk,⟨Hj,rfl⟩,Qe3 H5.out (by omega) _ _ _ _,Qe3 H6.out (by omega) _ _ _ _,Qa9 q.out _ _ _ _⟩
def seP (S:Sx)(rep:Int)(p:List ByteArray)(fl on:Bool)(v:ByteArray):List Lf:=if on then [nxY S rep p fl v] else []
def Ql3 (S:Sx)(rep:Int)(on:Bool):Prop:=(0<=rep/\ rep<8)/\ (on=true ->Qbj S.R S.T rep S.n+1<=1000000000)
noncomputable def seD (S:Sx)(rep:Int)(p:List ByteArray)(fl on:Bool)(v:ByteArray):Sx:=dlS (gnS p fl) S.l (seP S rep p fl on v)
noncomputable def seC (S:Sx)(rep:Int)(p:List ByteArray)(fl on:Bool)(v:ByteArray):Int:=if ocC S p v=0 then(if yes (Ql3 S rep on)=true then chC S (seD S rep p fl on v) else 3) else ocC S p v
noncomputable def seX (S:Sx)(rep:Int)(p:List ByteArray)(fl on:Bool)(v:ByteArray):Sx:=if ocC S p v=0 then(if yes (Ql3 S rep on)=true then chX S (seD S rep p fl on v) else Sx.mt) else Sx.mt
noncomputable def seY (S:Sx)(rep:Int)(p:List ByteArray)(fl on:Bool)(v:ByteArray):Sx:=if ocC S p v=0 then(if yes (Ql3 S rep on)=true then chY S (seD S rep p fl on v) else Sx.mt) else Sx.mt
section
variable {S : Sx} {rep : Int} {p : List ByteArray} {fl on : Bool} {v : ByteArray}
theorem Qol (h:ocC S p v≠0):seX S rep p fl on v=Sx.mt/\ seY S rep p fl on v=Sx.mt/\ seC S rep p fl on v=ocC S p v:=by unfold seX seY seC;rw [if_neg h,if_neg h,if_neg h];exact⟨rfl,rfl,rfl⟩
theorem QoZ (h:ocC S p v=0)(hn:¬Ql3 S rep on):seX S rep p fl on v=Sx.mt/\ seY S rep p fl on v=Sx.mt/\ seC S rep p fl on v=3:=by unfold seX seY seC;rw [if_pos h,if_pos h,if_pos h,Qaj hn];exact⟨rfl,rfl,rfl⟩
theorem Qpa (h:ocC S p v=0)(hn:Ql3 S rep on):seX S rep p fl on v=chX S (seD S rep p fl on v)/\ seY S rep p fl on v=chY S (seD S rep p fl on v)/\ seC S rep p fl on v=chC S (seD S rep p fl on v):=by unfold seX seY seC;rw [if_pos h,if_pos h,if_pos h,Qal hn];exact⟨rfl,rfl,rfl⟩
theorem QnQ (hs:Qbe S.R S.F S.T S.n S.l)(hp:QaQ p)(hv:v.size<=200)(hf:fl=true ->emB v=true)(h:Ql3 S rep on):PtO S (seP S rep p fl on v):=by
 unfold seP;cases on with
 | true=>exact Qlx hs hp hv hf ⟨h.1,h.2 rfl⟩
 | false=>exact PtO.nil S
theorem Qky (hs:Qbe S.R S.F S.T S.n S.l):Qcd S.R S.F S.T rep S.n=yes (QnA S rep):=by
 have j:=QgO hs.1 rep;have e:Qcd S.R S.F S.T rep S.n=QaJ rep (Qbj S.R S.T rep S.n+1) (Qbj S.R S.T rep S.n+1):=by unfold Qcd;rw [hs.1];rfl
 rw [e];by_cases h:QnA S rep
 ·rw [Qal h];exact QbC ⟨h.1.1,h.1.2,by omega,by omega,h.2⟩
 ·rw [Qaj h];exact Qa6 (fun hh=>h ⟨⟨hh.1,hh.2.1⟩,by omega⟩)
end
theorem Qkv (B:Nat)(w:World)(g0:Nat)(pa:Option Addr)(m pc:Nat)(fl:Bool)(r q:Int)(v:ByteArray)(h:w.ownsRow B 69 5 (.slice (some ⟨g0,0,none⟩) 0 0) 0 [])(hB:B<=w.heap.size):
  ∃g c w',(Builtin.append_ #[23,23] 23 #[.slice (some ⟨g0,0,none⟩) 0 0,.slice (some ⟨w.heap.size,0,none⟩) 1 1]).run Tryz.prog (w.alloc (.cells #[.slice pa m pc,.bool fl,.int .i64 r,.int .i64 q,.string v] 69))=.ok (.slice (some ⟨g,0,none⟩) 1 c) w'/\ Below B w w'/\ g<w'.heap.size/\ w'.cell? ⟨g,0,none⟩=some (.slice pa m pc)/\ w'.cell? ⟨g,1,none⟩=some (.bool fl)/\ w'.cell? ⟨g,2,none⟩=some (.int .i64 r)/\ w'.cell? ⟨g,3,none⟩=some (.int .i64 q)/\ w'.cell? ⟨g,4,none⟩=some (.string v):=by
 obtain⟨Z,O,U,V,Y⟩:=info_parts Qdq;have o:Below w.heap.size w (w.alloc (.cells #[.slice pa m pc,.bool fl,.int .i64 r,.int .i64 q,.string v] 69)):=zO _ _;have t:=World.ownsRow.alloc h (.cells #[.slice pa m pc,.bool fl,.int .i64 r,.int .i64 q,.string v] 69);have p:=Qc7 w (.slice pa m pc) (.bool fl) (.int .i64 r) (.int .i64 q) (.string v) 69;obtain⟨z,b⟩:∃z,w.alloc (.cells #[.slice pa m pc,.bool fl,.int .i64 r,.int .i64 q,.string v] 69)=z:=⟨_,rfl⟩;rw [b] at t p o ⊢;have L:z.heap.size=w.heap.size+1:=by rw [<- b];simp
 obtain⟨v',A,Q,i,E,H,I⟩:=run_append_own_at (P:=Tryz.prog) z B 23 23 69 Z _ 5 64 Tryz.underlying23 O U V Y rfl (by decide) (.slice (some ⟨g0,0,none⟩) 0 0) 0 [] t ⟨w.heap.size,0,none⟩ 1 1 [.slice pa m pc,.bool fl,.int .i64 r,.int .i64 q,.string v] rfl p (fun u hu=>by
  simp only [List.mem_cons,List.not_mem_nil,or_false] at hu;rcases hu with e|e|e|e|e<;>rw [e]<;>rfl) (by unfold maxLen;omega) (by omega) (by omega)
 rcases i.2 with ⟨s,J⟩|⟨g,cap,G,s,K,M,r1,r2,N,X⟩
 ·omega
 subst s;have y:∀j,j<5 ->A.cell? ⟨g,j,none⟩=([.slice pa m pc,.bool fl,.int .i64 r,.int .i64 q,.string v]:List Value)[j]? :=fun j hj=>World.ownsRow.cellAt i j (by omega);refine⟨g,cap,A,Q,?_,(Array.getElem?_eq_some_iff.1 M).1,y 0 (by omega),y 1 (by omega),y 2 (by omega),y 3 (by omega),y 4 (by omega)⟩;exact(o.mono hB).grown E (by omega) (fun k hk=>(World.ownsRow.lt t k hk).1)
theorem Qls (a:Option Addr)(c:Nat)(xa:Option Addr)(d:Nat)(pa:Option Addr)(pc:Nat)(S:Sx)(rep:Int)(p:List ByteArray)(fl on:Bool)(v:ByteArray)(w:World)(hm:S.Sm)(hT:I64 S.T)(h1:Qef w a S.l)(h3:Qb3 w xa S.n S.R S.F S.T)(hp:p.length<=1048576)(hpc:p.length<=pc/\ pc<=9223372036854775807)(hseg:QaR w pa p)(hv:v.size<=1048576)(hfv:fl=true ->emB v=true):
  Calls Tryz.prog 108 #[.agg #[.slice a S.l.length c,.slice xa S.n d],.int .i64 rep,.slice pa p.length pc,.bool fl,.bool on,.string v] w fun e w'=>∃a m x t a' m' x' t',e=.returned (.tuple #[.agg #[.slice a (seX S rep p fl on v).l.length m,.slice x (seX S rep p fl on v).n t],.agg #[.slice a' (seY S rep p fl on v).l.length m',.slice x' (seY S rep p fl on v).n t'],.int .i64 (seC S rep p fl on v)])/\ SNc w' w.heap.size a m x (seX S rep p fl on v)/\ SNc w' w.heap.size a' m' x' (seY S rep p fl on v)/\ Below w.heap.size w w':=by
 obtain⟨W,hW⟩:∃W,((w.alloc (.cells #[.slice a S.l.length c,.slice xa S.n d] 28)).alloc (.cells #[.slice none 0 0,.slice none 0 0] 28)).alloc (.cells #[.slice none 0 0,.slice none 0 0] 28)=W:=⟨_,rfl⟩;have b0:Below w.heap.size w W:=by rw [<- hW];exact(Qak _ _ _).alloc (by simp;omega) _
 have zW:W.heap.size=w.heap.size+3:=by rw [<- hW];simp
 have A0:Bx2 W w.heap.size (.slice a S.l.length c) (.slice xa S.n d):=by rw [<- hW];exact((Bx2.made w _ _ _).allocs _).allocs _
 have R0:Bx2 W (w.heap.size+1) (.slice none 0 0) (.slice none 0 0):=by
  rw [<- hW];have:=Bx2.made (w.alloc (.cells #[.slice a S.l.length c,.slice xa S.n d] 28)) (.slice none 0 0) (.slice none 0 0) 28;exact(by simpa using this:Bx2 _ (w.heap.size+1) _ _).allocs _
 have Q0:Bx2 W (w.heap.size+1+1) (.slice none 0 0) (.slice none 0 0):=by
  rw [<- hW];simpa using Bx2.made ((w.alloc (.cells #[.slice a S.l.length c,.slice xa S.n d] 28)).alloc (.cells #[.slice none 0 0,.slice none 0 0] 28)) (.slice none 0 0) (.slice none 0 0) 28
 have Gq:=hid A0;have Gt:=hid R0;have Gs:=hid Q0;have G6:=hid b0;have Kd:=hid zW;have k0:=A0.c0;have k1:=A0.c1;have Gg:=hid (Qbt a c S.l xa S.n d S.R S.F S.T W hm.l1 hm.p1 hm.n1 (h1.below b0) (h3.below b0));change Hid (Calls _ _ _ _ fun e w'=>e=.returned (.bool (stB S))/\ _) at Gg;have H1:=hid h1;have H3:=hid h3;have Gh:=hid hseg;have Gb:=hid hpc;have G8:=hid hfv;have G9:=hid hm.n1;obtain⟨B,hB⟩:∃B,stB S=B:=⟨_,rfl⟩;have Gc:=hid hB;rw [hB] at Gg;clear b0 zW A0 R0 Q0 h1 h3 hseg hB hpc hfv;go_enter Tryz.func108,Tryz.ntmps108;go_wp2_with fail;try rw [hW]
 clear hW;refine Gg.mono ?_;rintro e w1 ⟨rfl,b1⟩;have j:=hid (Qab G6.out b1);have g:=hid (Gt.below b1 Gt.lt);have b:=hid (Gs.below b1 Gs.lt);have H4:=hid (Gq.below b1 Gq.lt);have Gv:Hid (w.heap.size+3<=w1.heap.size):=hid (by have:=Kd.out;have:=b1.size;omega);clear b1 k0 k1 Gg;cases B with
 | false=>
  have U:Hid (seX S rep p fl on v=Sx.mt/\ seY S rep p fl on v=Sx.mt/\ seC S rep p fl on v=1):=hid (by
   have e:=Qm8 (p:=p) (v:=v) Gc.out;have:=Qol (S:=S) (rep:=rep) (p:=p) (fl:=fl) (on:=on) (v:=v) (by rw [e];decide);rw [e] at this;exact this)
  obtain⟨r0,r1,rf,q0,q1,qf,P⟩:=Qih g.out b.out (.slice none 0 0) (.slice none 0 0) (.slice none 0 0) (.slice none 0 0);go_wp2_with fail;obtain⟨E,M⟩:=P.out;refine zF (v:=.tuple #[.agg #[.slice none 0 0,.slice none 0 0],.agg #[.slice none 0 0,.slice none 0 0],.int .i64 1]) (by simp [results,Tryz.results108,go_sem,E.c0,E.c1,M.c0,M.c1]) ?_;rw [U.1,U.2.1,U.2.2];first
   | exact⟨none,0,none,0,none,0,none,0,rfl,SNc.mt _ _ _ _,SNc.mt _ _ _ _,Qa9 j.out _ _ _ _⟩
   | exact⟨none,0,none,0,none,0,none,⟨0,rfl⟩,SNc.mt _ _ _ _,SNc.mt _ _ _ _,Qa9 j.out _ _ _ _⟩
 | true=>
  have Gk:=hid (Qfg p pa pc w1 hp (Gh.below j.out));obtain⟨Z,hZ⟩:∃Z,yes (QaQ p)=Z:=⟨_,rfl⟩;rw [hZ] at Gk;have Gw:=hid hZ;clear hZ;go_wp2_with fail;refine Gk.mono ?_;rintro e w2 ⟨rfl,rfl⟩;clear Gk;cases Z with
  | false=>
   have U:Hid (seX S rep p fl on v=Sx.mt/\ seY S rep p fl on v=Sx.mt/\ seC S rep p fl on v=2):=hid (by
    have e:=Qkz (p:=p) (v:=v) Gc.out (fun h=>by have:=Gw.out;rw [Qal h.1] at this;cases this);have:=Qol (S:=S) (rep:=rep) (p:=p) (fl:=fl) (on:=on) (v:=v) (by rw [e];decide);rw [e] at this;exact this)
   obtain⟨r0,r1,rf,q0,q1,qf,P⟩:=Qih g.out b.out (.slice none 0 0) (.slice none 0 0) (.slice none 0 0) (.slice none 0 0);go_wp2_with fail;obtain⟨E,M⟩:=P.out;refine zF (v:=.tuple #[.agg #[.slice none 0 0,.slice none 0 0],.agg #[.slice none 0 0,.slice none 0 0],.int .i64 2]) (by simp [results,Tryz.results108,go_sem,E.c0,E.c1,M.c0,M.c1]) ?_;rw [U.1,U.2.1,U.2.2];first
    | exact⟨none,0,none,0,none,0,none,0,rfl,SNc.mt _ _ _ _,SNc.mt _ _ _ _,Qa9 j.out _ _ _ _⟩
    | exact⟨none,0,none,0,none,0,none,⟨0,rfl⟩,SNc.mt _ _ _ _,SNc.mt _ _ _ _,Qa9 j.out _ _ _ _⟩
  | true=>
   by_cases Gf:v.size<=200
   ·have i0:¬(v.size:Int)>200:=by omega
    have Go:=QbP.1 Gw.out;have hs:=Qid Gc.out;have Gl:=hid hs;have Ka:=hid Go;have Kc:=hid Gf;have Gr:=hid (QnC (p:=p) (v:=v) Gc.out ⟨Go,Gf⟩);have Gj:=hid (QkD xa S.n d S.R S.F S.T rep w2 G9.out (H3.below j.out) hT);rw [Qky hs] at Gj;have l1:=H4.c1;have Kf:S.l.length<=1000:=hs.2.1;clear Go hs Gf;go_wp2_with fail;refine Gj.mono ?_;rintro e w3 ⟨hy,G0,b3⟩;clear Gj l1;obtain⟨J,dq,ok,he,G1,Gy⟩:∃J dq ok,e=.returned (.tuple #[.agg #[.int .i64 J,.int .i64 dq],.bool ok])/\ ok=yes (QnA S rep)/\ (ok=true ->J=rep/\ dq=Qbj S.R S.T rep S.n+1):=by
     cases hk:yes (QnA S rep) with
     | true=>exact⟨rep,Qbj S.R S.T rep S.n+1,true,hy hk,rfl,fun _=>⟨rfl,rfl⟩⟩
     | false=>exact⟨0,0,false,G0 hk,rfl,fun h=>by cases h⟩
    clear hy G0;subst he;have H8:=hid G1;have G7:=hid Gy;clear G1 Gy;obtain⟨q,Ho⟩:∃q,w3.alloc (.cells #[.int .i64 J,.int .i64 dq] 67)=q:=⟨_,rfl⟩;have b4:Below w3.heap.size w3 q:=by rw [<- Ho];exact zO _ _
    have Hv:Hid (Bx2 q w3.heap.size (.int .i64 J) (.int .i64 dq)):=hid (by rw [<- Ho];exact Bx2.made _ _ _ _);have V:=hid (Qab b3 b4);clear b3 b4;by_cases D:Ql3 S rep on
    ·have Ke:=hid D;have G2:0<=rep:=D.1.1;have G3:rep<8:=D.1.2;have G4:¬rep<0:=by omega
     have G5:¬8<=rep:=by omega
     have Gx:=hid (Qpa (S:=S) (rep:=rep) (p:=p) (fl:=fl) (on:=on) (v:=v) Gr.out D);cases on with
     | true=>
      obtain rfl:ok=true:=by rw [H8.out];exact Qal ⟨D.1,D.2 rfl⟩
      obtain⟨e1,e2⟩:=G7 rfl;subst e1;have Gu:Hid (nxY S J p fl v=⟨p,fl,J,dq,v⟩):=hid (by unfold nxY;rw [<- e2]);have Gm:Hid (seD S J p fl true v=dlS (gnS p fl) S.l [⟨p,fl,J,dq,v⟩]):=hid (by unfold seD seP;rw [if_pos rfl,Gu.out]);have Kb:Hid (PtO S [⟨p,fl,J,dq,v⟩]):=hid (by rw [<- Gu.out];exact Qlx Gl.out Ka.out Kc.out G8.out ⟨D.1,D.2 rfl⟩);clear D e2;have L:=hid (H4.below V.out H4.lt);have Gi:=hid (Qab j.out V.out);obtain⟨O,N⟩:∃O,q.alloc (.cells #[] 4)=O:=⟨_,rfl⟩;have b5:Below q.heap.size q O:=by rw [<- N];exact zO _ _
      have H7:Hid (BR O q.heap.size (.slice (some ⟨q.heap.size,0,none⟩) 0 0) (gnB (gnS p fl) S.l 0)):=hid (by rw [<- N];exact BR.new _);have H5:=hid b5;clear b5;go_wp2_with fail;try rw [Ho]
      try rw [N]
      clear N Ho;go_loopw [17,18] (fun o i wr=>∃k:Nat,k<=S.l.length/\ i=.int .i64 k/\ Hid (Below q.heap.size q wr)/\ Hid (BR wr q.heap.size o (gnB (gnS p fl) S.l k))) (fun _ i _=>S.l.length - (intOf i).toNat);case atStart=>exact⟨0,Nat.zero_le _,rfl,H5,H7⟩
      case round=>
       clear H5 H7;obtain⟨k,hk,rfl,G,HO⟩:=hrel;have Hi:=hid (Qab Gi.out G.out);have A1:=L.below G.out L.lt;have k0:=A1.c0;have k1:=A1.c1;by_cases Hf:k<S.l.length
       ·have i1:(0:Int)<=(k:Int):=Int.natCast_nonneg _;have i2:(k:Int)<(S.l.length:Int):=by omega
        obtain⟨ab,ao,rfl,Hz,Gd⟩:=(H1.out).resolve_left (by omega);obtain⟨qa,qc,⟨u,He⟩,sg,s,c2,c3,c4⟩:=Gd k Hf;have x0:=(Hi.cell (p:=⟨ab,ao+k*5,none⟩) Hz).trans u;have x1:=(Hi.cell (p:=⟨ab,ao+k*5+1,none⟩) Hz).trans s;have HC:=hid (QcN (gL S.l k).p p qa pa qc pc wr He.1 Gb.1 He.2 Gb.2 (sg.below Hi.out) (Gh.below Hi.out));have Hh:Hid (QaE (gL S.l k).p p=0↔(gL S.l k).p=p):=hid Qd3;have Ha:Hid (gnB (gnS p fl) S.l (k+1)=gnB (gnS p fl) S.l k++[yes ((gL S.l k).p=p/\ (gL S.l k).fl=fl)]):=hid (QeT Hf);obtain⟨y,hy⟩:∃y,gL S.l k=y:=⟨_,rfl⟩;rw [hy] at x0 x1 HC Hh Ha;obtain⟨lp,yf,yr,yq,yv⟩:=y;dsimp only at x0 x1 HC Hh Ha;obtain⟨C,hC⟩:∃C,QaE lp p=C:=⟨_,rfl⟩;rw [hC] at Hh HC;clear hC hy Gd sg u s c2 c3 c4 He Hz A1;go_wp2_with fail;refine HC.mono ?_;rintro e w6 ⟨rfl,dn,Hl⟩;have H6:Hid (Below q.heap.size q w6):=hid (by rw [Hl];exact Qaz G.out dn);have o6:BR w6 q.heap.size u17 (gnB (gnS p fl) S.l k):=by rw [Hl];exact HO.below (Qaz zI dn)
        have y1:w6.cell? ⟨ab,ao+k*5+1,none⟩=some (.bool yf):=by rw [Hl];simpa using x1
        have m0:w6.cell? ⟨w.heap.size,0,none⟩=some (.slice (some ⟨ab,ao,none⟩) S.l.length c):=by rw [Hl];simpa using k0
        have Q:Hid (∀bb,yes (lp=p/\ yf=fl)=bb ->∃K A,(Builtin.append_ #[193,193] 193 #[u17,.slice (some ⟨w6.heap.size,0,none⟩) 1 1]).run Tryz.prog (w6.alloc (.cells #[.bool bb] 4))=.ok K A/\ BR A q.heap.size K (gnB (gnS p fl) S.l (k+1))/\ Below q.heap.size q A):=hid (fun bb hbb=>by
         obtain⟨K,A,h1,h2,h3⟩:=Qge q.heap.size w6 u17 (gnB (gnS p fl) S.l k) bb o6 H6.size (by have:=QiM (gnS p fl) S.l k;omega);exact⟨K,A,h1,by rw [Ha.out,hbb];exact h2,H6.trans h3⟩)
        clear HC Hl o6 x0 x1 k0 k1 HO Ha;by_cases hz:C=0
        ·have d0:(C==0)=true:=by simpa using hz
         cases yf<;>cases fl
         ·obtain⟨K,A,r,z,b7⟩:=Q true (Qal ⟨Hh.1 hz,rfl⟩);have H:=hid b7;have I:=hid z;clear Q z b7;go_wp2_with (at_builtin;refine Qaa rfl _ _ _ _ rfl r (by rfl) (by rfl) rfl ?_;clear r);go_roundw;case rel=>exact⟨k+1,Hf,by go_num,H,I⟩
          case measure=>simp [intOf];omega
         ·obtain⟨K,A,r,z,b7⟩:=Q false (Qaj (fun h=>by cases h.2));have H:=hid b7;have I:=hid z;clear Q z b7;go_wp2_with (at_builtin;refine Qaa rfl _ _ _ _ rfl r (by rfl) (by rfl) rfl ?_;clear r);go_roundw;case rel=>exact⟨k+1,Hf,by go_num,H,I⟩
          case measure=>simp [intOf];omega
         ·obtain⟨K,A,r,z,b7⟩:=Q false (Qaj (fun h=>by cases h.2));have H:=hid b7;have I:=hid z;clear Q z b7;go_wp2_with (at_builtin;refine Qaa rfl _ _ _ _ rfl r (by rfl) (by rfl) rfl ?_;clear r);go_roundw;case rel=>exact⟨k+1,Hf,by go_num,H,I⟩
          case measure=>simp [intOf];omega
         ·obtain⟨K,A,r,z,b7⟩:=Q true (Qal ⟨Hh.1 hz,rfl⟩);have H:=hid b7;have I:=hid z;clear Q z b7;go_wp2_with (at_builtin;refine Qaa rfl _ _ _ _ rfl r (by rfl) (by rfl) rfl ?_;clear r);go_roundw;case rel=>exact⟨k+1,Hf,by go_num,H,I⟩
          case measure=>simp [intOf];omega
        ·have d0:(C==0)=false:=by simpa using hz
         obtain⟨K,A,r,z,b7⟩:=Q false (Qaj (fun h=>hz (Hh.2 h.1)));have H:=hid b7;have I:=hid z;clear Q z b7;go_wp2_with (at_builtin;refine Qaa rfl _ _ _ _ rfl r (by rfl) (by rfl) rfl ?_;clear r);go_roundw;case rel=>exact⟨k+1,Hf,by go_num,H,I⟩
         case measure=>simp [intOf];omega
       ·obtain rfl:k=S.l.length:=by omega
        obtain⟨gg,gc,Gp,H2,H0⟩:=HO.cells;subst Gp;rw [QcP];rw [QcP] at H0;obtain⟨O,N⟩:∃O,wr.alloc (.cells #[] 69)=O:=⟨_,rfl⟩;have b5:Below wr.heap.size wr O:=by rw [<- N];exact zO _ _
        have Hn:O.ownsRow wr.heap.size 69 5 (.slice (some ⟨wr.heap.size,0,none⟩) 0 0) 0 []:=by
         rw [<- N];exact World.ownsRow_lit (base:=wr.heap.size) (e:=69) (size:=5) wr #[] 0 zL (by unfold maxLen;omega) rfl
        obtain⟨g7,c7,A,r,b7,Gz,q0,q1,q2,q3,q4⟩:=Qkv wr.heap.size O wr.heap.size pa p.length pc fl J dq v Hn b5.size;have bW:Below wr.heap.size wr A:=b5.trans b7;have Ge:Qef A (some ⟨g7,0,none⟩) [(⟨p,fl,J,dq,v⟩:Lf)]:=by
         refine .inr ⟨g7,0,rfl,Gz,fun i hi=> ?_⟩;obtain rfl:i=0:=by simpa using hi
         exact⟨pa,pc,⟨q0,Gb.out⟩,(Gh.below Hi.out).below bW,q1,q2,q3,q4⟩
        have D5:=(Hv.below G.out Hv.lt).below b5 (Hv.below G.out Hv.lt).lt;have t0:=D5.c0;have t1:=D5.c1;have A7:=(L.below G.out L.lt).below bW (L.below G.out L.lt).lt;have t2:=A7.c0;have t3:=A7.c1;have Hw:=Qab G.out bW;have Hx:=Qab Hi.out bW;have Hu:=hid (QdK (gnS p fl) [⟨p,fl,J,dq,v⟩] a c xa d gg gc (some ⟨g7,0,none⟩) c7 S A Gl.out Kb.out (H1.below Hx) (H3.below Hx) (Nat.lt_of_lt_of_le H2 bW.size) (fun i hi=>by
         rw [<- QiL hi];exact(bW.cell (p:=⟨gg,i,none⟩) H2).trans (H0 i hi)) Ge)
        obtain⟨X,hX⟩:∃X,chX S (dlS (gnS p fl) S.l [⟨p,fl,J,dq,v⟩])=X:=⟨_,rfl⟩;obtain⟨Y,hY⟩:∃Y,chY S (dlS (gnS p fl) S.l [⟨p,fl,J,dq,v⟩])=Y:=⟨_,rfl⟩;obtain⟨Cc,Hy⟩:∃Cc,chC S (dlS (gnS p fl) S.l [⟨p,fl,J,dq,v⟩])=Cc:=⟨_,rfl⟩;rw [hX,hY,Hy] at Hu;have Hd:Hid (seX S J p fl true v=X/\ seY S J p fl true v=Y/\ seC S J p fl true v=Cc):=hid (by
         obtain⟨z1,z2,z3⟩:=Gx.out;rw [Gm.out] at z1 z2 z3;exact⟨z1.trans hX,z2.trans hY,z3.trans Hy⟩)
        have Ht:=hid Hw;have Gn:Hid (w.heap.size+3<=A.heap.size):=hid (by have h1:=Gv.out;have h2:=Hw.size;have h3:=V.size;omega);clear hX hY Hy H2 H0 Hw Hx HO A1 A7 bW Hn k0 k1;have k0:=(L.below G.out L.lt).c0;clear b5 D5 Ge q0 q1 q2 q3 q4 Gz b7 G;go_wp2_with (at_builtin;refine Qaa rfl _ _ _ _ rfl r (by rfl) (by rfl) rfl ?_;clear r);refine Hu.mono ?_;rintro e w4 ⟨ra,rc,rx,rd,Hp,Hq,Hs,Hr,rfl,ox,oy,b4⟩;have Hm:=Qab V.out (Qab Ht.out b4);have Hj:=hid (g.below Hm g.lt);have Hk:=hid (b.below Hm b.lt);have Hg:=hid (Qab j.out Hm);have H9:=hid ox;have Ga:=hid oy;clear b4 Hm ox oy Hu t2 t3 k0 g b j;try clear t0 t1
        have g:=Hj;have b:=Hk;have j:=Hg;clear Hj Hk Hg;obtain⟨r0,r1,rf,q0,q1,qf,P⟩:=Qih g.out b.out (.slice ra X.l.length rc) (.slice rx X.n rd) (.slice Hp Y.l.length Hq) (.slice Hs Y.n Hr);go_wp2_with fail;obtain⟨E,M⟩:=P.out;refine zF (v:=.tuple #[.agg #[.slice ra X.l.length rc,.slice rx X.n rd],.agg #[.slice Hp Y.l.length Hq,.slice Hs Y.n Hr],.int .i64 Cc]) (by simp [results,Tryz.results108,go_sem,E.c0,E.c1,M.c0,M.c1]) ?_;have hz:=Gn.out;rw [Hd.1,Hd.2.1,Hd.2.2];first
         | exact⟨ra,rc,rx,rd,Hp,Hq,Hs,Hr,rfl,Qe3 H9.out (by omega) _ _ _ _,Qe3 Ga.out (by omega) _ _ _ _,Qa9 j.out _ _ _ _⟩
         | exact⟨ra,rc,rx,rd,Hp,Hq,Hs,⟨Hr,rfl⟩,Qe3 H9.out (by omega) _ _ _ _,Qe3 Ga.out (by omega) _ _ _ _,Qa9 j.out _ _ _ _⟩
     | false=>
      have Gm:Hid (seD S rep p fl false v=dlS (gnS p fl) S.l []):=hid rfl;clear D;have L:=hid (H4.below V.out H4.lt);have Gi:=hid (Qab j.out V.out);obtain⟨O,N⟩:∃O,q.alloc (.cells #[] 4)=O:=⟨_,rfl⟩;have b5:Below q.heap.size q O:=by rw [<- N];exact zO _ _
      have H7:Hid (BR O q.heap.size (.slice (some ⟨q.heap.size,0,none⟩) 0 0) (gnB (gnS p fl) S.l 0)):=hid (by rw [<- N];exact BR.new _);have H5:=hid b5;clear b5;go_wp2_with fail;try rw [Ho]
      try rw [N]
      clear N Ho;go_loopw [17,18] (fun o i wr=>∃k:Nat,k<=S.l.length/\ i=.int .i64 k/\ Hid (Below q.heap.size q wr)/\ Hid (BR wr q.heap.size o (gnB (gnS p fl) S.l k))) (fun _ i _=>S.l.length - (intOf i).toNat);case atStart=>exact⟨0,Nat.zero_le _,rfl,H5,H7⟩
      case round=>
       clear H5 H7;obtain⟨k,hk,rfl,G,HO⟩:=hrel;have Hi:=hid (Qab Gi.out G.out);have A1:=L.below G.out L.lt;have k0:=A1.c0;have k1:=A1.c1;by_cases Hf:k<S.l.length
       ·have i1:(0:Int)<=(k:Int):=Int.natCast_nonneg _;have i2:(k:Int)<(S.l.length:Int):=by omega
        obtain⟨ab,ao,rfl,Hz,Gd⟩:=(H1.out).resolve_left (by omega);obtain⟨qa,qc,⟨u,He⟩,sg,s,c2,c3,c4⟩:=Gd k Hf;have x0:=(Hi.cell (p:=⟨ab,ao+k*5,none⟩) Hz).trans u;have x1:=(Hi.cell (p:=⟨ab,ao+k*5+1,none⟩) Hz).trans s;have HC:=hid (QcN (gL S.l k).p p qa pa qc pc wr He.1 Gb.1 He.2 Gb.2 (sg.below Hi.out) (Gh.below Hi.out));have Hh:Hid (QaE (gL S.l k).p p=0↔(gL S.l k).p=p):=hid Qd3;have Ha:Hid (gnB (gnS p fl) S.l (k+1)=gnB (gnS p fl) S.l k++[yes ((gL S.l k).p=p/\ (gL S.l k).fl=fl)]):=hid (QeT Hf);obtain⟨y,hy⟩:∃y,gL S.l k=y:=⟨_,rfl⟩;rw [hy] at x0 x1 HC Hh Ha;obtain⟨lp,yf,yr,yq,yv⟩:=y;dsimp only at x0 x1 HC Hh Ha;obtain⟨C,hC⟩:∃C,QaE lp p=C:=⟨_,rfl⟩;rw [hC] at Hh HC;clear hC hy Gd sg u s c2 c3 c4 He Hz A1;go_wp2_with fail;refine HC.mono ?_;rintro e w6 ⟨rfl,dn,Hl⟩;have H6:Hid (Below q.heap.size q w6):=hid (by rw [Hl];exact Qaz G.out dn);have o6:BR w6 q.heap.size u17 (gnB (gnS p fl) S.l k):=by rw [Hl];exact HO.below (Qaz zI dn)
        have y1:w6.cell? ⟨ab,ao+k*5+1,none⟩=some (.bool yf):=by rw [Hl];simpa using x1
        have m0:w6.cell? ⟨w.heap.size,0,none⟩=some (.slice (some ⟨ab,ao,none⟩) S.l.length c):=by rw [Hl];simpa using k0
        have Q:Hid (∀bb,yes (lp=p/\ yf=fl)=bb ->∃K A,(Builtin.append_ #[193,193] 193 #[u17,.slice (some ⟨w6.heap.size,0,none⟩) 1 1]).run Tryz.prog (w6.alloc (.cells #[.bool bb] 4))=.ok K A/\ BR A q.heap.size K (gnB (gnS p fl) S.l (k+1))/\ Below q.heap.size q A):=hid (fun bb hbb=>by
         obtain⟨K,A,h1,h2,h3⟩:=Qge q.heap.size w6 u17 (gnB (gnS p fl) S.l k) bb o6 H6.size (by have:=QiM (gnS p fl) S.l k;omega);exact⟨K,A,h1,by rw [Ha.out,hbb];exact h2,H6.trans h3⟩)
        clear HC Hl o6 x0 x1 k0 k1 HO Ha;by_cases hz:C=0
        ·have d0:(C==0)=true:=by simpa using hz
         cases yf<;>cases fl
         ·obtain⟨K,A,r,z,b7⟩:=Q true (Qal ⟨Hh.1 hz,rfl⟩);have H:=hid b7;have I:=hid z;clear Q z b7;go_wp2_with (at_builtin;refine Qaa rfl _ _ _ _ rfl r (by rfl) (by rfl) rfl ?_;clear r);go_roundw;case rel=>exact⟨k+1,Hf,by go_num,H,I⟩
          case measure=>simp [intOf];omega
         ·obtain⟨K,A,r,z,b7⟩:=Q false (Qaj (fun h=>by cases h.2));have H:=hid b7;have I:=hid z;clear Q z b7;go_wp2_with (at_builtin;refine Qaa rfl _ _ _ _ rfl r (by rfl) (by rfl) rfl ?_;clear r);go_roundw;case rel=>exact⟨k+1,Hf,by go_num,H,I⟩
          case measure=>simp [intOf];omega
         ·obtain⟨K,A,r,z,b7⟩:=Q false (Qaj (fun h=>by cases h.2));have H:=hid b7;have I:=hid z;clear Q z b7;go_wp2_with (at_builtin;refine Qaa rfl _ _ _ _ rfl r (by rfl) (by rfl) rfl ?_;clear r);go_roundw;case rel=>exact⟨k+1,Hf,by go_num,H,I⟩
          case measure=>simp [intOf];omega
         ·obtain⟨K,A,r,z,b7⟩:=Q true (Qal ⟨Hh.1 hz,rfl⟩);have H:=hid b7;have I:=hid z;clear Q z b7;go_wp2_with (at_builtin;refine Qaa rfl _ _ _ _ rfl r (by rfl) (by rfl) rfl ?_;clear r);go_roundw;case rel=>exact⟨k+1,Hf,by go_num,H,I⟩
          case measure=>simp [intOf];omega
        ·have d0:(C==0)=false:=by simpa using hz
         obtain⟨K,A,r,z,b7⟩:=Q false (Qaj (fun h=>hz (Hh.2 h.1)));have H:=hid b7;have I:=hid z;clear Q z b7;go_wp2_with (at_builtin;refine Qaa rfl _ _ _ _ rfl r (by rfl) (by rfl) rfl ?_;clear r);go_roundw;case rel=>exact⟨k+1,Hf,by go_num,H,I⟩
         case measure=>simp [intOf];omega
       ·obtain rfl:k=S.l.length:=by omega
        obtain⟨gg,gc,Gp,H2,H0⟩:=HO.cells;subst Gp;rw [QcP];rw [QcP] at H0;obtain⟨O,N⟩:∃O,wr.alloc (.cells #[] 69)=O:=⟨_,rfl⟩;have b5:Below wr.heap.size wr O:=by rw [<- N];exact zO _ _
        have Hn:O.ownsRow wr.heap.size 69 5 (.slice (some ⟨wr.heap.size,0,none⟩) 0 0) 0 []:=by
         rw [<- N];exact World.ownsRow_lit (base:=wr.heap.size) (e:=69) (size:=5) wr #[] 0 zL (by unfold maxLen;omega) rfl
        have bW:=b5;have A7:=(L.below G.out L.lt).below bW (L.below G.out L.lt).lt;have t2:=A7.c0;have t3:=A7.c1;have Hw:=Qab G.out bW;have Hx:=Qab Hi.out bW;have Hu:=hid (QdK (gnS p fl) [] a c xa d gg gc (some ⟨wr.heap.size,0,none⟩) 0 S O Gl.out (PtO.nil S) (H1.below Hx) (H3.below Hx) (Nat.lt_of_lt_of_le H2 bW.size) (fun i hi=>by
         rw [<- QiL hi];exact(bW.cell (p:=⟨gg,i,none⟩) H2).trans (H0 i hi)) (.inl rfl))
        obtain⟨X,hX⟩:∃X,chX S (dlS (gnS p fl) S.l [])=X:=⟨_,rfl⟩;obtain⟨Y,hY⟩:∃Y,chY S (dlS (gnS p fl) S.l [])=Y:=⟨_,rfl⟩;obtain⟨Cc,Hy⟩:∃Cc,chC S (dlS (gnS p fl) S.l [])=Cc:=⟨_,rfl⟩;rw [hX,hY,Hy] at Hu;have Hd:Hid (seX S rep p fl false v=X/\ seY S rep p fl false v=Y/\ seC S rep p fl false v=Cc):=hid (by
         obtain⟨z1,z2,z3⟩:=Gx.out;rw [Gm.out] at z1 z2 z3;exact⟨z1.trans hX,z2.trans hY,z3.trans Hy⟩)
        have Ht:=hid Hw;have Gn:Hid (w.heap.size+3<=O.heap.size):=hid (by have h1:=Gv.out;have h2:=Hw.size;have h3:=V.size;omega);clear hX hY Hy H2 H0 Hw Hx HO A1 A7 bW Hn k0 k1;have k0:=(L.below G.out L.lt).c0;clear b5 G;go_wp2_with fail;try rw [N]
        clear N;refine Hu.mono ?_;rintro e w4 ⟨ra,rc,rx,rd,Hp,Hq,Hs,Hr,rfl,ox,oy,b4⟩;have Hm:=Qab V.out (Qab Ht.out b4);have Hj:=hid (g.below Hm g.lt);have Hk:=hid (b.below Hm b.lt);have Hg:=hid (Qab j.out Hm);have H9:=hid ox;have Ga:=hid oy;clear b4 Hm ox oy Hu t2 t3 k0 g b j;try clear t0 t1
        have g:=Hj;have b:=Hk;have j:=Hg;clear Hj Hk Hg;obtain⟨r0,r1,rf,q0,q1,qf,P⟩:=Qih g.out b.out (.slice ra X.l.length rc) (.slice rx X.n rd) (.slice Hp Y.l.length Hq) (.slice Hs Y.n Hr);go_wp2_with fail;obtain⟨E,M⟩:=P.out;refine zF (v:=.tuple #[.agg #[.slice ra X.l.length rc,.slice rx X.n rd],.agg #[.slice Hp Y.l.length Hq,.slice Hs Y.n Hr],.int .i64 Cc]) (by simp [results,Tryz.results108,go_sem,E.c0,E.c1,M.c0,M.c1]) ?_;have hz:=Gn.out;rw [Hd.1,Hd.2.1,Hd.2.2];first
         | exact⟨ra,rc,rx,rd,Hp,Hq,Hs,Hr,rfl,Qe3 H9.out (by omega) _ _ _ _,Qe3 Ga.out (by omega) _ _ _ _,Qa9 j.out _ _ _ _⟩
         | exact⟨ra,rc,rx,rd,Hp,Hq,Hs,⟨Hr,rfl⟩,Qe3 H9.out (by omega) _ _ _ _,Qe3 Ga.out (by omega) _ _ _ _,Qa9 j.out _ _ _ _⟩
    ·have U:=hid (QoZ (S:=S) (rep:=rep) (p:=p) (fl:=fl) (on:=on) (v:=v) Gr.out D);by_cases hr:0<=rep/\ rep<8
     ·have G2:0<=rep:=hr.1;have G3:rep<8:=hr.2;have G4:¬rep<0:=by omega
      have G5:¬8<=rep:=by omega
      cases on with
      | true=>
       obtain rfl:ok=false:=by rw [H8.out];exact Qaj (fun h=>D ⟨hr,fun _=>h.2⟩)
       clear D hr;have Hb:=hid (g.below V.out g.lt);have Hc:=hid (b.below V.out b.lt);have Hg:=hid (Qab j.out V.out);clear g b j V Hv;have g:=Hb;have b:=Hc;have j:=Hg;clear Hb Hc Hg;obtain⟨r0,r1,rf,q0,q1,qf,P⟩:=Qih g.out b.out (.slice none 0 0) (.slice none 0 0) (.slice none 0 0) (.slice none 0 0);go_wp2_with fail;try rw [Ho]
       obtain⟨E,M⟩:=P.out;refine zF (v:=.tuple #[.agg #[.slice none 0 0,.slice none 0 0],.agg #[.slice none 0 0,.slice none 0 0],.int .i64 3]) (by simp [results,Tryz.results108,go_sem,E.c0,E.c1,M.c0,M.c1]) ?_;rw [U.1,U.2.1,U.2.2];first
        | exact⟨none,0,none,0,none,0,none,0,rfl,SNc.mt _ _ _ _,SNc.mt _ _ _ _,Qa9 j.out _ _ _ _⟩
        | exact⟨none,0,none,0,none,0,none,⟨0,rfl⟩,SNc.mt _ _ _ _,SNc.mt _ _ _ _,Qa9 j.out _ _ _ _⟩
      | false=>exact absurd ⟨hr,fun h=>by cases h⟩ D
     ·by_cases G4:rep<0
      ·clear D hr;have Hb:=hid (g.below V.out g.lt);have Hc:=hid (b.below V.out b.lt);have Hg:=hid (Qab j.out V.out);clear g b j V Hv;have g:=Hb;have b:=Hc;have j:=Hg;clear Hb Hc Hg;obtain⟨r0,r1,rf,q0,q1,qf,P⟩:=Qih g.out b.out (.slice none 0 0) (.slice none 0 0) (.slice none 0 0) (.slice none 0 0);go_wp2_with fail;try rw [Ho]
       obtain⟨E,M⟩:=P.out;refine zF (v:=.tuple #[.agg #[.slice none 0 0,.slice none 0 0],.agg #[.slice none 0 0,.slice none 0 0],.int .i64 3]) (by simp [results,Tryz.results108,go_sem,E.c0,E.c1,M.c0,M.c1]) ?_;rw [U.1,U.2.1,U.2.2];first
        | exact⟨none,0,none,0,none,0,none,0,rfl,SNc.mt _ _ _ _,SNc.mt _ _ _ _,Qa9 j.out _ _ _ _⟩
        | exact⟨none,0,none,0,none,0,none,⟨0,rfl⟩,SNc.mt _ _ _ _,SNc.mt _ _ _ _,Qa9 j.out _ _ _ _⟩
      ·have G2:0<=rep:=by omega
       have G5:8<=rep:=by omega
       have G3:¬rep<8:=by omega
       clear D hr;have Hb:=hid (g.below V.out g.lt);have Hc:=hid (b.below V.out b.lt);have Hg:=hid (Qab j.out V.out);clear g b j V Hv;have g:=Hb;have b:=Hc;have j:=Hg;clear Hb Hc Hg;obtain⟨r0,r1,rf,q0,q1,qf,P⟩:=Qih g.out b.out (.slice none 0 0) (.slice none 0 0) (.slice none 0 0) (.slice none 0 0);go_wp2_with fail;try rw [Ho]
       obtain⟨E,M⟩:=P.out;refine zF (v:=.tuple #[.agg #[.slice none 0 0,.slice none 0 0],.agg #[.slice none 0 0,.slice none 0 0],.int .i64 3]) (by simp [results,Tryz.results108,go_sem,E.c0,E.c1,M.c0,M.c1]) ?_;rw [U.1,U.2.1,U.2.2];first
        | exact⟨none,0,none,0,none,0,none,0,rfl,SNc.mt _ _ _ _,SNc.mt _ _ _ _,Qa9 j.out _ _ _ _⟩
        | exact⟨none,0,none,0,none,0,none,⟨0,rfl⟩,SNc.mt _ _ _ _,SNc.mt _ _ _ _,Qa9 j.out _ _ _ _⟩
   ·have i0:(v.size:Int)>200:=by omega
    have U:Hid (seX S rep p fl on v=Sx.mt/\ seY S rep p fl on v=Sx.mt/\ seC S rep p fl on v=2):=hid (by
     have e:=Qkz (p:=p) (v:=v) Gc.out (fun h=>Gf h.2);have:=Qol (S:=S) (rep:=rep) (p:=p) (fl:=fl) (on:=on) (v:=v) (by rw [e];decide);rw [e] at this;exact this)
    clear Gf;obtain⟨r0,r1,rf,q0,q1,qf,P⟩:=Qih g.out b.out (.slice none 0 0) (.slice none 0 0) (.slice none 0 0) (.slice none 0 0);go_wp2_with fail;obtain⟨E,M⟩:=P.out;refine zF (v:=.tuple #[.agg #[.slice none 0 0,.slice none 0 0],.agg #[.slice none 0 0,.slice none 0 0],.int .i64 2]) (by simp [results,Tryz.results108,go_sem,E.c0,E.c1,M.c0,M.c1]) ?_;rw [U.1,U.2.1,U.2.2];first
     | exact⟨none,0,none,0,none,0,none,0,rfl,SNc.mt _ _ _ _,SNc.mt _ _ _ _,Qa9 j.out _ _ _ _⟩
     | exact⟨none,0,none,0,none,0,none,⟨0,rfl⟩,SNc.mt _ _ _ _,SNc.mt _ _ _ _,Qa9 j.out _ _ _ _⟩
theorem QfV (a:Option Addr)(c:Nat)(xa:Option Addr)(d:Nat)(pa:Option Addr)(pc:Nat)(S:Sx)(rep:Int)(p:List ByteArray)(v:ByteArray)(w:World)(hm:S.Sm)(hT:I64 S.T)(h1:Qef w a S.l)(h3:Qb3 w xa S.n S.R S.F S.T)(hp:p.length<=1048576)(hpc:p.length<=pc/\ pc<=9223372036854775807)(hseg:QaR w pa p)(hv:v.size<=1048576):
  Calls Tryz.prog 81 #[.agg #[.slice a S.l.length c,.slice xa S.n d],.int .i64 rep,.slice pa p.length pc,.string v] w fun e w'=>∃a m x t a' m' x' t',e=.returned (.tuple #[.agg #[.slice a (seX S rep p false true v).l.length m,.slice x (seX S rep p false true v).n t],.agg #[.slice a' (seY S rep p false true v).l.length m',.slice x' (seY S rep p false true v).n t'],.int .i64 (seC S rep p false true v)])/\ SNc w' w.heap.size a m x (seX S rep p false true v)/\ SNc w' w.heap.size a' m' x' (seY S rep p false true v)/\ Below w.heap.size w w':=by
 obtain⟨W,j⟩:∃W,((w.alloc (.cells #[.slice a S.l.length c,.slice xa S.n d] 28)).alloc (.cells #[.slice none 0 0,.slice none 0 0] 28)).alloc (.cells #[.slice none 0 0,.slice none 0 0] 28)=W:=⟨_,rfl⟩;have k:Below w.heap.size w W:=by rw [<- j];exact(Qak _ _ _).alloc (by simp;omega) _
 have C:W.heap.size=w.heap.size+3:=by rw [<- j];simp
 have q:Bx2 W w.heap.size (.slice a S.l.length c) (.slice xa S.n d):=by rw [<- j];exact((Bx2.made w _ _ _).allocs _).allocs _
 have J:Bx2 W (w.heap.size+1) (.slice none 0 0) (.slice none 0 0):=by
  rw [<- j];have:=Bx2.made (w.alloc (.cells #[.slice a S.l.length c,.slice xa S.n d] 28)) (.slice none 0 0) (.slice none 0 0) 28;exact(by simpa using this:Bx2 _ (w.heap.size+1) _ _).allocs _
 have I:Bx2 W (w.heap.size+1+1) (.slice none 0 0) (.slice none 0 0):=by
  rw [<- j];simpa using Bx2.made ((w.alloc (.cells #[.slice a S.l.length c,.slice xa S.n d] 28)).alloc (.cells #[.slice none 0 0,.slice none 0 0] 28)) (.slice none 0 0) (.slice none 0 0) 28
 have Hd:=hid q;have H:=hid J;have G:=hid I;have D:=hid k;have He:=hid C;have k0:=q.c0;have k1:=q.c1;have A:=hid (Qls a c xa d pa pc S rep p false true v W hm hT (h1.below k) (h3.below k) hp hpc (hseg.below k) hv (fun h=>by cases h));obtain⟨X,O⟩:∃X,seX S rep p false true v=X:=⟨_,rfl⟩;obtain⟨Y,Q⟩:∃Y,seY S rep p false true v=Y:=⟨_,rfl⟩;obtain⟨s,M⟩:∃s,seC S rep p false true v=s:=⟨_,rfl⟩;rw [O,Q,M] at A;have E:=hid (And.intro O (And.intro Q M));have Hc:Hid (w.heap.size+3<=W.heap.size):=hid (by omega);clear k C q J I h1 h3 hseg hpc O Q M;go_enter Tryz.func81,Tryz.ntmps81;go_wp2_with fail;try rw [j]
 clear j;refine A.mono ?_;rintro e w4 ⟨r,y,i,g,u,z,b,o,rfl,N,B,b4⟩;have P:=hid (H.below b4 H.lt);have Ha:=hid (G.below b4 G.lt);have U:=hid (Qab D.out b4);have V:=hid N;have Z:=hid B;clear b4 N B A k0 k1;obtain⟨r0,r1,rf,q0,q1,qf,Hb⟩:=Qih P.out Ha.out (.slice r X.l.length y) (.slice i X.n g) (.slice u Y.l.length z) (.slice b Y.n o);go_wp2_with fail;obtain⟨K,L⟩:=Hb.out;refine zF (v:=.tuple #[.agg #[.slice r X.l.length y,.slice i X.n g],.agg #[.slice u Y.l.length z,.slice b Y.n o],.int .i64 s]) (by simp [results,Tryz.results81,go_sem,K.c0,K.c1,L.c0,L.c1]) ?_;have hz:=Hc.out;rw [E.1,E.2.1,E.2.2];first
  | exact⟨r,y,i,g,u,z,b,o,rfl,Qe3 V.out (by omega) _ _ _ _,Qe3 Z.out (by omega) _ _ _ _,Qa9 U.out _ _ _ _⟩
  | exact⟨r,y,i,g,u,z,b,⟨o,rfl⟩,Qe3 V.out (by omega) _ _ _ _,Qe3 Z.out (by omega) _ _ _ _,Qa9 U.out _ _ _ _⟩
theorem QgI (a:Option Addr)(c:Nat)(xa:Option Addr)(d:Nat)(pa:Option Addr)(pc:Nat)(S:Sx)(rep:Int)(p:List ByteArray)(on:Bool)(w:World)(hm:S.Sm)(hT:I64 S.T)(h1:Qef w a S.l)(h3:Qb3 w xa S.n S.R S.F S.T)(hp:p.length<=1048576)(hpc:p.length<=pc/\ pc<=9223372036854775807)(hseg:QaR w pa p):
  Calls Tryz.prog 83 #[.agg #[.slice a S.l.length c,.slice xa S.n d],.int .i64 rep,.slice pa p.length pc,.bool on] w fun e w'=>∃a m x t a' m' x' t',e=.returned (.tuple #[.agg #[.slice a (seX S rep p true on ⟨#[]⟩).l.length m,.slice x (seX S rep p true on ⟨#[]⟩).n t],.agg #[.slice a' (seY S rep p true on ⟨#[]⟩).l.length m',.slice x' (seY S rep p true on ⟨#[]⟩).n t'],.int .i64 (seC S rep p true on ⟨#[]⟩)])/\ SNc w' w.heap.size a m x (seX S rep p true on ⟨#[]⟩)/\ SNc w' w.heap.size a' m' x' (seY S rep p true on ⟨#[]⟩)/\ Below w.heap.size w w':=by
 obtain⟨W,j⟩:∃W,((w.alloc (.cells #[.slice a S.l.length c,.slice xa S.n d] 28)).alloc (.cells #[.slice none 0 0,.slice none 0 0] 28)).alloc (.cells #[.slice none 0 0,.slice none 0 0] 28)=W:=⟨_,rfl⟩;have k:Below w.heap.size w W:=by rw [<- j];exact(Qak _ _ _).alloc (by simp;omega) _
 have B:W.heap.size=w.heap.size+3:=by rw [<- j];simp
 have q:Bx2 W w.heap.size (.slice a S.l.length c) (.slice xa S.n d):=by rw [<- j];exact((Bx2.made w _ _ _).allocs _).allocs _
 have I:Bx2 W (w.heap.size+1) (.slice none 0 0) (.slice none 0 0):=by
  rw [<- j];have:=Bx2.made (w.alloc (.cells #[.slice a S.l.length c,.slice xa S.n d] 28)) (.slice none 0 0) (.slice none 0 0) 28;exact(by simpa using this:Bx2 _ (w.heap.size+1) _ _).allocs _
 have H:Bx2 W (w.heap.size+1+1) (.slice none 0 0) (.slice none 0 0):=by
  rw [<- j];simpa using Bx2.made ((w.alloc (.cells #[.slice a S.l.length c,.slice xa S.n d] 28)).alloc (.cells #[.slice none 0 0,.slice none 0 0] 28)) (.slice none 0 0) (.slice none 0 0) 28
 have Hc:=hid q;have G:=hid I;have Z:=hid H;have C:=hid k;have Hd:=hid B;have k0:=q.c0;have k1:=q.c1;have s:=hid (Qls a c xa d pa pc S rep p true on ⟨#[]⟩ W hm hT (h1.below k) (h3.below k) hp hpc (hseg.below k) (by decide) (fun _=>by simp [emB]));obtain⟨X,M⟩:∃X,seX S rep p true on ⟨#[]⟩=X:=⟨_,rfl⟩;obtain⟨Y,O⟩:∃Y,seY S rep p true on ⟨#[]⟩=Y:=⟨_,rfl⟩;obtain⟨b,E⟩:∃b,seC S rep p true on ⟨#[]⟩=b:=⟨_,rfl⟩;rw [M,O,E] at s;have A:=hid (And.intro M (And.intro O E));have Hb:Hid (w.heap.size+3<=W.heap.size):=hid (by omega);clear k B q I H h1 h3 hseg hpc M O E;go_enter Tryz.func83,Tryz.ntmps83;go_wp2_with fail;try rw [j]
 clear j;refine s.mono ?_;rintro e w4 ⟨r,y,o,h,u,z,i,g,rfl,L,N,b4⟩;have D:=hid (G.below b4 G.lt);have P:=hid (Z.below b4 Z.lt);have Q:=hid (Qab C.out b4);have U:=hid L;have V:=hid N;clear b4 L N s k0 k1;obtain⟨r0,r1,rf,q0,q1,qf,Ha⟩:=Qih D.out P.out (.slice r X.l.length y) (.slice o X.n h) (.slice u Y.l.length z) (.slice i Y.n g);go_wp2_with fail;obtain⟨J,K⟩:=Ha.out;refine zF (v:=.tuple #[.agg #[.slice r X.l.length y,.slice o X.n h],.agg #[.slice u Y.l.length z,.slice i Y.n g],.int .i64 b]) (by simp [results,Tryz.results83,go_sem,J.c0,J.c1,K.c0,K.c1]) ?_;have hz:=Hb.out;rw [A.1,A.2.1,A.2.2];first
  | exact⟨r,y,o,h,u,z,i,g,rfl,Qe3 U.out (by omega) _ _ _ _,Qe3 V.out (by omega) _ _ _ _,Qa9 Q.out _ _ _ _⟩
  | exact⟨r,y,o,h,u,z,i,⟨g,rfl⟩,Qe3 U.out (by omega) _ _ _ _,Qe3 V.out (by omega) _ _ _ _,Qa9 Q.out _ _ _ _⟩
structure Dr (S:Sx):Prop where
 vd:Vd S
 t:I64 S.T
theorem Qli {u:List Rn}{i:Nat}(h:¬i<u.length):gR u i=(0,0,0):=by simp [gR,List.getD,h]
theorem Qhe {u:List Rn}(h:QbT u):I64 fun i=>(gR u i).2.2:=fun i=>by
 by_cases j:i<u.length
 ·have e:gR u i=u[i]:=by simp [gR,List.getD,j]
  have:=h.2 _ (List.getElem_mem j);unfold Rok at this;simp only [e];omega
 ·simp only [Qli j];omega
theorem QgP {S:Sx}(h:Vd S):S.Sm:=⟨by have:=h.2.1;omega,fun i=>by
 by_cases j:i<S.l.length
 ·have:=(QdP h i j).2;omega
 ·rw [Qhf j];simp,by have:=(Qam.1 h.1).2;omega⟩
theorem Dr.mt:Dr Sx.mt:=⟨QoB,fun i=>by simp [Sx.mt]⟩
theorem Dr.jn {S S':Sx}(h:Dr S)(h':Dr S')(hf:jnF S S'=true):Dr (jnS S S'):=by
 refine⟨Qn0 h.vd h'.vd hf,?_⟩;have:=(Qnz h.vd h'.vd).1;rw [QcB,QiE] at this;rw [QcB];exact Qhe this
theorem Qng {S:Sx}{g:Lf ->Prop}{P:List Lf}(h:Vd S)(hp:PtO S P)(hf:chC S (dlS g S.l P)=0):Dr (chX S (dlS g S.l P))/\ Dr (chY S (dlS g S.l P)):=by
 cases hc:chF S (dlS g S.l P) with
 | false=>rw [(Qou hc).2.2] at hf;cases hf
 | true=>
  rw [(Qov hc).1,(Qov hc).2.1];unfold chF at hc;simp only [Bool.and_eq_true,decide_eq_true_eq] at hc;obtain⟨q,r,m⟩:=hc;have k:=QoX (g:=g) h hp;have j:Dr (dlS g S.l P):=⟨⟨Qam.2 ⟨k.1.1,m⟩,k.2⟩,Qhe (Qf7 h hp).1⟩;refine⟨⟨Qn0 h j.vd q,?_⟩,j⟩;have:=(Qnz h j.vd).1;rw [QcB,QiE] at this;rw [QcB];exact Qhe this
theorem Qmf {S:Sx}{rep:Int}{p:List ByteArray}{fl on:Bool}{v:ByteArray}(h:Vd S)(hfv:fl=true ->emB v=true)(hc:seC S rep p fl on v=0):Dr (seX S rep p fl on v)/\ Dr (seY S rep p fl on v):=by
 by_cases j:ocC S p v=0
 ·obtain⟨_,u,y⟩:=QnD j;by_cases k:Ql3 S rep on
  ·obtain⟨m,q,r⟩:=Qpa (p:=p) (fl:=fl) (v:=v) j k;rw [m,q];rw [r] at hc;exact Qng h (QnQ h u y hfv k) hc
  ·rw [(QoZ j k).2.2] at hc;cases hc
 ·rw [(Qol j).2.2] at hc;exact absurd hc j
theorem Qoz {S:Sx}{p:List ByteArray}(h:Vd S)(hc:rmC S p=0):Dr (rmX S p)/\ Dr (rmY S p):=by
 by_cases j:ocC S p ⟨#[]⟩=0
 ·obtain⟨k,m,q⟩:=QoY j;rw [k,m];rw [q] at hc;exact Qng h (PtO.nil S) hc
 ·rw [(QoN j).2.2] at hc;exact absurd hc j
def ChP (w:World)(X Y:Sx)(C:Int)(e:Ending)(w':World):Prop:=∃a m x t a' m' x' t',e=.returned (.tuple #[.agg #[.slice a X.l.length m,.slice x X.n t],.agg #[.slice a' Y.l.length m',.slice x' Y.n t'],.int .i64 C])/\ SNc w' w.heap.size a m x X/\ SNc w' w.heap.size a' m' x' Y/\ Below w.heap.size w w'
def AcP (f:Nat ->Int)(n x:Nat)(S:Sx)(rep:Nat)(S1 S2:Sx)(x':Nat):Prop:=(Dr S1/\ Dr S2)/\∀(B lo rb:Nat) (a xa:Option Addr) (c d:Nat) (w:World),B<=lo ->lo<=w.heap.size ->RdJ w B rb f n x ->SNc w lo a c xa S ->
  Calls Tryz.prog 48 #[.pointer (some ⟨rb,0,none⟩),.agg #[.slice a S.l.length c,.slice xa S.n d],.int .i64 (rep:Int)] w fun e w'=>∃a1 c1 x1 d1 a2 c2 x2 d2,e=.returned (.tuple #[.agg #[.slice a1 S1.l.length c1,.slice x1 S1.n d1],.agg #[.slice a2 S2.l.length c2,.slice x2 S2.n d2]])/\ SNc w' lo a1 c1 x1 S1/\ SNc w' lo a2 c2 x2 S2/\ RdJ w' B rb f n x'/\ w.grownBy w' (some rb)
theorem SNc.gr {w w1:World}{lo rb c:Nat}{a x:Option Addr}{S:Sx}(h:SNc w lo a c x S)(hg:w.grownBy w1 (some rb))(hr:rb<lo):SNc w1 lo a c x S:=h.move zL hg.size (fun q h1 h2=>hg.block q h2 (fun e=>by injection e with e;omega))
theorem Qar {w w1 w2:World}{rb B:Nat}(h1:w.grownBy w1 (some rb))(h2:Below B w1 w2)(hB:w.heap.size<=B):w.grownBy w2 (some rb):=
 ⟨h2.os.trans h1.os,h2.tape.trans h1.tape,h2.output.trans h1.output,Nat.le_trans h1.size h2.size,fun k hk hne=>(h2.block k (by omega)).trans (h1.block k hk hne)⟩
structure Gd (S:Sx):Prop where
 sm:S.Sm
 li:∀i,LfI (gL S.l i)
 t:I64 S.T
def wdN (i:Nat):List Int:=[97+(i:Int)/100,48+(i:Int)/10%10,48+(i:Int)%10]
def wdL (rep:Nat)(fl:Bool)(k:Nat):List Lf:=(List.range k).map fun i=>⟨[txJ (wdN i)],fl,rep,((i+1:Nat):Int),⟨#[]⟩⟩
theorem QbM (rep:Nat)(fl:Bool)(k:Nat):(wdL rep fl k).length=k:=by simp [wdL]
theorem QkP (rep:Nat)(fl:Bool)(k:Nat):wdL rep fl (k+1)=wdL rep fl k++[⟨[txJ (wdN k)],fl,rep,((k+1:Nat):Int),⟨#[]⟩⟩]:=by simp [wdL,List.range_succ]
theorem QlI (rep:Nat)(fl:Bool)(k i:Nat):(gL (wdL rep fl k) i).p.length<=1/\ (i<k ->gL (wdL rep fl k) i=⟨[txJ (wdN i)],fl,rep,((i+1:Nat):Int),⟨#[]⟩⟩):=by
 by_cases h:i<k
 ·have e:gL (wdL rep fl k) i=⟨[txJ (wdN i)],fl,rep,((i+1:Nat):Int),⟨#[]⟩⟩:=by simp [gL,List.getD,wdL,h]
  exact⟨by rw [e];simp,fun _=>e⟩
 ·exact⟨by simp [gL,List.getD,wdL,h],fun h'=>absurd h' h⟩
def wdS (n rep:Nat)(fl:Bool):Sx:=⟨wdL rep fl n,1,fun _=>rep,fun _=>1,fun _=>n⟩
theorem QlJ {n rep:Nat}{fl:Bool}(hn:n<=1000)(hr:rep<8):Gd (wdS n rep fl):=by
 refine⟨⟨by show (wdL rep fl n).length<=_;rw [QbM];omega,fun i=> ?_,by show 1<=_;omega⟩,fun i=> ?_,fun i=> ?_⟩
 ·have:=(QlI rep fl n i).1;show (gL (wdL rep fl n) i).p.length<=_;omega
 ·show LfI (gL (wdL rep fl n) i);by_cases h:i<n
  ·rw [(QlI rep fl n i).2 h];exact⟨wfI (by simp<;>omega) (by simp<;>omega),wfI (by simp<;>omega) (by simp<;>omega)⟩
  ·have e:gL (wdL rep fl n) i=⟨[],false,0,0,ByteArray.empty⟩:=by simp [gL,List.getD,wdL,h]
   rw [e];exact⟨by decide,by decide⟩
 ·show _<=(n:Int)/\ (n:Int)<=_;omega
theorem LC.setB {w:World}{lo b i:Nat}{v u:Value}{l:List Lf}{P Q:Nat ->Nat}(h:LC w lo v l P Q)(hv:v.ownBlock≠some b)(hP:∀j,j<l.length ->P j≠b):LC (w.setCell ⟨b,i,none⟩ u) lo v l P Q:=
 ⟨Qaq h.row (fun g hg=>zH _ _ _ _ (fun e=>hv (by rw [hg,e]))),fun j hj=>by
  obtain⟨m,q,r,k⟩:=h.pt j hj;exact⟨m,by simpa [World.setCell] using q,r,k.1.same (zH _ _ _ _ (fun e=>hP j hj e)),k.2⟩⟩
structure WdS (w wr:World)(rep:Nat)(fl:Bool)(j g c:Nat)(P Q:Nat ->Nat):Prop where
 bx:Bx2 wr (w.heap.size+1+1) (.slice (some ⟨g,0,none⟩) j c) (.slice none 0 0)
 lc:LC wr (w.heap.size+1) (.slice (some ⟨g,0,none⟩) j c) (wdL rep fl j) P Q
 gb:g≠w.heap.size+1+1
 pb:∀i,i<j ->P i≠w.heap.size+1+1
 rs:Bx2 wr w.heap.size (.slice none 0 0) (.slice none 0 0)
 low:Below w.heap.size w wr
 sz:w.heap.size+3<=wr.heap.size
theorem Qoi (n rep:Nat)(od:Bool)(hn:n<=1000)(hrep:rep<8)(w:World):
  Calls Tryz.prog 23 #[.int .i64 (n:Int),.int .i64 (rep:Int),.int .i64 (if od then 1 else 0)] w fun e w'=>∃a c x d,e=.returned (.agg #[.slice a (wdS n rep od).l.length c,.slice x (wdS n rep od).n d])/\ SNc w' w.heap.size a c x (wdS n rep od)/\ Below w.heap.size w w':=by
 obtain⟨i0,r,Hr,Hs,Ht⟩:=info_parts Qdq;obtain⟨o,T⟩:∃o:Int,(if od then(1:Int) else 0)=o:=⟨_,rfl⟩;have Hq:(o==1)=od:=by rw [<- T];cases od<;>rfl
 rw [T];have K:Hid (WdS w (((w.alloc (.cells #[.slice none 0 0,.slice none 0 0] 28)).alloc (.cells #[] 69)).alloc (.cells #[.slice (some ⟨w.heap.size+1,0,none⟩) 0 0,.slice none 0 0] 28)) rep od 0 (w.heap.size+1) 0 (fun _=>0) (fun _=>0)):=hid (by
  have R:=World.ownsRow_lit (base:=w.heap.size+1) (e:=69) (size:=5) (w.alloc (.cells #[.slice none 0 0,.slice none 0 0] 28)) #[] 0 (by simp) (by unfold maxLen;omega) rfl;refine⟨?_,⟨?_,fun i r=>by simp [wdL] at r⟩,by omega,fun i r=>by omega,((Bx2.made w _ _ _).allocs _).allocs _,(Qak _ _ _).alloc (by simp;omega) _,by simp⟩
  ·simpa using Bx2.made ((w.alloc (.cells #[.slice none 0 0,.slice none 0 0] 28)).alloc (.cells #[] 69)) (.slice (some ⟨w.heap.size+1,0,none⟩) 0 0) (.slice none 0 0) 28
  ·have R2:=Qaq R (fun g hg=>(zO _ (.cells #[.slice (some ⟨w.heap.size+1,0,none⟩) 0 0,.slice none 0 0] 28)).block g (R.lt g hg).2);simpa [wdL] using R2)
 clear T;go_enter Tryz.func23,Tryz.ntmps23;go_wp2_with fail;obtain⟨W3,C⟩:∃W3,(((w.alloc (.cells #[.slice none 0 0,.slice none 0 0] 28)).alloc (.cells #[] 69)).alloc (.cells #[.slice (some ⟨w.heap.size+1,0,none⟩) 0 0,.slice none 0 0] 28))=W3:=⟨_,rfl⟩;rw [C] at K;try rw [C]
 clear C;go_loopw [8] (fun i wr=>∃(j g c:Nat) (P Q:Nat ->Nat),j<=n/\ i=.int .i64 (j:Int)/\ Hid (WdS w wr rep od j g c P Q)) (fun i _=>n - (intOf i).toNat);case atStart=>exact⟨0,_,_,_,_,Nat.zero_le _,rfl,K⟩
 case round=>
  clear K;obtain⟨j,g,c,P,Q,hj,rfl,m⟩:=hrel;by_cases Ho:j<n
  ·have i1:(j:Int)<(n:Int):=by omega
   obtain⟨u,He⟩:∃z:Nat,97+j/100=z:=⟨_,rfl⟩;obtain⟨y,Hf⟩:∃z:Nat,48+j/10%10=z:=⟨_,rfl⟩;obtain⟨h,Hg⟩:∃z:Nat,48+j%10=z:=⟨_,rfl⟩;have Hb:(j:Int)<1000:=by omega
   have w1:IntKind.i64.wrap (97+(j:Int)/100)=(u:Int):=by rw [show 97+(j:Int)/100=(u:Int) by omega];exact Qau _ (by omega) (by omega)
   have w2:IntKind.i64.wrap (48+(j:Int)/10%10)=(y:Int):=by rw [show 48+(j:Int)/10%10=(y:Int) by omega];exact Qau _ (by omega) (by omega)
   have w3:IntKind.i64.wrap (48+(j:Int)%10)=(h:Int):=by rw [show 48+(j:Int)%10=(h:Int) by omega];exact Qau _ (by omega) (by omega)
   have v1:IntKind.u8.wrap (u:Int)=(u:Int):=by rw [IntKind.wrap_u8];omega
   have v2:IntKind.u8.wrap (y:Int)=(y:Int):=by rw [IntKind.wrap_u8];omega
   have v3:IntKind.u8.wrap (h:Int)=(h:Int):=by rw [IntKind.wrap_u8];omega
   have Hh:wdN j=[(u:Int),(y:Int),(h:Int)]:=by unfold wdN;rw [show 97+(j:Int)/100=(u:Int) by omega,show 48+(j:Int)/10%10=(y:Int) by omega,show 48+(j:Int)%10=(h:Int) by omega]
   obtain⟨A,Hd⟩:∃A,txJ (wdN j)=A:=⟨_,rfl⟩;have Hp:(convert 22 9 (.slice (some ⟨wr.heap.size,0,none⟩) 3 3)).run Tryz.prog (wr.alloc (.cells #[.int .u8 (u:Int),.int .u8 (y:Int),.int .u8 (h:Int)] 5))=.ok (.string A) (wr.alloc (.cells #[.int .u8 (u:Int),.int .u8 (y:Int),.int .u8 (h:Int)] 5)):=by
    have hO:Own (wr.alloc (.cells #[.int .u8 (u:Int),.int .u8 (y:Int),.int .u8 (h:Int)] 5)) wr.heap.size (.slice (some ⟨wr.heap.size,0,none⟩) 3 3) (wdN j):=by
     rw [Hh];exact World.ownsRow_lit (base:=wr.heap.size) (e:=5) (size:=1) wr #[.int .u8 (u:Int),.int .u8 (y:Int),.int .u8 (h:Int)] 3 zL (by unfold maxLen;omega) rfl
    have:=Qj9 ⟨hO,fun z hz=>by rw [Hh] at hz;simp at hz;omega⟩ 0;rw [World.drewN_zero,Hd] at this;exact this
   have O:Below wr.heap.size wr ((wr.alloc (.cells #[.int .u8 (u:Int),.int .u8 (y:Int),.int .u8 (h:Int)] 5)).alloc (.cells #[.string A] 9)):=Qak _ _ _;have V:((wr.alloc (.cells #[.int .u8 (u:Int),.int .u8 (y:Int),.int .u8 (h:Int)] 5)).alloc (.cells #[.string A] 9)).heap.size=wr.heap.size+1+1:=by simp
   have Hc:=m.sz;have S:=(m.lc.lt g rfl);have hR:((wr.alloc (.cells #[.int .u8 (u:Int),.int .u8 (y:Int),.int .u8 (h:Int)] 5)).alloc (.cells #[.string A] 9)).ownsRow (wr.heap.size+1) 9 1 (.slice (some ⟨wr.heap.size+1,0,none⟩) 1 1) 1 ((List.range (1*1)).map fun t=> .string (gS [A] t)):=by
    have:=World.ownsRow_lit (base:=wr.heap.size+1) (e:=9) (size:=1) (wr.alloc (.cells #[.int .u8 (u:Int),.int .u8 (y:Int),.int .u8 (h:Int)] 5)) #[.string A] 1 (by simp) (by unfold maxLen;omega) rfl;simpa [gS] using this
   obtain⟨X,c',w7,D,U,M⟩:=LC.app m.lc O (by omega) (by rw [QbM];omega) ⟨[A],od,rep,((j+1:Nat):Int),⟨#[]⟩⟩ (wr.heap.size+1) 1 (by omega) (by rw [V];omega) (fun e=>by simp [Value.ownBlock] at e;omega) (by simpa using QcV hR) (by simp);rw [V,QbM] at D;rw [QbM] at U M;have F:X≠w.heap.size+1+1:=by
    have h1:=m.gb;rcases M.l with e|⟨q,e,E⟩
    ·simp [Value.ownBlock] at e;omega
    ·simp [Value.ownBlock] at e;rw [V] at E;omega
   have B:∀i,i<j+1 ->(if i=j then wr.heap.size+1 else P i)≠w.heap.size+1+1:=fun i r=>by
    by_cases e:i=j
    ·rw [if_pos e];omega
    ·rw [if_neg e];exact m.pb i (by omega)
   have Hi:∀b,g≠b ->∀k,(Value.slice (some ⟨g,0,none⟩) j c).ownBlock=some k ->k≠b:=fun b hb k e e2=>hb (by simp [Value.ownBlock] at e;omega);have J:=(m.bx.below O m.bx.lt).gr M.g (Hi _ m.gb);have I:=(m.rs.below O m.rs.lt).gr M.g (Hi _ (by omega));have Ha:Below w.heap.size w w7:=(m.low.trans (O.mono (by omega))).trans (M.below (by rw [V];omega) (fun k e=>by simp [Value.ownBlock] at e;omega));have z7:=M.g.size;rw [V] at z7;have HN:Hid (WdS w (w7.setCell ⟨w.heap.size+1+1,0,none⟩ (.slice (some ⟨X,0,none⟩) (j+1) c')) rep od (j+1) X c' (fun i=>if i=j then wr.heap.size+1 else P i) (fun i=>if i=j then 1 else Q i)):=hid (by
    refine⟨J.set0 _,?_,F,B,I.setAt _ _ (by show w.heap.size+1+1≠w.heap.size;omega),Ha.setCell (p:=⟨w.heap.size+1+1,0,none⟩) (by simp;omega) _,by simp [World.setCell];omega⟩;have l8:wdL rep od (j+1)=wdL rep od j++[⟨[A],od,rep,((j+1:Nat):Int),⟨#[]⟩⟩]:=by rw [QkP,Hd]
    rw [l8];exact U.setB (fun e=>F (by simpa [Value.ownBlock] using e)) (fun i r=>B i (by simpa [QbM] using r)))
   have x0:=m.bx.c0;have x1:=(m.bx.allocs (.cells #[.int .u8 (u:Int),.int .u8 (y:Int),.int .u8 (h:Int)] 5)).c0;have x2:=(m.bx.below O m.bx.lt).c0;have y0:=J.c0;have yf:=J.f;have wj:IntKind.i64.wrap ((j:Int)+1)=((j+1:Nat):Int):=by rw [show (j:Int)+1=((j+1:Nat):Int) by omega];exact Qau _ (by omega) (by omega)
   clear Hh Hd O V Hc S hR U M F B Hi J I Ha z7 He Hf Hg m;go_wp2_with (at_builtin;refine Qaa rfl _ _ _ _ rfl D (by rfl) (by rfl) rfl ?_;clear D);go_roundw;case rel=>exact⟨j+1,_,_,_,_,Ho,by go_num,HN⟩
   case measure=>simp [intOf];omega
  ·obtain rfl:j=n:=by omega
   have i1:¬(j:Int)<(j:Int):=by omega
   have Hc:=m.sz;have S:=(m.lc.lt g rfl);obtain⟨s,G⟩:∃s,wr.alloc (.cells #[.int .i64 (rep:Int),.int .i64 1,.int .i64 (j:Int)] 113)=s:=⟨_,rfl⟩;have Y:Below wr.heap.size wr s:=by rw [<- G];exact zO _ _
   have z5:s.heap.size=wr.heap.size+1:=by rw [<- G];simp
   have q0:s.cell? ⟨wr.heap.size,0,none⟩=some (.int .i64 (rep:Int)):=by rw [<- G];simp
   have q1:s.cell? ⟨wr.heap.size,1,none⟩=some (.int .i64 1):=by rw [<- G];simp
   have q2:s.cell? ⟨wr.heap.size,2,none⟩=some (.int .i64 (j:Int)):=by rw [<- G];simp
   have Z:=m.bx.below Y m.bx.lt;have Hn:=m.rs.below Y m.rs.lt;have Hm:=m.lc.below Y;have N:=Z.set1 (.slice (some ⟨wr.heap.size,0,none⟩) 1 1);have H:=Hn.setAt ⟨w.heap.size+1+1,1,none⟩ (.slice (some ⟨wr.heap.size,0,none⟩) 1 1) (by show w.heap.size+1+1≠w.heap.size;omega);have I:=H.set (.slice (some ⟨g,0,none⟩) j c) (.slice (some ⟨wr.heap.size,0,none⟩) 1 1);have W:∀i,i<(wdL rep od j).length ->w.heap.size+1<=P i:=fun i r=>(m.lc.pt i r).1;have U:LC (((s.setCell ⟨w.heap.size+1+1,1,none⟩ (.slice (some ⟨wr.heap.size,0,none⟩) 1 1)).setCell ⟨w.heap.size,0,none⟩ (.slice (some ⟨g,0,none⟩) j c)).setCell ⟨w.heap.size,1,none⟩ (.slice (some ⟨wr.heap.size,0,none⟩) 1 1)) (w.heap.size+1) (.slice (some ⟨g,0,none⟩) j c) (wdL rep od j) P Q:=
    ((Hm.setB (fun e=>m.gb (by simpa [Value.ownBlock] using e)) (fun i r=>m.pb i (by simpa [QbM] using r))).setB (fun e=>by simp [Value.ownBlock] at e;omega) (fun i r=>by have:=W i r;omega)).setB (fun e=>by simp [Value.ownBlock] at e;omega) (fun i r=>by have:=W i r;omega)
   have Hk:=hid U;have Hl:=hid I;have Hj:Hid (Below w.heap.size w (((s.setCell ⟨w.heap.size+1+1,1,none⟩ (.slice (some ⟨wr.heap.size,0,none⟩) 1 1)).setCell ⟨w.heap.size,0,none⟩ (.slice (some ⟨g,0,none⟩) j c)).setCell ⟨w.heap.size,1,none⟩ (.slice (some ⟨wr.heap.size,0,none⟩) 1 1))):=hid ((((Qab m.low Y).setCell (p:=⟨w.heap.size+1+1,1,none⟩) (by simp;omega) _).setCell (p:=⟨w.heap.size,0,none⟩) zL _).setCell (p:=⟨w.heap.size,1,none⟩) zL _);have HQ:Hid ((∀i,i<3 ->(((s.setCell ⟨w.heap.size+1+1,1,none⟩ (.slice (some ⟨wr.heap.size,0,none⟩) 1 1)).setCell ⟨w.heap.size,0,none⟩ (.slice (some ⟨g,0,none⟩) j c)).setCell ⟨w.heap.size,1,none⟩ (.slice (some ⟨wr.heap.size,0,none⟩) 1 1)).cell? ⟨wr.heap.size,i,none⟩=s.cell? ⟨wr.heap.size,i,none⟩)/\ wr.heap.size<s.heap.size/\ w.heap.size<=wr.heap.size):=hid ⟨fun i r=>by
    rw [World.cell?_setCell_other _ _ _ _ (by simp<;>omega),World.cell?_setCell_other _ _ _ _ (by simp<;>omega),World.cell?_setCell_other _ _ _ _ (by simp<;>omega)],by omega,by omega⟩
   have x0:=Z.c0;have x1:=Z.c1;have xf:=Z.f;have y0:=N.c0;have y1:=N.c1;have o0:=H.c0;have o1:=H.c1;have of:=H.f;have L:=hid (And.intro q0 (And.intro q1 q2));clear Y z5 q0 q1 q2 Z Hn Hm N H I U W m Hc S;go_wp2_with fail;have s0:=Hl.c0;have s1:=Hl.c1;refine zF (v:=.agg #[.slice (some ⟨g,0,none⟩) j c,.slice (some ⟨wr.heap.size,0,none⟩) 1 1]) (by simp [results,Tryz.results23,go_sem,s0,s1]) ?_;have G0:Ending.returned (.agg #[.slice (some ⟨g,0,none⟩) j c,.slice (some ⟨wr.heap.size,0,none⟩) 1 1])=.returned (.agg #[.slice (some ⟨g,0,none⟩) (wdS j rep od).l.length c,.slice (some ⟨wr.heap.size,0,none⟩) (wdS j rep od).n 1]):=by
    rw [show (wdS j rep od).l.length=j from QbM rep od j];rfl
   have G1:SNc (((s.setCell ⟨w.heap.size+1+1,1,none⟩ (.slice (some ⟨wr.heap.size,0,none⟩) 1 1)).setCell ⟨w.heap.size,0,none⟩ (.slice (some ⟨g,0,none⟩) j c)).setCell ⟨w.heap.size,1,none⟩ (.slice (some ⟨wr.heap.size,0,none⟩) 1 1)) w.heap.size (some ⟨g,0,none⟩) c (some ⟨wr.heap.size,0,none⟩) (wdS j rep od):=⟨fun w' k1 k2=>by
    constructor
    ·have:=(Hk.move k1 (fun q h1 h2=>k2 q (by omega) h2));exact this.lcap (by rw [QbM])
    ·have E:=HQ.out;have e:=k2 wr.heap.size E.2.2 (by simp [World.setCell];exact E.2.1);refine .inr ⟨wr.heap.size,0,rfl,Nat.lt_of_lt_of_le (by simp [World.setCell];exact E.2.1) k1,fun i r=> ?_⟩;obtain rfl:i=0:=by have:i<1:=r;omega
     exact⟨(World.cell?_of_block (a:=⟨wr.heap.size,0+0*3,none⟩) e).trans ((E.1 0 (by omega)).trans L.1),(World.cell?_of_block (a:=⟨wr.heap.size,0+0*3+1,none⟩) e).trans ((E.1 1 (by omega)).trans L.2.1),(World.cell?_of_block (a:=⟨wr.heap.size,0+0*3+2,none⟩) e).trans ((E.1 2 (by omega)).trans L.2.2)⟩,Hk.cp (QbM _ _ _)⟩
   first
    | exact⟨_,c,_,1,G0,G1,Hj.out⟩
    | exact⟨_,c,_,⟨1,G0⟩,G1,Hj.out⟩
def spY (k:Nat)(y:Lf):Lf:=
 if k%8=1 then⟨y.p++[⟨#[]⟩],y.fl,y.r,y.q,y.v⟩
 else if k%8=2 then⟨y.p, !y.fl,y.r,y.q,y.v⟩
 else if k%8=3 then⟨y.p,y.fl,y.r,y.q+1,y.v⟩
 else if k%8=4 then⟨y.p,y.fl,y.r,y.q,txJ (rpt ⟨#[118]⟩ (200+k/128))⟩
 else if k%8=5 then y
 else if k%8=6 then⟨y.p,y.fl,7,y.q,y.v⟩
 else⟨y.p.set 0 ⟨#[99]⟩,y.fl,y.r,y.q,y.v⟩
def spL (k:Nat)(l:List Lf):List Lf:=(if k%8=5 then l++[gL l (k/8%l.length)] else l).set (k/8%l.length) (spY k (gL l (k/8%l.length)))
def spS (f:Nat ->Int)(n x:Nat)(S:Sx):Sx:=if rk f n x%8=0 \/S.l.length=0 then mkS S.l (spF (rk f n (rx n x)) (fS S)) else mkS (spL (rk f n x) S.l) (fS S)
def spX (f:Nat ->Int)(n x:Nat)(S:Sx):Nat:=if rk f n x%8=0 \/S.l.length=0 then rx n (rx n x) else rx n x
theorem Qhg (l:List Lf){i:Nat}(hi:i<l.length)(y:Lf)(j:Nat):gL (l.set i y) j=if j=i then y else gL l j:=by
 by_cases e:j=i
 ·subst e;rw [if_pos rfl];simp [gL,List.getD,hi]
 ·rw [if_neg e];simp [gL,List.getD,List.getElem?_set_ne (fun h=>e h.symm)]
theorem QnT {k:Nat}{y:Lf}(hp:y.p.length<=8)(hr:0<=y.r/\ y.r<=1000000000)(hq:0<=y.q/\ y.q<=1000000000):(spY k y).p.length<=9/\ LfI (spY k y):=by
 have a:∀r q:Int,0<=r/\ r<=1000000001 ->0<=q/\ q<=1000000001 ->∀p f v,LfI ⟨p,f,r,q,v⟩:=fun r q h1 h2 p f v=>⟨wfI (by simp only;omega) (by simp only;omega),wfI (by simp only;omega) (by simp only;omega)⟩;obtain⟨m,j,z,u,h⟩:=y;simp only at hp hr hq;unfold spY;repeat' split
 all_goals refine⟨by simp<;>omega,a _ _ (by first|omega|(dsimp only;omega)) (by first|omega|(dsimp only;omega)) _ _ _⟩
theorem Qe9 {S:Sx}(h:Vd S){i:Nat}(hi:i<S.l.length):1<=(gL S.l i).p.length/\ (gL S.l i).p.length<=8/\ (0<=(gL S.l i).r/\ (gL S.l i).r<=1000000000)/\ (0<=(gL S.l i).q/\ (gL S.l i).q<=1000000000):=by
 have a:=QdP h i hi;have b:=Qgs (Qcw h) (Qez h _ (Qa1.2 ⟨i,hi,rfl⟩));unfold Rok dtR at b;simp only at b;exact⟨a.1,a.2,by omega,by omega⟩
theorem Qmg {l:List Lf}{i:Nat}(h:¬i<l.length):LfI (gL l i):=by
 rw [show gL l i=⟨[],false,0,0,ByteArray.empty⟩ by simp [gL,List.getD,h]];exact⟨by decide,by decide⟩
theorem Dr.gd {S:Sx}(h:Dr S):Gd S:=by
 have k:=h.vd.2.1;refine⟨⟨by omega,fun i=> ?_,by have:=(Qam.1 h.vd.1).2;omega⟩,fun i=> ?_,h.t⟩
 ·by_cases j:i<S.l.length
  ·have:=(Qe9 h.vd j).2.1;omega
  ·rw [Qhf j];simp
 ·by_cases j:i<S.l.length
  ·obtain⟨_,_,b,c⟩:=Qe9 h.vd j;exact⟨wfI (by omega) (by omega),wfI (by omega) (by omega)⟩
  ·exact Qmg j
theorem Qlv {l:List Lf}{u:List Rn}(h1:l.length<=1001)(h2:∀i,i<l.length ->(gL l i).p.length<=9/\ LfI (gL l i))(h3:u.length<=1001)(h4:BSn u):Gd (mkS l u):=by
 refine⟨⟨by show l.length<=_;omega,fun i=> ?_,by show u.length<=_;omega⟩,fun i=> ?_,fun i=> ?_⟩
 ·show (gL l i).p.length<=_;by_cases j:i<l.length
  ·have:=(h2 i j).1;omega
  ·rw [Qhf j];simp
 ·show LfI (gL l i);by_cases j:i<l.length
  ·exact(h2 i j).2
  ·exact Qmg j
 ·show _<=(gR u i).2.2/\ (gR u i).2.2<=_;by_cases j:i<u.length
  ·have:=h4 _ (QdB j);omega
  ·rw [Qli j];exact⟨by decide,by decide⟩
theorem Ql5 {f:Nat ->Int}{n x:Nat}{S:Sx}(hS:Dr S)(hk:rk f n (rx n x)<256):Gd (spS f n x S):=by
 have h:=hS.vd.2.1;have u:=QhH hS.vd;have g:=(Qam.1 hS.vd.1).2;have r:∀i,i<S.l.length ->(gL S.l i).p.length<=9/\ LfI (gL S.l i):=fun i m=>by
  obtain⟨_,a,b,c⟩:=Qe9 hS.vd m;exact⟨by omega,wfI (by omega) (by omega),wfI (by omega) (by omega)⟩
 have fl:=Qca S;unfold spS;split
 ·obtain⟨a,b⟩:=QnS hk u.br;exact Qlv (by omega) r (by omega) b
 ·rename_i h0;have m:rk f n x/8%S.l.length<S.l.length:=Nat.mod_lt _ (by omega);unfold spL;generalize rk f n x=k at h0 m ⊢;generalize k/8%S.l.length=i at m ⊢;obtain⟨_,a,b,c⟩:=Qe9 hS.vd m;have v:=QnT (k:=k) a b c;generalize spY k (gL S.l i)=y at v ⊢;have e:∀l:List Lf,l.length<=1001 ->i<l.length ->(∀j,j<l.length ->(gL l j).p.length<=9/\ LfI (gL l j)) ->Gd (mkS (l.set i y) (fS S)):=fun l h1 q h3=>by
   refine Qlv (by simpa using h1) (fun j hj=> ?_) (by omega) u.br.bs;rw [Qhg l q y j];split
   ·exact v
   ·exact h3 j (by simpa using hj)
  split
  ·refine e _ (by simp;omega) (by simp;omega) (fun j hj=> ?_);by_cases q:j<S.l.length
   ·rw [QfD _ _ q];exact r j q
   ·have z:j=S.l.length:=by simp at hj;omega
    rw [z,QfC];exact r i m
  ·exact e _ (by omega) m r
theorem Qmz (l:List Lf)(P Q:Nat ->Nat){i:Nat}(hi:i<l.length)(y:Lf)(p pc:Nat):
  (((((((List.range (l.length*5)).map (lCp l P Q)).set (i*5) (.slice (some ⟨p,0,none⟩) y.p.length pc)).set (i*5+1) (.bool y.fl)).set (i*5+2) (.int .i64 y.r)).set (i*5+3) (.int .i64 y.q)).set (i*5+4) (.string y.v))=(List.range (l.length*5)).map (lCp (l.set i y) (fun t=>if t=i then p else P t) (fun t=>if t=i then pc else Q t)):=by
 refine List.ext_getElem (by simp) (fun j h1 h2=> ?_);have o:j<l.length*5:=by simpa using h2
 obtain⟨k,m,u,z,h⟩:=Qok (l.set i y) (fun t=>if t=i then p else P t) (fun t=>if t=i then pc else Q t) i;rw [Qhg l hi y i] at k m u z h;simp only [if_pos] at k m u z h;rw [List.getElem_map,List.getElem_range];by_cases g:j/5=i
 ·obtain e|e|e|e|e:j=i*5 \/j=i*5+1 \/j=i*5+2 \/j=i*5+3 \/j=i*5+4:=by omega
  ·subst e;rw [k];simp [List.getElem_set]
  ·subst e;rw [m];simp [List.getElem_set]
  ·subst e;rw [u];simp [List.getElem_set]
  ·subst e;rw [z];simp [List.getElem_set]
  ·subst e;rw [h];simp [List.getElem_set]
 ·rw [List.getElem_set_ne (by omega),List.getElem_set_ne (by omega),List.getElem_set_ne (by omega),List.getElem_set_ne (by omega),List.getElem_set_ne (by omega),List.getElem_map,List.getElem_range];unfold lCp;rw [Qhg l hi y,if_neg g];simp only [if_neg g]
theorem QaL.moveB {w w':World}{B size:Nat}{v:Value}{n:Nat}{xs:List Value}(h:QaL w B size v n xs)(hs:w.heap.size<=w'.heap.size)(hq:∀q,v.ownBlock=some q ->B<=q ->q<w.heap.size ->w'.heap[q]? =w.heap[q]?):QaL w' B size v n xs:=by
 obtain⟨g,off,c,rfl,k,m,o,z,t,r,u,y⟩:=h;have e:w'.heap[g]? =w.heap[g]? :=hq g rfl k m;exact⟨g,off,c,rfl,k,Nat.lt_of_lt_of_le m hs,o,z,t,fun j hj=>(World.cell?_of_block e).trans (r j hj),fun j hj=>by rw [World.cell?_of_block (a:=⟨g,off+j,none⟩) e];exact u j hj,fun j hj=>(World.frozen?_of_block (a:=⟨g,off+j,none⟩) e).trans (y j hj)⟩
theorem Qlw {w:World}{lo g c:Nat}{ra:Option Addr}{rc:Nat}{l:List Lf}{u:List Rn}{P Q:Nat ->Nat}(h:LC w lo (.slice (some ⟨g,0,none⟩) l.length c) l P Q)(ho:QbU w lo (.slice ra u.length rc) u):SNc w lo (some ⟨g,0,none⟩) c ra (mkS l u):=⟨fun w' h1 h2=>by
 have j:=h.move h1 h2;have k:QbU w' lo (.slice ra u.length rc) u:=QaL.moveB ho h1 (fun q _ a b=>h2 q a b);obtain⟨r,v,m,e,s,_⟩:=k.fs;injection e with e1 e2 e3;subst e1;exact⟨j.lcap rfl,s.rseg⟩,h.cp rfl⟩
structure PtA (w wx:World)(g b7:Nat)(y:Lf)(p pc:Nat):Prop where
 lo:w.heap.size+2<=p
 lt:p<wx.heap.size
 ng:p≠g
 nb:p≠b7
 wr:Wr wx p 9 y.p.length (fun t=> .string (gS y.p t))
 c1:y.p.length<=pc
 c2:pc<=9223372036854775807
structure SpM (w wx:World)(B rb:Nat)(f:Nat ->Int)(n x b7 i:Nat)(l:List Lf)(y:Lf)(u:List Rn)(g c p pc gx cx:Nat)(P Q:Nat ->Nat):Prop where
 bs:Bx2 wx w.heap.size (.slice (some ⟨g,0,none⟩) l.length c) (.slice (some ⟨gx,0,none⟩) u.length cx)
 br:Bx2 wx (w.heap.size+1) (.slice none 0 0) (.slice none 0 0)
 row:wx.ownsRow (w.heap.size+2) 69 5 (.slice (some ⟨g,0,none⟩) l.length c) l.length ((List.range (l.length*5)).map (lCp l P Q))
 pts:∀j,j<l.length ->j≠i ->PtA w wx g b7 (gL l j) (P j) (Q j)
 pt:PtA w wx g b7 y p pc
 ru:QbU wx (w.heap.size+2) (.slice (some ⟨gx,0,none⟩) u.length cx) u
 gn:gx≠g/\ gx≠b7/\ g≠b7
 hb:w.heap.size+2<=b7
 rd:RdJ wx B rb f n x
 gr:w.grownBy wx (some rb)
 z:B<=w.heap.size
section
variable {w wx w1 : World} {B rb n x b7 i : Nat} {f : Nat -> Int} {l : List Lf} {y y' : Lf} {u : List Rn} {g c p pc gx cx p' pc' : Nat} {P Q : Nat -> Nat}
theorem PtA.same (h:PtA w wx g b7 y p pc)(hs:wx.heap.size<=w1.heap.size)(he:w1.heap[p]? =wx.heap[p]?):PtA w w1 g b7 y p pc:=⟨h.lo,Nat.lt_of_lt_of_le h.lt hs,h.ng,h.nb,h.wr.same he,h.c1,h.c2⟩
theorem SpM.glt (h:SpM w wx B rb f n x b7 i l y u g c p pc gx cx P Q):w.heap.size+2<=g/\ g<wx.heap.size:=h.row.lt g rfl
theorem SpM.chg (h:SpM w wx B rb f n x b7 i l y u g c p pc gx cx P Q){r:Nat}(hg:wx.grownBy w1 (some r))(hr:w.heap.size+2<=r/\ r≠g/\ r≠gx/\∀j,j<l.length ->j≠i ->P j≠r)(hpt:PtA w w1 g b7 y' p' pc'):SpM w w1 B rb f n x b7 i l y' u g c p' pc' gx cx P Q:=by
 obtain⟨r1,r2,t,v⟩:=hr;have m:∀b,b<wx.heap.size ->b≠r ->w1.heap[b]? =wx.heap[b]? :=fun b h1 h2=>hg.block b h1 (fun e=>h2 (by injection e));have q:Below (w.heap.size+2) wx w1:=zI.grown hg (by have:=h.br.lt;omega) (fun k e=>by injection e with e;omega);refine⟨h.bs.grw hg (by omega),h.br.grw hg (by omega),Qaq h.row (fun b hb=> ?_),fun j h1 h2=>(h.pts j h1 h2).same hg.size (m _ (h.pts j h1 h2).lt (v j h1 h2)),hpt,QaL.gr h.ru hg (fun e=>by simp [Value.ownBlock] at e;omega),h.gn,h.hb,h.rd.below (q.mono (by have:=h.z;omega)),Qar h.gr (q.mono (Nat.le_add_right _ _)) zL,h.z⟩;have e:g=b:=by simpa [Value.ownBlock] using hb
 exact m b (by have:=h.glt.2;omega) (by omega)
theorem SpM.below (h:SpM w wx B rb f n x b7 i l y u g c p pc gx cx P Q)(hb:Below wx.heap.size wx w1):SpM w w1 B rb f n x b7 i l y u g c p pc gx cx P Q:=
 h.chg (r:=b7) ⟨hb.os,hb.tape,hb.output,hb.size,fun k hk _=>hb.block k hk⟩ ⟨h.hb,h.gn.2.2.symm,h.gn.2.1.symm,fun j h1 h2=>(h.pts j h1 h2).nb⟩ (h.pt.same hb.size (hb.block _ h.pt.lt))
theorem SpM.setB (h:SpM w wx B rb f n x b7 i l y u g c p pc gx cx P Q)(t:Nat)(v:Value)(e:y'.p=y.p):SpM w (wx.setCell ⟨b7,t,none⟩ v) B rb f n x b7 i l y' u g c p pc gx cx P Q:=by
 have m:∀q,q≠b7 ->(wx.setCell ⟨b7,t,none⟩ v).heap[q]? =wx.heap[q]? :=fun q hq=>zH _ _ _ _ (by simpa using hq);refine h.chg (r:=b7) ⟨rfl,rfl,rfl,by simp [World.setCell],fun k hk hne=>m k (fun e=>hne (by rw [e]))⟩ ⟨h.hb,h.gn.2.2.symm,h.gn.2.1.symm,fun j h1 h2=>(h.pts j h1 h2).nb⟩ ?_;have:=h.pt.same (w1:=wx.setCell ⟨b7,t,none⟩ v) (by simp [World.setCell]) (m _ h.pt.nb);exact⟨this.lo,this.lt,this.ng,this.nb,by rw [e];exact this.wr,by rw [e];exact this.c1,this.c2⟩
theorem SpM.fin (h:SpM w wx B rb f n x b7 i l y u g c p pc gx cx P Q)(hi:i<l.length){W5:World}(h5:((((wx.setCell ⟨g,i*5,none⟩ (.slice (some ⟨p,0,none⟩) y.p.length pc)).setCell ⟨g,i*5+1,none⟩ (.bool y.fl)).setCell ⟨g,i*5+2,none⟩ (.int .i64 y.r)).setCell ⟨g,i*5+3,none⟩ (.int .i64 y.q)).setCell ⟨g,i*5+4,none⟩ (.string y.v)=W5):
  Bx2 W5 w.heap.size (.slice (some ⟨g,0,none⟩) l.length c) (.slice (some ⟨gx,0,none⟩) u.length cx)/\ Bx2 W5 (w.heap.size+1) (.slice none 0 0) (.slice none 0 0)/\
  ∀m,(W5.setCell ⟨w.heap.size+1,0,none⟩ (.slice (some ⟨g,0,none⟩) l.length c)).setCell ⟨w.heap.size+1,1,none⟩ (.slice (some ⟨gx,0,none⟩) u.length cx)=m ->Bx2 m (w.heap.size+1) (.slice (some ⟨g,0,none⟩) l.length c) (.slice (some ⟨gx,0,none⟩) u.length cx)/\ SNc m w.heap.size (some ⟨g,0,none⟩) c (some ⟨gx,0,none⟩) (mkS (l.set i y) u)/\ RdJ m B rb f n x/\ w.grownBy m (some rb):=by
 have K:=h.glt;have L:=h.z;have I:W5.heap.size=wx.heap.size:=by rw [<- h5];simp [World.setCell]
 have U:∀b,b≠g ->W5.heap[b]? =wx.heap[b]? :=fun b hb=>by
  rw [<- h5];repeat rw [zH _ _ _ _ (by simpa using hb)]
 have s:∀(X:World) (o:Nat) (v:Value),X.grownBy (X.setCell ⟨g,o,none⟩ v) (some g):=fun X o v=>⟨rfl,rfl,rfl,by simp [World.setCell],fun k hk hne=>zH _ _ _ _ (fun e=>hne (by rw [e]))⟩;have A:wx.grownBy W5 (some g):=by rw [<- h5];exact((((s _ _ _).trans (s _ _ _)).trans (s _ _ _)).trans (s _ _ _)).trans (s _ _ _)
 have V:=h.bs.grw A (by omega);have E:=h.br.grw A (by omega);have Y:Below (w.heap.size+1) wx W5:=zI.grown A (by have:=h.br.lt;omega) (fun k e=>by injection e with e;omega);have H:W5.ownsRow (w.heap.size+2) 69 5 (.slice (some ⟨g,0,none⟩) l.length c) l.length ((List.range (l.length*5)).map (lCp (l.set i y) (fun t=>if t=i then p else P t) (fun t=>if t=i then pc else Q t))):=by
  rw [<- h5,<- Qmz l P Q hi y p pc];exact(((((h.row.stored _ _).1.stored _ _).1.stored _ _).1.stored _ _).1.stored _ _).1
 have Z:LC W5 (w.heap.size+2) (.slice (some ⟨g,0,none⟩) (l.set i y).length c) (l.set i y) (fun t=>if t=i then p else P t) (fun t=>if t=i then pc else Q t):=by
  have M:(l.set i y).length=l.length:=List.length_set;refine⟨by rw [M];exact H,fun j hj=> ?_⟩;rw [M] at hj;rw [Qhg l hi y j];have O:∀{z:Lf} {a b:Nat},PtA w wx g b7 z a b ->w.heap.size+2<=a/\ a<W5.heap.size/\ some a≠(Value.slice (some ⟨g,0,none⟩) (l.set i y).length c).ownBlock/\ Wr W5 a 9 z.p.length (fun t=> .string (gS z.p t))/\ z.p.length<=b/\ b<=9223372036854775807:=fun{z a b} hp=>⟨hp.lo,by rw [I];exact hp.lt,fun e=>hp.ng (by simpa [Value.ownBlock] using e),hp.wr.same (U _ hp.ng),hp.c1,hp.c2⟩;by_cases e:j=i
  ·simp only [if_pos e];exact O h.pt
  ·simp only [if_neg e];exact O (h.pts j hj e)
 have G:QbU W5 (w.heap.size+2) (.slice (some ⟨gx,0,none⟩) u.length cx) u:=QaL.gr h.ru A (fun e=>h.gn.1 (by simpa [Value.ownBlock] using e));refine⟨V,E,?_⟩;rintro m rfl;have b7:Below (w.heap.size+1) wx ((W5.setCell ⟨w.heap.size+1,0,none⟩ (.slice (some ⟨g,0,none⟩) l.length c)).setCell ⟨w.heap.size+1,1,none⟩ (.slice (some ⟨gx,0,none⟩) u.length cx)):=(Y.setCell (p:=⟨w.heap.size+1,0,none⟩) zL _).setCell (p:=⟨w.heap.size+1,1,none⟩) zL _;refine⟨E.set _ _,?_,h.rd.below (b7.mono (by omega)),Qar h.gr (b7.mono (Nat.le_add_right _ _)) zL⟩;have J:=Qlw Z G;refine J.move (Nat.le_add_right _ _) (by simp [World.setCell]) (fun q h1 h2=> ?_);rw [zH _ _ _ _ (by simp;omega),zH _ _ _ _ (by simp;omega)]
end
end Go.Proofs.YtdeolligikjieaaGreatDoor
