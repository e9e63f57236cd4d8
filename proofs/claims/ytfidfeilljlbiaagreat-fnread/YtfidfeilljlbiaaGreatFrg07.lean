import Derived.Test.YtfidfeilljlbiaaGreatFrg06
import Derived.Laws.BytesArg
import Derived.Laws.Concat
import Derived.Test.YtfidfeilljlbiaaGreatFrg04
set_option linter.unusedVariables false
set_option linter.unusedSimpArgs false
set_option maxRecDepth 100000
set_option maxHeartbeats 40000000
namespace Go.Proofs.YtfidfeilljlbiaaGreat
open Go.ChangeShapes Go.WideShapes Go.ChangeAt Go.RowKit
def Wr (w:World)(g:Nat)(t:TypeId)(n:Nat)(C:Nat ->Value):Prop:=∃cur,w.heap[g]? =some (.cells cur t (0,0))/\ n<=cur.size/\∀i,i<n ->cur[i]? =some (C i)
theorem Wr.cell {w:World}{g n:Nat}{t:TypeId}{C:Nat ->Value}(h:Wr w g t n C){i:Nat}(hi:i<n):w.cell? ⟨g,i,none⟩=some (C i):=by
 obtain⟨Ha,h1,h2,h3⟩:=h;simp [World.cell?,h1,h3 i hi]
theorem Wr.frozen {w:World}{g n:Nat}{t:TypeId}{C:Nat ->Value}(h:Wr w g t n C)(i:Nat):w.frozen? ⟨g,i,none⟩=false:=by
 obtain⟨Ha,h1,h2,h3⟩:=h;simp [World.frozen?,h1]
theorem Wr.same {w w':World}{g n:Nat}{t:TypeId}{C:Nat ->Value}(h:Wr w g t n C)(e:w'.heap[g]? =w.heap[g]?):Wr w' g t n C:=by
 obtain⟨Ha,h1,r⟩:=h;exact⟨Ha,e.trans h1,r⟩
theorem Wr.lt {w:World}{g n:Nat}{t:TypeId}{C:Nat ->Value}(h:Wr w g t n C):g<w.heap.size:=by
 obtain⟨Ha,h1,_⟩:=h;exact(Array.getElem?_eq_some_iff.1 h1).1
def ltS (s t:ByteArray):Bool:=Op.bytesLess s.toList t.toList
def eqS (s t:ByteArray):Bool:=s.toList==t.toList
def cmpS (s t:ByteArray):Int:=if ltS s t=true then -1 else if eqS s t=true then 0 else 1
def cmpP:List ByteArray ->List ByteArray ->Int
 | [],[]=>0
 | [],_::_=> -1
 | _::_,[]=>1
 | s::p,t::q=>if cmpS s t=0 then cmpP p q else cmpS s t
theorem SSeg.tail {w:World}{b o:Nat}{s:ByteArray}{p:List ByteArray}(hb:b<w.heap.size)(h:∀i,i<(s::p).length ->w.cell? ⟨b,o+i,none⟩=some (.string (gS (s::p) i))):SSeg w (some ⟨b,o+1,none⟩) p:=
 .inr ⟨b,o+1,rfl,hb,fun i hi=>by
  have e:=h (i+1) (by simp;omega);rw [show o+(i+1)=o+1+i by omega] at e;exact e⟩
theorem SSeg.drews {w:World}{a:Option Addr}{p:List ByteArray}(h:SSeg w a p){k:Nat}:SSeg (w.drewN k) a p:=h
theorem ret_i {x y:Int}(h:x=y):Ending.returned (.int .i64 x)=.returned (.int .i64 y):=by rw [h]
theorem cmpSpec:∀(p q:List ByteArray) (a b:Option Addr) (c d:Nat) (w:World),p.length<=c ->q.length<=d ->c<=9223372036854775807 ->d<=9223372036854775807 ->SSeg w a p ->SSeg w b q ->
  Calls Tryz.prog 37 #[.slice a p.length c,.slice b q.length d] w fun e w'=>e=.returned (.int .i64 (cmpP p q))/\∃k,w'=w.drewN k
 | [],[],a,b,c,d,w,_,_,_,_,_,_=>by
  go_enter Tryz.func37,Tryz.ntmps37;go_wp2_with fail;go_ret;exact⟨rfl,0,rfl⟩
 | [],t::q,a,b,c,d,w,_,_,_,_,_,_=>by
  have d0:(((t::q).length:Int)==0)=false:=by simp;omega
  go_enter Tryz.func37,Tryz.ntmps37;go_wp2_with fail;go_ret;exact⟨rfl,0,rfl⟩
 | s::p,[],a,b,c,d,w,_,_,_,_,_,_=>by
  have d0:(((s::p).length:Int)==0)=false:=by simp;omega
  go_enter Tryz.func37,Tryz.ntmps37;go_wp2_with fail;go_ret;exact⟨rfl,0,rfl⟩
 | s::p,t::q,a,b,c,d,w,hc,hd,hc',hd',h,h'=>by
  obtain⟨n,hn⟩:∃n,(s::p).length=n:=⟨_,rfl⟩;obtain⟨m,hm⟩:∃m,(t::q).length=m:=⟨_,rfl⟩;rcases h with h|⟨b1,o1,rfl,Hf,h⟩
  ·simp at h
  rcases h' with h'|⟨b2,o2,rfl,Hg,h'⟩
  ·simp at h'
  have x0:w.cell? ⟨b1,o1,none⟩=some (.string s):=by simpa [gS] using h 0 (by simp)
  have y0:w.cell? ⟨b2,o2,none⟩=some (.string t):=by simpa [gS] using h' 0 (by simp)
  have n1:n=p.length+1:=by rw [<- hn];simp
  have m1:m=q.length+1:=by rw [<- hm];simp
  have Hb:=hid (SSeg.tail Hf h);have Hc:=hid (SSeg.tail Hg h');have d0:((n:Int)==0)=false:=by simp;omega
  have d1:((m:Int)==0)=false:=by simp;omega
  have HN:=hid n1;have HM:=hid m1;have Hn:(0:Int)<(n:Int):=by omega
  have Hl:(0:Int)<(m:Int):=by omega
  have Hj:n<=c:=by rw [<- hn];exact hc
  have Hk:m<=d:=by rw [<- hm];exact hd
  rw [hn,hm];clear n1 m1 hn hm hc hd h h';by_cases hl:Op.bytesLess s.toList t.toList=true
  ·have HC:Hid (cmpP (s::p) (t::q)= -1):=hid (by simp [cmpP,cmpS,ltS,hl]);clear Hb Hc;go_enter Tryz.func37,Tryz.ntmps37;go_wp2_with fail;go_quiet (fail);go_wp2_with fail;go_ret;exact⟨ret_i HC.out.symm,_,rfl⟩
  ·have hl:Op.bytesLess s.toList t.toList=false:=by simpa using hl
   by_cases he:(s.toList==t.toList)=true
   ·have HC:Hid (cmpP (s::p) (t::q)=cmpP p q):=hid (by simp only [cmpP,cmpS,ltS,eqS,hl,he];simp);have HR:Hid (∀A B W,SSeg W A p ->SSeg W B q ->Calls Tryz.prog 37 #[.slice A (n - 1) (c - 1),.slice B (m - 1) (d - 1)] W fun e w'=>e=.returned (.int .i64 (cmpP p q))/\∃m,w'=W.drewN m):=hid (fun A B W hA hB=>by
     have e1:=HN.out;have e2:=HM.out;rw [show n - 1=p.length by omega,show m - 1=q.length by omega];exact cmpSpec p q A B (c - 1) (d - 1) _ (by omega) (by omega) (by omega) (by omega) hA hB)
    have Ho:(1:Int)<=(n:Int):=by omega
    have Hm:(1:Int)<=(m:Int):=by omega
    go_enter Tryz.func37,Tryz.ntmps37;go_wp2_with fail;go_quiet (fail);obtain⟨W1,Ha⟩:∃W1,w.drewN nq=W1:=⟨_,rfl⟩;rw [Ha];have x1:W1.cell? ⟨b1,o1,none⟩=some (.string s):=by rw [<- Ha];exact x0
    have y1:W1.cell? ⟨b2,o2,none⟩=some (.string t):=by rw [<- Ha];exact y0
    have He:=hid Ha;clear Ha;go_wp2_with fail;go_quiet (fail);obtain⟨W2,Hd⟩:∃W2,W1.drewN nq=W2:=⟨_,rfl⟩;rw [Hd];have HW:Hid (∃k,W2=w.drewN k):=hid ⟨_,by rw [<- Hd,<- He.out,World.drewN_drewN]⟩;clear Hd He x1 y1;go_wp2_with fail;by_cases Hi:1<c
    ·skip;by_cases Hh:1<d
     ·skip;have HA:Hid (SSeg W2 (some ⟨b1,o1+1,none⟩) p):=hid (by obtain⟨k,e⟩:=HW.out;rw [e];exact Hb.out);have HB:Hid (SSeg W2 (some ⟨b2,o2+1,none⟩) q):=hid (by obtain⟨k,e⟩:=HW.out;rw [e];exact Hc.out);go_quiet ((go_at_call 37;exact Calls.quiet_of (HR.out _ _ _ HA.out.drews HB.out.drews)));clear HA HB HR;go_wp2_with fail;go_ret;obtain⟨k,e⟩:=HW.out;exact⟨ret_i HC.out.symm,_,by rw [e,World.drewN_drewN]⟩
     ·skip;have HA:Hid (SSeg W2 (some ⟨b1,o1+1,none⟩) p):=hid (by obtain⟨k,e⟩:=HW.out;rw [e];exact Hb.out);have HB:=hid (show SSeg W2 (some ⟨b2,o2,none⟩) q from .inl (by have:=HM.out;omega));go_quiet ((go_at_call 37;exact Calls.quiet_of (HR.out _ _ _ HA.out.drews HB.out.drews)));clear HA HB HR;go_wp2_with fail;go_ret;obtain⟨k,e⟩:=HW.out;exact⟨ret_i HC.out.symm,_,by rw [e,World.drewN_drewN]⟩
    ·skip;by_cases Hh:1<d
     ·skip;have HA:=hid (show SSeg W2 (some ⟨b1,o1,none⟩) p from .inl (by have:=HN.out;omega));have HB:Hid (SSeg W2 (some ⟨b2,o2+1,none⟩) q):=hid (by obtain⟨k,e⟩:=HW.out;rw [e];exact Hc.out);go_quiet ((go_at_call 37;exact Calls.quiet_of (HR.out _ _ _ HA.out.drews HB.out.drews)));clear HA HB HR;go_wp2_with fail;go_ret;obtain⟨k,e⟩:=HW.out;exact⟨ret_i HC.out.symm,_,by rw [e,World.drewN_drewN]⟩
     ·skip;have HA:=hid (show SSeg W2 (some ⟨b1,o1,none⟩) p from .inl (by have:=HN.out;omega));have HB:=hid (show SSeg W2 (some ⟨b2,o2,none⟩) q from .inl (by have:=HM.out;omega));go_quiet ((go_at_call 37;exact Calls.quiet_of (HR.out _ _ _ HA.out.drews HB.out.drews)));clear HA HB HR;go_wp2_with fail;go_ret;obtain⟨k,e⟩:=HW.out;exact⟨ret_i HC.out.symm,_,by rw [e,World.drewN_drewN]⟩
   ·have he:(s.toList==t.toList)=false:=by simpa using he
    have HC:Hid (cmpP (s::p) (t::q)=1):=hid (by simp [cmpP,cmpS,ltS,eqS,hl,he]);clear Hb Hc;go_enter Tryz.func37,Tryz.ntmps37;go_wp2_with fail;go_quiet (fail);go_wp2_with fail;go_quiet (fail);go_wp2_with fail;go_ret;exact⟨ret_i HC.out.symm,_,World.drewN_drewN _ _ _⟩
theorem cmpStr (s t:ByteArray)(w:World):Calls Tryz.prog 100 #[.string s,.string t] w fun e w'=>e=.returned (.int .i64 (cmpS s t))/\ w'=w:=by
 have Ha:∀(s:ByteArray) (w:World),Calls Tryz.prog 122 #[.string s] w fun e w'=>e=.returned (.bool false)/\ w'=w:=fun s w=>by
  have e:(s.toList==s.toList)=true:=by simp
  go_enter Tryz.func122,Tryz.ntmps122;go_wp2_with fail;go_ret;exact⟨rfl,rfl⟩
 by_cases hl:Op.bytesLess s.toList t.toList=true
 ·have HC:Hid (cmpS s t= -1):=hid (by simp [cmpS,ltS,hl]);go_enter Tryz.func100,Tryz.ntmps100;go_wp2_with (go_at_call 122;refine(Ha _ _).mono ?_;rintro e w' ⟨rfl,rfl⟩);go_ret;exact⟨ret_i HC.out.symm,rfl⟩
 ·have hl:Op.bytesLess s.toList t.toList=false:=by simpa using hl
  by_cases he:(s.toList==t.toList)=true
  ·have HC:Hid (cmpS s t=0):=hid (by simp only [cmpS,ltS,eqS,hl,he];simp);go_enter Tryz.func100,Tryz.ntmps100;go_wp2_with (go_at_call 122;refine(Ha _ _).mono ?_;rintro e w' ⟨rfl,rfl⟩);go_ret;exact⟨ret_i HC.out.symm,rfl⟩
  ·have he:(s.toList==t.toList)=false:=by simpa using he
   have HC:Hid (cmpS s t=1):=hid (by simp [cmpS,ltS,eqS,hl,he]);go_enter Tryz.func100,Tryz.ntmps100;go_wp2_with (go_at_call 122;refine(Ha _ _).mono ?_;rintro e w' ⟨rfl,rfl⟩);go_ret;exact⟨ret_i HC.out.symm,rfl⟩
theorem drop_gS {p:List ByteArray}{k:Nat}(h:k<p.length):p.drop k=gS p k::p.drop (k+1):=by
 rw [List.drop_eq_getElem_cons h];simp [gS,List.getD,h]
theorem cmpP_one {p q:List ByteArray}{k:Nat}(h:k<p.length)(h':q.length<=k):cmpP (p.drop k) (q.drop k)=1:=by
 rw [drop_gS h,List.drop_eq_nil_of_le h'];rfl
theorem cmpP_neg {p q:List ByteArray}{k:Nat}(h:p.length<=k)(h':k<q.length):cmpP (p.drop k) (q.drop k)= -1:=by
 rw [drop_gS h',List.drop_eq_nil_of_le h];rfl
theorem cmpP_nil {p q:List ByteArray}{k:Nat}(h:p.length<=k)(h':q.length<=k):cmpP (p.drop k) (q.drop k)=0:=by
 rw [List.drop_eq_nil_of_le h',List.drop_eq_nil_of_le h];rfl
theorem cmpP_go {p q:List ByteArray}{k:Nat}(h:k<p.length)(h':k<q.length):cmpP (p.drop k) (q.drop k)=if cmpS (gS p k) (gS q k)=0 then cmpP (p.drop (k+1)) (q.drop (k+1)) else cmpS (gS p k) (gS q k):=by
 rw [drop_gS h,drop_gS h'];rfl
theorem cmpImpl (p q:List ByteArray)(a b:Option Addr)(c d:Nat)(w:World)(hp:p.length<=1048576)(hq:q.length<=1048576)(h:SSeg w a p)(h':SSeg w b q):
  Calls Tryz.prog 142 #[.slice a p.length c,.slice b q.length d] w fun e w'=>e=.returned (.int .i64 (cmpP p q))/\ w'=w:=by
 go_enter Tryz.func142,Tryz.ntmps142;go_wp2_with fail;go_loop [11] (fun i=>∃k:Nat,k<=p.length/\ i=.int .i64 (k:Int)/\ k<=q.length/\ Hid (cmpP p q=cmpP (p.drop k) (q.drop k))) (fun i=>p.length - (intOf i).toNat);case atStart=>exact⟨0,Nat.zero_le _,rfl,Nat.zero_le _,hid rfl⟩
 case round=>
  obtain⟨k,hk,rfl,Hg,HE⟩:=hrel;by_cases Hb:k<p.length
  ·rcases h with h|⟨b1,o1,rfl,He,Hc⟩
   ·omega
   have x0:=Hc k Hb;have i1:(0:Int)<=(k:Int):=Int.natCast_nonneg _;have i2:(k:Int)<(p.length:Int):=by omega
   by_cases Ha:k<q.length
   ·rcases h' with h'|⟨b2,o2,rfl,Hf,Hd⟩
    ·omega
    have y0:=Hd k Ha;have i3:(k:Int)<(q.length:Int):=by omega
    have i4:decide ((q.length:Int)<=(k:Int))=false:=by simp;omega
    have HG:=hid (cmpP_go Hb Ha);obtain⟨s,hs⟩:∃s,gS p k=s:=⟨_,rfl⟩;obtain⟨t,ht⟩:∃t,gS q k=t:=⟨_,rfl⟩;rw [hs] at x0;rw [ht] at y0;have HG:Hid (cmpP p q=if cmpS s t=0 then cmpP (p.drop (k+1)) (q.drop (k+1)) else cmpS s t):=hid (by rw [HE.out,HG.out,hs,ht]);have HC:=hid (cmpStr s t w);obtain⟨x,hx⟩:∃x,cmpS s t=x:=⟨_,rfl⟩;rw [hx] at HC HG;clear Hc Hd hs ht HE hx;go_wp2_with fail;refine HC.out.mono ?_;rintro e w' ⟨rfl,rfl⟩;by_cases h0:x=0
    ·subst h0;have HG:Hid (cmpP p q=cmpP (p.drop (k+1)) (q.drop (k+1))):=hid (by rw [HG.out,if_pos rfl]);go_wp2_with fail;go_round;case rel=>exact⟨k+1,Hb,by go_num,Ha,HG⟩
     case measure=>simp [intOf];omega
    ·have HG:Hid (cmpP p q=x):=hid (by rw [HG.out,if_neg h0]);have n0:(x !=0)=true:=by simpa using h0
     go_wp2_with fail;go_ret;exact⟨ret_i HG.out.symm,rfl⟩
   ·have i4:decide ((q.length:Int)<=(k:Int))=true:=by simp;omega
    have HG:Hid (cmpP p q=1):=hid (by rw [HE.out];exact cmpP_one Hb (by omega));clear Hc HE;go_wp2_with fail;go_ret;exact⟨ret_i HG.out.symm,rfl⟩
  ·obtain rfl:k=p.length:=by omega
   by_cases Ha:p.length<q.length
   ·have HG:Hid (cmpP p q= -1):=hid (by rw [HE.out];exact cmpP_neg zL Ha);have i4:decide ((p.length:Int)<(q.length:Int))=true:=by simp;omega
    clear h h' HE;go_wp2_with fail;go_ret;exact⟨ret_i HG.out.symm,rfl⟩
   ·have HG:Hid (cmpP p q=0):=hid (by rw [HE.out];exact cmpP_nil zL (by omega));have i4:decide ((p.length:Int)<(q.length:Int))=false:=by simp;omega
    clear h h' HE;go_wp2_with fail;go_ret;exact⟨ret_i HG.out.symm,rfl⟩
def PthOk (p:List ByteArray):Prop:=1<=p.length/\ p.length<=8/\∀i,i<p.length ->1<=(gS p i).size/\ (gS p i).size<=40
noncomputable def yes (P:Prop):Bool:=@decide P (Classical.propDecidable P)
theorem yes_t {P:Prop}(h:P):yes P=true:=by unfold yes;exact @decide_eq_true _ (Classical.propDecidable P) h
theorem yes_f {P:Prop}(h:¬P):yes P=false:=by unfold yes;exact @decide_eq_false _ (Classical.propDecidable P) h
theorem yes_iff {P:Prop}:yes P=true↔P:=⟨fun h=>by unfold yes at h;exact @of_decide_eq_true _ (Classical.propDecidable P) h,yes_t⟩
theorem ret_b {x y:Bool}(h:x=y):Ending.returned (.bool x)=.returned (.bool y):=by rw [h]
theorem pathSpec (p:List ByteArray)(a:Option Addr)(c:Nat)(w:World)(hp:p.length<=1048576)(h:SSeg w a p):
  Calls Tryz.prog 25 #[.slice a p.length c] w fun e w'=>e=.returned (.bool (yes (PthOk p)))/\ w'=w:=by
 go_enter Tryz.func25,Tryz.ntmps25;go_wp2_with fail;go_loop [3] (fun i=>∃k:Nat,k<=p.length/\ i=.int .i64 (k:Int)/\ Hid (∀j,j<k ->1<=(gS p j).size/\ (gS p j).size<=40)) (fun i=>p.length - (intOf i).toNat);case atStart=>exact⟨0,Nat.zero_le _,rfl,hid (fun j hj=>by omega)⟩
 case round=>
  obtain⟨k,hk,rfl,HE⟩:=hrel;by_cases Ha:k<p.length
  ·rcases h with h|⟨b1,o1,rfl,Hc,Hb⟩
   ·omega
   have x0:=Hb k Ha;have i1:(0:Int)<=(k:Int):=Int.natCast_nonneg _;have i2:(k:Int)<(p.length:Int):=by omega
   obtain⟨s,hs⟩:∃s,gS p k=s:=⟨_,rfl⟩;rw [hs] at x0;have HS:=hid hs;clear Hb hs;by_cases h1:(s.size:Int)<1
   ·have d1:decide ((s.size:Int)<1)=true:=by simpa using h1
    have HG:Hid (yes (PthOk p)=false):=hid (yes_f (fun h=>by have:=(h.2.2 k Ha).1;rw [HS.out] at this;omega));go_wp2_with fail;go_ret;exact⟨ret_b HG.out.symm,rfl⟩
   ·have d1:decide ((s.size:Int)<1)=false:=by simpa using h1
    by_cases h2:(40:Int)<(s.size:Int)
    ·have d2:decide ((40:Int)<(s.size:Int))=true:=by simpa using h2
     have HG:Hid (yes (PthOk p)=false):=hid (yes_f (fun h=>by have:=(h.2.2 k Ha).2;rw [HS.out] at this;omega));go_wp2_with fail;go_ret;exact⟨ret_b HG.out.symm,rfl⟩
    ·have d2:decide ((40:Int)<(s.size:Int))=false:=by simpa using h2
     have HG:Hid (∀j,j<k+1 ->1<=(gS p j).size/\ (gS p j).size<=40):=hid (fun j hj=>by
      by_cases e:j=k
      ·rw [e,HS.out];omega
      ·exact HE.out j (by omega))
     go_wp2_with fail;go_round;case rel=>exact⟨k+1,Ha,by go_num,HG⟩
     case measure=>simp [intOf];omega
  ·obtain rfl:k=p.length:=by omega
   have HG:Hid (yes (PthOk p)=decide (1<=p.length/\ p.length<=8)):=hid (by
    by_cases q:1<=p.length/\ p.length<=8
    ·rw [yes_t ⟨q.1,q.2,HE.out⟩,decide_eq_true q]
    ·rw [yes_f (fun h=>q ⟨h.1,h.2.1⟩),decide_eq_false q])
   clear h HE;by_cases h1:(1:Int)<=(p.length:Int)
   ·have d1:decide ((1:Int)<=(p.length:Int))=true:=by simpa using h1
    by_cases h2:(p.length:Int)<=8
    ·have d2:decide ((p.length:Int)<=8)=true:=by simpa using h2
     have HG:Hid (yes (PthOk p)=true):=hid (by rw [HG.out];exact decide_eq_true (by omega));go_wp2_with fail;go_ret;exact⟨ret_b HG.out.symm,rfl⟩
    ·have d2:decide ((p.length:Int)<=8)=false:=by simpa using h2
     have HG:Hid (yes (PthOk p)=false):=hid (by rw [HG.out];exact decide_eq_false (by omega));go_wp2_with fail;go_ret;exact⟨ret_b HG.out.symm,rfl⟩
   ·have d1:decide ((1:Int)<=(p.length:Int))=false:=by simpa using h1
    have HG:Hid (yes (PthOk p)=false):=hid (by rw [HG.out];exact decide_eq_false (by omega));go_wp2_with fail;go_ret;exact⟨ret_b HG.out.symm,rfl⟩
theorem pathImpl (p:List ByteArray)(a:Option Addr)(c:Nat)(w:World)(hp:p.length<=1048576)(h:SSeg w a p):
  Calls Tryz.prog 33 #[.slice a p.length c] w fun e w'=>e=.returned (.bool (yes (PthOk p)))/\ w'=w:=by
 by_cases h1:(p.length:Int)<1
 ·have d1:decide ((p.length:Int)<1)=true:=by simpa using h1
  have HG:Hid (yes (PthOk p)=false):=hid (yes_f (fun h=>by have:=h.1;omega));clear h;go_enter Tryz.func33,Tryz.ntmps33;go_wp2_with fail;go_ret;exact⟨ret_b HG.out.symm,rfl⟩
 ·have d1:decide ((p.length:Int)<1)=false:=by simpa using h1
  by_cases h2:(8:Int)<(p.length:Int)
  ·have d2:decide ((8:Int)<(p.length:Int))=true:=by simpa using h2
   have HG:Hid (yes (PthOk p)=false):=hid (yes_f (fun h=>by have:=h.2.1;omega));clear h;go_enter Tryz.func33,Tryz.ntmps33;go_wp2_with fail;go_ret;exact⟨ret_b HG.out.symm,rfl⟩
  ·have d2:decide ((8:Int)<(p.length:Int))=false:=by simpa using h2
   go_enter Tryz.func33,Tryz.ntmps33;go_wp2_with fail;clear d1 d2;go_loop [15] (fun i=>∃k:Nat,k<=p.length/\ i=.int .i64 (k:Int)/\ Hid (∀j,j<k ->1<=(gS p j).size/\ (gS p j).size<=40)) (fun i=>p.length - (intOf i).toNat);case atStart=>exact⟨0,Nat.zero_le _,rfl,hid (fun j hj=>by omega)⟩
   case round=>
    obtain⟨k,hk,rfl,HE⟩:=hrel;by_cases Ha:k<p.length
    ·rcases h with h|⟨b1,o1,rfl,Hc,Hb⟩
     ·omega
     have x0:=Hb k Ha;have i1:(0:Int)<=(k:Int):=Int.natCast_nonneg _;have i2:(k:Int)<(p.length:Int):=by omega
     obtain⟨s,hs⟩:∃s,gS p k=s:=⟨_,rfl⟩;rw [hs] at x0;have HS:=hid hs;clear Hb hs;by_cases h1:(s.size:Int)<1
     ·have d1:decide ((s.size:Int)<1)=true:=by simpa using h1
      have HG:Hid (yes (PthOk p)=false):=hid (yes_f (fun h=>by have:=(h.2.2 k Ha).1;rw [HS.out] at this;omega));go_wp2_with fail;go_ret;exact⟨ret_b HG.out.symm,rfl⟩
     ·have d1:decide ((s.size:Int)<1)=false:=by simpa using h1
      by_cases h2:(40:Int)<(s.size:Int)
      ·have d2:decide ((40:Int)<(s.size:Int))=true:=by simpa using h2
       have HG:Hid (yes (PthOk p)=false):=hid (yes_f (fun h=>by have:=(h.2.2 k Ha).2;rw [HS.out] at this;omega));go_wp2_with fail;go_ret;exact⟨ret_b HG.out.symm,rfl⟩
      ·have d2:decide ((40:Int)<(s.size:Int))=false:=by simpa using h2
       have HG:Hid (∀j,j<k+1 ->1<=(gS p j).size/\ (gS p j).size<=40):=hid (fun j hj=>by
        by_cases e:j=k
        ·rw [e,HS.out];omega
        ·exact HE.out j (by omega))
       go_wp2_with fail;go_round;case rel=>exact⟨k+1,Ha,by go_num,HG⟩
       case measure=>simp [intOf];omega
    ·obtain rfl:k=p.length:=by omega
     have HG:Hid (yes (PthOk p)=true):=hid (yes_t ⟨by omega,by omega,HE.out⟩);clear h HE;go_wp2_with fail;go_ret;exact⟨ret_b HG.out.symm,rfl⟩
open Go.Maps
theorem last_cell {w:World}{B g n cap:Nat}{l:List (Int×Int)}(h:w.ownsRow B 142 2 (.slice (some ⟨g,0,none⟩) n cap) n (spanCells l))(hl:l.length=n)(h0:0<n):
  w.cell? ⟨g,(n - 1)*2+1,none⟩=some (.int .i64 (lastTo l)):=by
 rw [h.cellAt _ (by omega)];obtain⟨l',p,rfl⟩:∃l' p,l=l'++[p]:=⟨l.dropLast,l.getLast (by intro e;rw [e] at hl;simp at hl;omega),(List.dropLast_concat_getLast _).symm⟩;have Ha:(spanCells l').length=l'.length*2:=by
  clear h hl;induction l' with
  | nil=>rfl
  | cons a l ih=>simp [spanCells] at*;omega
 simp at hl;rw [lastTo_snoc,spanCells_append,List.getElem?_append_right (by rw [Ha];omega),Ha,show (n - 1)*2+1 - l'.length*2=1 from by omega];rfl
theorem greatest {w:World}{bm n:Nat}{D:DataW Value}{G:Int ->Value}{L:Int ->List (Int×Int)}(h:GrpAt w bm n D G L)(r:Int)(hr:(Lit.int .i64 r).wf=true)(hl:(L r).length<=1000000):
  Calls Tryz.prog 74 #[.map (some bm),.int .i64 r] w fun e w'=>e=.returned (.int .i64 (lastTo (L r)))/\ w'=w:=by
 have He:=h.look r hr;have Ha:=h.rows r;rcases Ha.2 with ⟨e,e0⟩|⟨g,Hi,Hj,e,hb,hg,Hh,Hf,Hg,Hc⟩
 ·have Hb:L r=[]:=List.eq_nil_of_length_eq_zero e0;have HE:Hid (lastTo (L r)=0):=by rw [Hb];rfl
  rw [e] at He;clear Ha e e0 h Hb;go_enter Tryz.func74,Tryz.ntmps74;go_wp2_with fail;go_ret;exact⟨ret_int HE.out.symm,rfl⟩
 ·rw [e] at He Ha;unfold maxLen at Hf;by_cases h0:(L r).length=0
  ·have Hb:L r=[]:=List.eq_nil_of_length_eq_zero h0;have HE:Hid (lastTo (L r)=0):=by rw [Hb];rfl
   rw [h0] at He;clear Ha e h Hb Hg Hc hg hb Hh Hf;go_enter Tryz.func74,Tryz.ntmps74;go_wp2_with fail;go_ret;exact⟨ret_int HE.out.symm,rfl⟩
  ·have hc:=last_cell Ha rfl (by omega);generalize Hd:(L r).length=m at*;have HL:=hid Hd;have e1:((m:Int) - 1).toNat=m - 1:=by omega
   have e2:(1:Int)<=(m:Int):=by omega
   have e3:((m:Int)==0)=false:=by simp;omega
   clear Ha e h Hg Hc hg hb Hd h0;go_enter Tryz.func74,Tryz.ntmps74;go_wp2_with fail;go_ret;exact⟨rfl,rfl⟩
def cmpI (x y:Int):Int:=if x<y then -1 else if y<x then 1 else 0
theorem compare (x y:Int)(w:World):Calls Tryz.prog 101 #[.int .i64 x,.int .i64 y] w fun e w'=>e=.returned (.int .i64 (cmpI x y))/\ w'=w:=by
 by_cases h1:x<y
 ·have HE:Hid (cmpI x y= -1):=if_pos h1;go_enter Tryz.func101,Tryz.ntmps101;go_wp2;go_ret;exact⟨ret_int HE.out.symm,rfl⟩
 ·by_cases h2:y<x
  ·have HE:Hid (cmpI x y=1):=by unfold Hid cmpI;rw [if_neg h1,if_pos h2]
   go_enter Tryz.func101,Tryz.ntmps101;go_wp2;go_ret;exact⟨ret_int HE.out.symm,rfl⟩
  ·have HE:Hid (cmpI x y=0):=by unfold Hid cmpI;rw [if_neg h1,if_neg h2]
   go_enter Tryz.func101,Tryz.ntmps101;go_wp2;go_ret;exact⟨ret_int HE.out.symm,rfl⟩
theorem holds1 (f t q:Int)(w:World):Calls Tryz.prog 165 #[.agg #[.int .i64 f,.int .i64 t],.int .i64 q] w fun e w'=>e=.returned (.int .i64 (cmpI t q))/\ Below w.heap.size w w':=by
 go_enter Tryz.func165,Tryz.ntmps165;go_wp2_with fail;refine(compare t q _).mono ?_;rintro e w1 ⟨rfl,rfl⟩;go_wp2_with fail;go_ret;exact⟨rfl,zO _ _⟩
theorem bsearch (a:Option Addr)(n c:Nat)(f t:Nat ->Int)(q:Int)(w:World)(hn:n<=1000000)(h:SS w a n f t)(hm:∀i j,i<j ->j<n ->t i<t j):
  Calls Tryz.prog 164 #[.slice a n c,.int .i64 q,.func (.func 165) #[] #[]] w fun e w'=>∃(i:Nat) (b:Bool),e=.returned (.tuple #[.int .i64 i,.bool b])/\ i<=n/\ (∀j,j<i ->t j<q)/\ (∀j,i<=j ->j<n ->q<=t j)/\ Below w.heap.size w w':=by
 go_enter Tryz.func164,Tryz.ntmps164;go_wp2_with fail;go_loopw [9,10] (fun vi vj wr=>∃i j:Nat,i<=j/\ j<=n/\ vi=.int .i64 i/\ vj=.int .i64 j/\ (∀k,k<i ->t k<q)/\ (∀k,j<=k ->k<n ->q<=t k)/\ Below w.heap.size w wr) (fun vi vj _=>(intOf vj).toNat - (intOf vi).toNat);case atStart=>exact⟨0,n,Nat.zero_le _,Nat.le_refl _,rfl,rfl,fun k hk=>by omega,fun k h1 h2=>by omega,zI⟩
 case round=>
  obtain⟨i,j,Hl,Hj,rfl,rfl,Hd,Hc,Ha⟩:=hrel;have HL:=hid Hd;have HH:=hid Hc;have HM:=hid hm;have HB:=hid Ha;rcases h with h|⟨b,He,rfl,hb,hc⟩
  ·have Hh:i=0:=by omega
   have Hi:j=0:=by omega
   subst h Hh Hi;clear Hd Hc Ha hm;go_wp2_with fail;go_ret2;exact⟨0,false,rfl,by omega,fun k hk=>by omega,fun k _ hk=>by omega,HB.out⟩
  by_cases Hn:i<j
  ·obtain⟨m,Hk⟩:∃m:Nat,m=(i+j)/2:=⟨_,rfl⟩;have Hf:((i:Int)+(j:Int))/2=(m:Int):=by omega
   have c0:=(Ha.cell (p:=⟨b,He+m*2,none⟩) hb).trans (hc m (by omega)).1;have c1:=(Ha.cell (p:=⟨b,He+m*2+1,none⟩) hb).trans (hc m (by omega)).2;have Ho:i<=m:=by omega
   have Hp:m<j:=by omega
   clear Hd Hc Ha hm hc Hk;go_wp2_with fail;refine(holds1 (f m) (t m) q _).mono ?_;rintro e w2 ⟨rfl,b2⟩;have HZ:=hid (keepS HB.out b2);clear b2;by_cases Hb:t m<q
   ·rw [show cmpI (t m) q= -1 from if_pos Hb];have HX:Hid (∀k,k<m+1 ->t k<q):=fun k hk=>by
     by_cases e:k=m
     ·subst e;exact Hb
     ·have:=HM.out k m (by omega) (by omega);omega
    clear c0 c1 Hb Hf;go_wp2_with fail;go_roundw;case rel=>exact⟨m+1,j,by omega,Hj,by go_num,rfl,HX.out,HH.out,HZ.out⟩
    case measure=>simp [intOf];omega
   ·have Hg:0<=cmpI (t m) q:=by unfold cmpI;rw [if_neg Hb];split<;>omega
    generalize cmpI (t m) q=cv at Hg;have HX:Hid (∀k,m<=k ->k<n ->q<=t k):=fun k h1 h2=>by
     by_cases e:k=m
     ·subst e;omega
     ·have:=HM.out m k (by omega) (by omega);omega
    clear c0 c1 Hb Hf;go_wp2_with fail;go_roundw;case rel=>exact⟨i,m,by omega,by omega,rfl,rfl,HL.out,HX.out,HZ.out⟩
    case measure=>simp [intOf];omega
  ·obtain rfl:i=j:=by omega
   clear Hd Hc hm;by_cases Hm:i<n
   ·have c0:=(Ha.cell (p:=⟨b,He+i*2,none⟩) hb).trans (hc i (by omega)).1;have c1:=(Ha.cell (p:=⟨b,He+i*2+1,none⟩) hb).trans (hc i (by omega)).2;clear hc Ha;go_wp2_with fail;refine(holds1 (f i) (t i) q _).mono ?_;rintro e w2 ⟨rfl,b2⟩;have HZ:=hid (keepS HB.out b2);clear b2 c0 c1;generalize cmpI (t i) q=cv;go_wp2_with fail;go_ret2;exact⟨i,cv==0,rfl,by omega,HL.out,HH.out,HZ.out⟩
   ·clear hc Ha;go_wp2_with fail;go_ret2;exact⟨i,false,rfl,by omega,HL.out,HH.out,HB.out⟩
def inB (l:List (Int×Int))(f t:Int):Bool:=l.any fun p=>decide (p.1<=f/\ t<=p.2)
theorem in_iff {l:List (Int×Int)}(h:Srt l)(f t:Int)(i:Nat)(hi:i<=l.length)(hlo:∀j,j<i ->(l.getD j (0,0)).2<t)(hhi:∀j,i<=j ->j<l.length ->t<=(l.getD j (0,0)).2):
  inB l f t=(decide (i<l.length) && decide ((l.getD i (0,0)).1<=f)):=by
 rw [Bool.eq_iff_iff];simp only [inB,List.any_eq_true,decide_eq_true_iff,Bool.and_eq_true];constructor
 ·rintro⟨p,hp,h1,h2⟩;obtain⟨j,hj,rfl⟩:=List.getElem_of_mem hp;have e2:l.getD j (0,0)=l[j]:=by simp [List.getD,hj]
  have Hb:i<=j:=by
   by_cases Ha:j<i
   ·have:=hlo j Ha;rw [e2] at this;omega
   ·omega
  refine⟨by omega,?_⟩;by_cases e:i=j
  ·subst e;rw [e2];exact h1
  ·have:=srt_get h (show i<j by omega) hj;rw [e2] at this;omega
 ·rintro⟨h1,h2⟩;have e1:l.getD i (0,0)=l[i]:=by simp [List.getD,h1]
  refine⟨l[i],List.getElem_mem _,?_,?_⟩
  ·rw [<- e1];exact h2
  ·rw [<- e1];exact hhi i zL h1
theorem holdsM {w:World}{bm n:Nat}{D:DataW Value}{G:Int ->Value}{L:Int ->List (Int×Int)}(h:GrpAt w bm n D G L)(r f t:Int)(hr:(Lit.int .i64 r).wf=true)(hs:Srt (L r))(hl:(L r).length<=1000000):
  Calls Tryz.prog 141 #[.map (some bm),.int .i64 r,.agg #[.int .i64 f,.int .i64 t]] w fun e w'=>e=.returned (.bool (inB (L r) f t))/\ Below w.heap.size w w':=by
 obtain⟨W0,Hc⟩:∃W0,w.alloc (.cells #[.int .i64 f,.int .i64 t] 142)=W0:=⟨_,rfl⟩;have b0:Below w.heap.size w W0:=by rw [<- Hc];exact zO _ _
 have z0:W0.heap.size=w.heap.size+1:=by rw [<- Hc];simp
 have x0:W0.cell? ⟨w.heap.size,0,none⟩=some (.int .i64 f):=by rw [<- Hc];simp
 have x1:W0.cell? ⟨w.heap.size,1,none⟩=some (.int .i64 t):=by rw [<- Hc];simp
 have h0:=h.below b0;have Hh:=h0.look r hr;have Ha:=h0.rows r;obtain⟨a,c,e,Hl,Hk⟩:∃a c,G r=.slice a (L r).length c/\ SS W0 a (L r).length (fun i=>((L r).getD i (0,0)).1) (fun i=>((L r).getD i (0,0)).2)/\ ((L r).length≠0 ->∃g,a=some ⟨g,0,none⟩):=by
  rcases Ha.2 with ⟨e,e0⟩|⟨g,Hm,Ho,e,_⟩
  ·exact⟨none,0,by rw [e,e0],.inl e0,fun h=>absurd e0 h⟩
  ·exact⟨_,Hm,e,by rw [e] at Ha;exact ss_own Ha rfl,fun _=>⟨g,rfl⟩⟩
 rw [e] at Hh;have He:=hid Hl;have HI:=hid (in_iff hs f t);have HM:Hid (∀i j,i<j ->j<(L r).length ->(fun i=>((L r).getD i (0,0)).2) i<(fun i=>((L r).getD i (0,0)).2) j):=fun i j hij hj=>by
  have:=srt_get hs hij hj;show ((L r).getD i (0,0)).2<((L r).getD j (0,0)).2;omega
 clear e Ha h0 h hs Hl;generalize Hn:(L r).length=m at*;go_enter Tryz.func141,Tryz.ntmps141;go_wp2_with fail;try rw [Hc]
 refine(bsearch a m c _ _ t _ (by omega) He.out HM.out).mono ?_;rintro e w2 ⟨i,fb,rfl,hi,Hi,Hf,b2⟩;clear Hc;have HE:=hid (HI.out i hi Hi Hf);have y0:=(b2.cell (p:=⟨w.heap.size,0,none⟩) (show w.heap.size<W0.heap.size by omega)).trans x0;have HB:=hid (keepS b0 b2);by_cases Hg:i<m
 ·have Hd:∃g Hb,a=some ⟨g,Hb,none⟩/\ g<w2.heap.size/\ w2.cell? ⟨g,Hb+i*2,none⟩=some (.int .i64 ((L r).getD i (0,0)).1):=by
   rcases He.out with h|⟨g,Hb,rfl,hg,hc⟩
   ·omega
   ·exact⟨g,Hb,rfl,Nat.lt_of_lt_of_le hg b2.size,(b2.cell (p:=⟨g,Hb+i*2,none⟩) hg).trans (hc i Hg).1⟩
  obtain⟨g,Hb,rfl,hg,Hj⟩:=Hd;have Hq:(0:Int)<=(i:Int):=Int.natCast_nonneg _;have Hr:(i:Int)<(m:Int):=by omega
  generalize Hp:((L r).getD i (0,0)).1=fi at*;clear Hi Hf b2 x0 x1 Hh He HM HI b0;cases hle:decide (fi<=f) with
  | false=>
   have HF:Hid (inB (L r) f t=false):=by unfold Hid;rw [HE.out,hle];simp
   go_wp2_with fail;refine zR (S:=fun w'=>w'.cell? ⟨w.heap.size,0,none⟩=some (.int .i64 f)/\ w'.cell? ⟨g,Hb+i*2,none⟩=some (.int .i64 fi)) ⟨y0,Hj⟩ (fun qh=> ?_);refine tZ 0 20 ?_;refine tZ 1 21 ?_;refine tZ 2 22 ?_;refine tZ 3 23 ?_;refine tZ 4 24 ?_;refine tZ 5 25 ?_;refine tZ 6 26 ?_;refine tZ 7 27 ?_;refine tZ 8 28 ?_;refine tZ 9 29 ?_;refine tZ 10 30 ?_;refine tZ 11 31 ?_;refine tZ 12 32 ?_;refine tZ 13 33 ?_;refine tZ 14 6 ?_;refine zD ?_;go_wp2_with fail;go_ret;exact⟨retB HF.out.symm,HB.out.drew⟩
  | true=>
   have HF:Hid (inB (L r) f t=true):=by unfold Hid;rw [HE.out,hle];simp [Hg]
   go_wp2_with fail;refine zR (S:=fun w'=>w'.cell? ⟨w.heap.size,0,none⟩=some (.int .i64 f)/\ w'.cell? ⟨g,Hb+i*2,none⟩=some (.int .i64 fi)) ⟨y0,Hj⟩ (fun qh=> ?_);refine tZ 0 20 ?_;refine tZ 1 21 ?_;refine tZ 2 22 ?_;refine tZ 3 23 ?_;refine tZ 4 24 ?_;refine tZ 5 25 ?_;refine tZ 6 26 ?_;refine tZ 7 27 ?_;refine tZ 8 28 ?_;refine tZ 9 29 ?_;refine tZ 10 30 ?_;refine tZ 11 31 ?_;refine tZ 12 32 ?_;refine tZ 13 33 ?_;refine tZ 14 6 ?_;refine zD ?_;go_wp2_with fail;go_ret;exact⟨retB HF.out.symm,HB.out.drew⟩
 ·have HF:Hid (inB (L r) f t=false):=by unfold Hid;rw [HE.out];simp [Hg]
  have Hs:decide ((i:Int)<(m:Int))=false:=by simp;omega
  have Ht:decide (i<m)=false:=by simp;omega
  clear Hi Hf b2 x0 x1 Hh He HM HI b0;go_wp2_with fail;refine zR (S:=fun w'=>w'.cell? ⟨w.heap.size,0,none⟩=some (.int .i64 f)) y0 (fun qh=> ?_);refine tZ 0 20 ?_;refine tZ 1 21 ?_;refine tZ 2 22 ?_;refine tZ 3 23 ?_;refine tZ 4 24 ?_;refine uZ 5 25 ?_;refine uZ 6 26 ?_;refine uZ 7 27 ?_;refine uZ 8 28 ?_;refine uZ 9 29 ?_;refine uZ 10 30 ?_;refine uZ 11 31 ?_;refine uZ 12 32 ?_;refine tZ 13 33 ?_;refine tZ 14 6 ?_;refine zD ?_;go_wp2_with fail;go_ret;exact⟨retB HF.out.symm,HB.out.drew⟩
theorem hasM {w:World}{bm n:Nat}{D:DataW Value}{G:Int ->Value}{L:Int ->List (Int×Int)}(h:GrpAt w bm n D G L)(r q:Int)(hr:(Lit.int .i64 r).wf=true)(hs:Srt (L r))(hl:(L r).length<=1000000):
  Calls Tryz.prog 115 #[.map (some bm),.agg #[.int .i64 r,.int .i64 q]] w fun e w'=>e=.returned (.bool (inB (L r) q q))/\ Below w.heap.size w w':=by
 have b0:Below w.heap.size w (w.alloc (.cells #[.int .i64 r,.int .i64 q] 58)):=zO _ _;have HC:=hid (holdsM (h.below b0) r q q hr hs hl);have HB:=hid b0;clear b0 h hs;go_enter Tryz.func115,Tryz.ntmps115;go_wp2_with fail;refine HC.out.mono ?_;rintro e w1 ⟨rfl,b1⟩;have HZ:=hid (keepS HB.out b1);clear b1 HC;go_wp2_with fail;go_ret;exact⟨rfl,HZ.out⟩
def hasK (R F T:Nat ->Int)(r f t:Int):Nat ->Bool
 | 0=>false
 | k+1=>hasK R F T r f t k||decide (R k=r/\ F k<=f/\ t<=T k)
theorem in_hasK (R F T:Nat ->Int)(r f t:Int)(k:Nat):inB (Lk R F T k r) f t=hasK R F T r f t k:=by
 induction k with
 | zero=>rfl
 | succ k ih=>
  show inB (upd (Lk R F T k) (R k) (Lk R F T k (R k)++[(F k,T k)]) r) f t=(hasK R F T r f t k||decide (R k=r/\ F k<=f/\ t<=T k));by_cases e:r=R k
  ·subst e;rw [upd_same,<- ih];simp [inB]
  ·rw [upd_other _ _ e,ih];have:decide (R k=r/\ F k<=f/\ t<=T k)=false:=by simp;intro h;exact absurd h.symm e
   rw [this];simp
theorem hasK_yes {R F T:Nat ->Int}{r f t:Int}{k n:Nat}(hk:k<n)(h:R k=r/\ F k<=f/\ t<=T k):hasK R F T r f t n=true:=by
 induction n with
 | zero=>omega
 | succ n ih=>
  simp only [hasK,Bool.or_eq_true,decide_eq_true_iff];by_cases e:k=n
  ·subst e;exact .inr h
  ·exact .inl (ih (by omega))
theorem hasK_step {R F T:Nat ->Int}{r f t:Int}{k:Nat}(h:hasK R F T r f t k=false)(h2:¬(R k=r/\ F k<=f/\ t<=T k)):hasK R F T r f t (k+1)=false:=by
 simp only [hasK,h,Bool.false_or,decide_eq_false_iff_not];exact h2
theorem l2Has (a:Option Addr)(n c:Nat)(R F T:Nat ->Int)(r q:Int)(w:World)(hn:n<=1048576)(h:RSeg w a n R F T):
  Calls Tryz.prog 39 #[.agg #[.slice a n c],.agg #[.int .i64 r,.int .i64 q]] w fun e w'=>e=.returned (.bool (hasK R F T r q q n))/\ Below w.heap.size w w':=by
 obtain⟨W0,Hc⟩:∃W0,(w.alloc (.cells #[.slice a n c] 26)).alloc (.cells #[.int .i64 r,.int .i64 q] 58)=W0:=⟨_,rfl⟩;have bW:Below w.heap.size w W0:=by rw [<- Hc];exact below2 _ _ _
 have Hd:W0.cell? ⟨w.heap.size,0,none⟩=some (.slice a n c):=by rw [<- Hc];simp
 have x0:W0.cell? ⟨w.heap.size+1,0,none⟩=some (.int .i64 r):=by rw [<- Hc];simp
 have x1:W0.cell? ⟨w.heap.size+1,1,none⟩=some (.int .i64 q):=by rw [<- Hc];simp
 have zW:W0.heap.size=w.heap.size+2:=by rw [<- Hc];simp
 have h1:=h.below bW;clear h;go_enter Tryz.func39,Tryz.ntmps39;go_wp2_with fail;try rw [Hc]
 clear Hc;go_loopw [5] (fun i wr=>∃k:Nat,k<=n/\ i=.int .i64 k/\ hasK R F T r q q k=false/\ Below W0.heap.size W0 wr) (fun i _=>n - (intOf i).toNat);case atStart=>exact⟨0,Nat.zero_le _,rfl,rfl,zI⟩
 case round=>
  obtain⟨k,hk,rfl,Hf,Ha⟩:=hrel;have b0:=(Ha.cell (p:=⟨w.heap.size,0,none⟩) (show w.heap.size<W0.heap.size by omega)).trans Hd;have y0:=(Ha.cell (p:=⟨w.heap.size+1,0,none⟩) (show w.heap.size+1<W0.heap.size by omega)).trans x0;have y1:=(Ha.cell (p:=⟨w.heap.size+1,1,none⟩) (show w.heap.size+1<W0.heap.size by omega)).trans x1;have HB:=hid Ha;have HN:=hid Hf;by_cases He:k<n
  ·rcases h1 with h1|⟨b,Hb,rfl,hb,hc⟩
   ·omega
   have c0:=(Ha.cell (p:=⟨b,Hb+k*3,none⟩) hb).trans (hc k He).1;have c1:=(Ha.cell (p:=⟨b,Hb+k*3+1,none⟩) hb).trans (hc k He).2.1;have c2:=(Ha.cell (p:=⟨b,Hb+k*3+2,none⟩) hb).trans (hc k He).2.2;have Hg:(0:Int)<=(k:Int):=Int.natCast_nonneg _;have Hh:(k:Int)<(n:Int):=by omega
   clear hc Ha Hf Hd x0 x1;by_cases e1:R k=r
   ·have t1:(R k==r)=true:=by simp;exact e1
    have H1:=hid e1;clear e1;by_cases e2:F k<=q
    ·have t2:decide (F k<=q)=true:=by simp;exact e2
     have H2:=hid e2;clear e2;by_cases e3:q<=T k
     ·have t3:decide (q<=T k)=true:=by simp;exact e3
      have H3:=hid (hasK_yes (n:=n) He ⟨H1.out,H2.out,e3⟩);clear e3;go_wp2_with fail;refine zR (S:=fun w'=>w'.cell? ⟨w.heap.size,0,none⟩=some (.slice (some ⟨b,Hb,none⟩) n c)/\ w'.cell? ⟨w.heap.size+1,0,none⟩=some (.int .i64 r)/\ w'.cell? ⟨w.heap.size+1,1,none⟩=some (.int .i64 q)/\ w'.cell? ⟨b,Hb+k*3,none⟩=some (.int .i64 (R k))/\ w'.cell? ⟨b,Hb+k*3+1,none⟩=some (.int .i64 (F k))/\ w'.cell? ⟨b,Hb+k*3+2,none⟩=some (.int .i64 (T k))) ⟨b0,y0,y1,c0,c1,c2⟩ (fun qh=> ?_);refine tZ 0 13 ?_;refine tZ 1 14 ?_;refine tZ 2 15 ?_;refine tZ 3 16 ?_;refine tZ 4 17 ?_;refine tZ 5 18 ?_;refine tZ 6 19 ?_;refine tZ 7 20 ?_;refine tZ 8 21 ?_;refine tZ 9 22 ?_;refine tZ 10 23 ?_;refine tZ 11 24 ?_;refine tZ 12 25 ?_;refine tZ 13 26 ?_;refine tZ 14 27 ?_;refine tZ 15 28 ?_;refine tZ 16 29 ?_;refine tZ 17 30 ?_;refine tZ 18 31 ?_;refine tZ 19 32 ?_;refine tZ 20 33 ?_;refine tZ 21 34 ?_;refine tZ 22 35 ?_;refine tZ 23 36 ?_;refine tZ 24 37 ?_;refine tZ 25 38 ?_;refine tZ 26 39 ?_;refine tZ 27 40 ?_;refine tZ 28 41 ?_;refine tZ 29 42 ?_;refine tZ 30 43 ?_;refine zD ?_;go_wp2_with fail;go_ret;exact⟨retB H3.out.symm,(bW.trans (HB.out.mono (by omega))).drew⟩
     ·have t3:decide (q<=T k)=false:=by simp;omega
      have H3:=hid (hasK_step HN.out (fun hh=>e3 hh.2.2));clear e3;go_wp2_with fail;refine zR (S:=fun w'=>w'.cell? ⟨w.heap.size,0,none⟩=some (.slice (some ⟨b,Hb,none⟩) n c)/\ w'.cell? ⟨w.heap.size+1,0,none⟩=some (.int .i64 r)/\ w'.cell? ⟨w.heap.size+1,1,none⟩=some (.int .i64 q)/\ w'.cell? ⟨b,Hb+k*3,none⟩=some (.int .i64 (R k))/\ w'.cell? ⟨b,Hb+k*3+1,none⟩=some (.int .i64 (F k))/\ w'.cell? ⟨b,Hb+k*3+2,none⟩=some (.int .i64 (T k))) ⟨b0,y0,y1,c0,c1,c2⟩ (fun qh=> ?_);refine tZ 0 13 ?_;refine tZ 1 14 ?_;refine tZ 2 15 ?_;refine tZ 3 16 ?_;refine tZ 4 17 ?_;refine tZ 5 18 ?_;refine tZ 6 19 ?_;refine tZ 7 20 ?_;refine tZ 8 21 ?_;refine tZ 9 22 ?_;refine tZ 10 23 ?_;refine tZ 11 24 ?_;refine tZ 12 25 ?_;refine tZ 13 26 ?_;refine tZ 14 27 ?_;refine tZ 15 28 ?_;refine tZ 16 29 ?_;refine tZ 17 30 ?_;refine tZ 18 31 ?_;refine tZ 19 32 ?_;refine tZ 20 33 ?_;refine tZ 21 34 ?_;refine tZ 22 35 ?_;refine tZ 23 36 ?_;refine tZ 24 37 ?_;refine tZ 25 38 ?_;refine tZ 26 39 ?_;refine tZ 27 40 ?_;refine tZ 28 41 ?_;refine tZ 29 42 ?_;refine tZ 30 43 ?_;refine zD ?_;go_wp2_with fail;go_roundw;case rel=>exact⟨k+1,He,by go_num,H3.out,HB.out.drew⟩
      case measure=>simp [intOf];omega
    ·have t2:decide (F k<=q)=false:=by simp;omega
     have H3:=hid (hasK_step HN.out (fun hh=>e2 hh.2.1));clear e2;go_wp2_with fail;refine zR (S:=fun w'=>w'.cell? ⟨w.heap.size,0,none⟩=some (.slice (some ⟨b,Hb,none⟩) n c)/\ w'.cell? ⟨w.heap.size+1,0,none⟩=some (.int .i64 r)/\ w'.cell? ⟨w.heap.size+1,1,none⟩=some (.int .i64 q)/\ w'.cell? ⟨b,Hb+k*3,none⟩=some (.int .i64 (R k))/\ w'.cell? ⟨b,Hb+k*3+1,none⟩=some (.int .i64 (F k))/\ w'.cell? ⟨b,Hb+k*3+2,none⟩=some (.int .i64 (T k))) ⟨b0,y0,y1,c0,c1,c2⟩ (fun qh=> ?_);refine tZ 0 13 ?_;refine tZ 1 14 ?_;refine tZ 2 15 ?_;refine tZ 3 16 ?_;refine tZ 4 17 ?_;refine tZ 5 18 ?_;refine tZ 6 19 ?_;refine tZ 7 20 ?_;refine tZ 8 21 ?_;refine tZ 9 22 ?_;refine tZ 10 23 ?_;refine tZ 11 24 ?_;refine tZ 12 25 ?_;refine tZ 13 26 ?_;refine tZ 14 27 ?_;refine tZ 15 28 ?_;refine tZ 16 29 ?_;refine tZ 17 30 ?_;refine tZ 18 31 ?_;refine tZ 19 32 ?_;refine tZ 20 33 ?_;refine uZ 21 34 ?_;refine uZ 22 35 ?_;refine uZ 23 36 ?_;refine uZ 24 37 ?_;refine uZ 25 38 ?_;refine uZ 26 39 ?_;refine uZ 27 40 ?_;refine uZ 28 41 ?_;refine uZ 29 42 ?_;refine tZ 30 43 ?_;refine zD ?_;go_wp2_with fail;go_roundw;case rel=>exact⟨k+1,He,by go_num,H3.out,HB.out.drew⟩
     case measure=>simp [intOf];omega
   ·have t1:(R k==r)=false:=by simp;exact e1
    have H3:=hid (hasK_step HN.out (fun hh=>e1 hh.1));clear e1;go_wp2_with fail;refine zR (S:=fun w'=>w'.cell? ⟨w.heap.size,0,none⟩=some (.slice (some ⟨b,Hb,none⟩) n c)/\ w'.cell? ⟨w.heap.size+1,0,none⟩=some (.int .i64 r)/\ w'.cell? ⟨w.heap.size+1,1,none⟩=some (.int .i64 q)/\ w'.cell? ⟨b,Hb+k*3,none⟩=some (.int .i64 (R k))/\ w'.cell? ⟨b,Hb+k*3+1,none⟩=some (.int .i64 (F k))/\ w'.cell? ⟨b,Hb+k*3+2,none⟩=some (.int .i64 (T k))) ⟨b0,y0,y1,c0,c1,c2⟩ (fun qh=> ?_);refine tZ 0 13 ?_;refine tZ 1 14 ?_;refine tZ 2 15 ?_;refine tZ 3 16 ?_;refine tZ 4 17 ?_;refine tZ 5 18 ?_;refine tZ 6 19 ?_;refine tZ 7 20 ?_;refine tZ 8 21 ?_;refine tZ 9 22 ?_;refine uZ 10 23 ?_;refine uZ 11 24 ?_;refine uZ 12 25 ?_;refine uZ 13 26 ?_;refine uZ 14 27 ?_;refine uZ 15 28 ?_;refine uZ 16 29 ?_;refine uZ 17 30 ?_;refine uZ 18 31 ?_;refine tZ 19 32 ?_;refine tZ 20 33 ?_;refine uZ 21 34 ?_;refine uZ 22 35 ?_;refine uZ 23 36 ?_;refine uZ 24 37 ?_;refine uZ 25 38 ?_;refine uZ 26 39 ?_;refine uZ 27 40 ?_;refine uZ 28 41 ?_;refine uZ 29 42 ?_;refine tZ 30 43 ?_;refine zD ?_;go_wp2_with fail;go_roundw;case rel=>exact⟨k+1,He,by go_num,H3.out,HB.out.drew⟩
    case measure=>simp [intOf];omega
  ·obtain rfl:k=n:=by omega
   clear Ha Hf Hd x0 x1 h1;go_wp2_with fail;go_ret;exact⟨retB HN.out.symm,bW.trans (HB.out.mono (by omega))⟩
end Go.Proofs.YtfidfeilljlbiaaGreat
