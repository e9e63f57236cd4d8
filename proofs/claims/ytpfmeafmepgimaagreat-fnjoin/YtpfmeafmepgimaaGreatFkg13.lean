import Derived.Test.YtpfmeafmepgimaaGreatFkg12
import Derived.Laws.BytesArg
import Derived.Laws.Concat
set_option linter.unusedVariables false
set_option linter.unusedSimpArgs false
set_option maxRecDepth 100000
set_option maxHeartbeats 40000000
namespace Go.Proofs.YtpfmeafmepgimaaGreat
open Go.ChangeShapes Go.WideShapes Go.ChangeAt Go.RowKit
def Wr (w:World)(g:Nat)(t:TypeId)(n:Nat)(C:Nat ->Value):Prop:=∃cur,w.heap[g]? =some (.cells cur t (0,0))/\ n<=cur.size/\∀i,i<n ->cur[i]? =some (C i)
theorem Wr.cell {w:World}{g n:Nat}{t:TypeId}{C:Nat ->Value}(h:Wr w g t n C){i:Nat}(hi:i<n):w.cell? ⟨g,i,none⟩=some (C i):=by
 obtain⟨cur,h1,h2,h3⟩:=h;simp [World.cell?,h1,h3 i hi]
theorem Wr.frozen {w:World}{g n:Nat}{t:TypeId}{C:Nat ->Value}(h:Wr w g t n C)(i:Nat):w.frozen? ⟨g,i,none⟩=false:=by
 obtain⟨cur,h1,h2,h3⟩:=h;simp [World.frozen?,h1]
theorem Wr.same {w w':World}{g n:Nat}{t:TypeId}{C:Nat ->Value}(h:Wr w g t n C)(e:w'.heap[g]? =w.heap[g]?):Wr w' g t n C:=by
 obtain⟨cur,h1,r⟩:=h;exact⟨cur,e.trans h1,r⟩
theorem Wr.lt {w:World}{g n:Nat}{t:TypeId}{C:Nat ->Value}(h:Wr w g t n C):g<w.heap.size:=by
 obtain⟨cur,h1,_⟩:=h;exact(Array.getElem?_eq_some_iff.1 h1).1
def ltS (s t:ByteArray):Bool:=Op.bytesLess s.toList t.toList
def eqS (s t:ByteArray):Bool:=s.toList==t.toList
def cmpS (s t:ByteArray):Int:=if ltS s t=true then -1 else if eqS s t=true then 0 else 1
def cmpP:List ByteArray ->List ByteArray ->Int
 | [],[]=>0
 | [],_::_=> -1
 | _::_,[]=>1
 | s::p,t::q=>if cmpS s t=0 then cmpP p q else cmpS s t
theorem SSeg.tail {w:World}{b o:Nat}{s:ByteArray}{p:List ByteArray}(hb:b<w.heap.size)(h:∀i,i<(s::p).length ->w.cell? ⟨b,o+i,none⟩=some (.string (gS (s::p) i))):SSeg w (some ⟨b,o+1,none⟩) p:=
 .inr ⟨b,o+1,rfl,hb,fun i hi=>by
  have e:=h (i+1) (by simp;omega);rw [show o+(i+1)=o+1+i by omega] at e;exact e⟩
theorem SSeg.drews {w:World}{a:Option Addr}{p:List ByteArray}(h:SSeg w a p){k:Nat}:SSeg (w.drewN k) a p:=h
theorem ret_i {x y:Int}(h:x=y):Ending.returned (.int .i64 x)=.returned (.int .i64 y):=by rw [h]
theorem cmpSpec:∀(p q:List ByteArray) (a b:Option Addr) (c d:Nat) (w:World),p.length<=c ->q.length<=d ->c<=9223372036854775807 ->d<=9223372036854775807 ->SSeg w a p ->SSeg w b q ->
  Calls Tryz.prog 58 #[.slice a p.length c,.slice b q.length d] w fun e w'=>e=.returned (.int .i64 (cmpP p q))/\∃k,w'=w.drewN k
 | [],[],a,b,c,d,w,_,_,_,_,_,_=>by
  go_enter Tryz.func58,Tryz.ntmps58;go_wp2_with fail;go_ret;exact⟨rfl,0,rfl⟩
 | [],t::q,a,b,c,d,w,_,_,_,_,_,_=>by
  have d0:(((t::q).length:Int)==0)=false:=by simp;omega
  go_enter Tryz.func58,Tryz.ntmps58;go_wp2_with fail;go_ret;exact⟨rfl,0,rfl⟩
 | s::p,[],a,b,c,d,w,_,_,_,_,_,_=>by
  have d0:(((s::p).length:Int)==0)=false:=by simp;omega
  go_enter Tryz.func58,Tryz.ntmps58;go_wp2_with fail;go_ret;exact⟨rfl,0,rfl⟩
 | s::p,t::q,a,b,c,d,w,hc,hd,hc',hd',h,h'=>by
  obtain⟨n,hn⟩:∃n,(s::p).length=n:=⟨_,rfl⟩;obtain⟨m,hm⟩:∃m,(t::q).length=m:=⟨_,rfl⟩;rcases h with h|⟨b1,o1,rfl,hb1,h⟩
  ·simp at h
  rcases h' with h'|⟨b2,o2,rfl,hb2,h'⟩
  ·simp at h'
  have x0:w.cell? ⟨b1,o1,none⟩=some (.string s):=by simpa [gS] using h 0 (by simp)
  have y0:w.cell? ⟨b2,o2,none⟩=some (.string t):=by simpa [gS] using h' 0 (by simp)
  have n1:n=p.length+1:=by rw [<- hn];simp
  have m1:m=q.length+1:=by rw [<- hm];simp
  have HT1:=hid (SSeg.tail hb1 h);have HT2:=hid (SSeg.tail hb2 h');have d0:((n:Int)==0)=false:=by simp;omega
  have d1:((m:Int)==0)=false:=by simp;omega
  have HN:=hid n1;have HM:=hid m1;have hn0:(0:Int)<(n:Int):=by omega
  have hm0:(0:Int)<(m:Int):=by omega
  have hcn:n<=c:=by rw [<- hn];exact hc
  have hdm:m<=d:=by rw [<- hm];exact hd
  rw [hn,hm];clear n1 m1 hn hm hc hd h h';by_cases hl:Op.bytesLess s.toList t.toList=true
  ·have HC:Hid (cmpP (s::p) (t::q)= -1):=hid (by simp [cmpP,cmpS,ltS,hl]);clear HT1 HT2;go_enter Tryz.func58,Tryz.ntmps58;go_wp2_with fail;go_quiet (fail);go_wp2_with fail;go_ret;exact⟨ret_i HC.out.symm,_,rfl⟩
  ·have hl:Op.bytesLess s.toList t.toList=false:=by simpa using hl
   by_cases he:(s.toList==t.toList)=true
   ·have HC:Hid (cmpP (s::p) (t::q)=cmpP p q):=hid (by simp only [cmpP,cmpS,ltS,eqS,hl,he];simp);have HR:Hid (∀A B W,SSeg W A p ->SSeg W B q ->Calls Tryz.prog 58 #[.slice A (n - 1) (c - 1),.slice B (m - 1) (d - 1)] W fun e w'=>e=.returned (.int .i64 (cmpP p q))/\∃m,w'=W.drewN m):=hid (fun A B W hA hB=>by
     have e1:=HN.out;have e2:=HM.out;rw [show n - 1=p.length by omega,show m - 1=q.length by omega];exact cmpSpec p q A B (c - 1) (d - 1) _ (by omega) (by omega) (by omega) (by omega) hA hB)
    have hn1:(1:Int)<=(n:Int):=by omega
    have hm1:(1:Int)<=(m:Int):=by omega
    go_enter Tryz.func58,Tryz.ntmps58;go_wp2_with fail;go_quiet (fail);obtain⟨W1,hW1⟩:∃W1,w.drewN nq=W1:=⟨_,rfl⟩;rw [hW1];have x1:W1.cell? ⟨b1,o1,none⟩=some (.string s):=by rw [<- hW1];exact x0
    have y1:W1.cell? ⟨b2,o2,none⟩=some (.string t):=by rw [<- hW1];exact y0
    have HW1:=hid hW1;clear hW1;go_wp2_with fail;go_quiet (fail);obtain⟨W2,hW2⟩:∃W2,W1.drewN nq=W2:=⟨_,rfl⟩;rw [hW2];have HW:Hid (∃k,W2=w.drewN k):=hid ⟨_,by rw [<- hW2,<- HW1.out,World.drewN_drewN]⟩;clear hW2 HW1 x1 y1;go_wp2_with fail;by_cases hc1:1<c
    ·skip;by_cases hd1:1<d
     ·skip;have HA:Hid (SSeg W2 (some ⟨b1,o1+1,none⟩) p):=hid (by obtain⟨k,e⟩:=HW.out;rw [e];exact HT1.out);have HB:Hid (SSeg W2 (some ⟨b2,o2+1,none⟩) q):=hid (by obtain⟨k,e⟩:=HW.out;rw [e];exact HT2.out);go_quiet ((go_at_call 58;exact Calls.quiet_of (HR.out _ _ _ HA.out.drews HB.out.drews)));clear HA HB HR;go_wp2_with fail;go_ret;obtain⟨k,e⟩:=HW.out;exact⟨ret_i HC.out.symm,_,by rw [e,World.drewN_drewN]⟩
     ·skip;have HA:Hid (SSeg W2 (some ⟨b1,o1+1,none⟩) p):=hid (by obtain⟨k,e⟩:=HW.out;rw [e];exact HT1.out);have HB:=hid (show SSeg W2 (some ⟨b2,o2,none⟩) q from .inl (by have:=HM.out;omega));go_quiet ((go_at_call 58;exact Calls.quiet_of (HR.out _ _ _ HA.out.drews HB.out.drews)));clear HA HB HR;go_wp2_with fail;go_ret;obtain⟨k,e⟩:=HW.out;exact⟨ret_i HC.out.symm,_,by rw [e,World.drewN_drewN]⟩
    ·skip;by_cases hd1:1<d
     ·skip;have HA:=hid (show SSeg W2 (some ⟨b1,o1,none⟩) p from .inl (by have:=HN.out;omega));have HB:Hid (SSeg W2 (some ⟨b2,o2+1,none⟩) q):=hid (by obtain⟨k,e⟩:=HW.out;rw [e];exact HT2.out);go_quiet ((go_at_call 58;exact Calls.quiet_of (HR.out _ _ _ HA.out.drews HB.out.drews)));clear HA HB HR;go_wp2_with fail;go_ret;obtain⟨k,e⟩:=HW.out;exact⟨ret_i HC.out.symm,_,by rw [e,World.drewN_drewN]⟩
     ·skip;have HA:=hid (show SSeg W2 (some ⟨b1,o1,none⟩) p from .inl (by have:=HN.out;omega));have HB:=hid (show SSeg W2 (some ⟨b2,o2,none⟩) q from .inl (by have:=HM.out;omega));go_quiet ((go_at_call 58;exact Calls.quiet_of (HR.out _ _ _ HA.out.drews HB.out.drews)));clear HA HB HR;go_wp2_with fail;go_ret;obtain⟨k,e⟩:=HW.out;exact⟨ret_i HC.out.symm,_,by rw [e,World.drewN_drewN]⟩
   ·have he:(s.toList==t.toList)=false:=by simpa using he
    have HC:Hid (cmpP (s::p) (t::q)=1):=hid (by simp [cmpP,cmpS,ltS,eqS,hl,he]);clear HT1 HT2;go_enter Tryz.func58,Tryz.ntmps58;go_wp2_with fail;go_quiet (fail);go_wp2_with fail;go_quiet (fail);go_wp2_with fail;go_ret;exact⟨ret_i HC.out.symm,_,World.drewN_drewN _ _ _⟩
theorem cmpStr (s t:ByteArray)(w:World):Calls Tryz.prog 109 #[.string s,.string t] w fun e w'=>e=.returned (.int .i64 (cmpS s t))/\ w'=w:=by
 have nan:∀(s:ByteArray) (w:World),Calls Tryz.prog 128 #[.string s] w fun e w'=>e=.returned (.bool false)/\ w'=w:=fun s w=>by
  have e:(s.toList==s.toList)=true:=by simp
  go_enter Tryz.func128,Tryz.ntmps128;go_wp2_with fail;go_ret;exact⟨rfl,rfl⟩
 by_cases hl:Op.bytesLess s.toList t.toList=true
 ·have HC:Hid (cmpS s t= -1):=hid (by simp [cmpS,ltS,hl]);go_enter Tryz.func109,Tryz.ntmps109;go_wp2_with (go_at_call 128;refine(nan _ _).mono ?_;rintro e w' ⟨rfl,rfl⟩);go_ret;exact⟨ret_i HC.out.symm,rfl⟩
 ·have hl:Op.bytesLess s.toList t.toList=false:=by simpa using hl
  by_cases he:(s.toList==t.toList)=true
  ·have HC:Hid (cmpS s t=0):=hid (by simp only [cmpS,ltS,eqS,hl,he];simp);go_enter Tryz.func109,Tryz.ntmps109;go_wp2_with (go_at_call 128;refine(nan _ _).mono ?_;rintro e w' ⟨rfl,rfl⟩);go_ret;exact⟨ret_i HC.out.symm,rfl⟩
  ·have he:(s.toList==t.toList)=false:=by simpa using he
   have HC:Hid (cmpS s t=1):=hid (by simp [cmpS,ltS,eqS,hl,he]);go_enter Tryz.func109,Tryz.ntmps109;go_wp2_with (go_at_call 128;refine(nan _ _).mono ?_;rintro e w' ⟨rfl,rfl⟩);go_ret;exact⟨ret_i HC.out.symm,rfl⟩
theorem drop_gS {p:List ByteArray}{k:Nat}(h:k<p.length):p.drop k=gS p k::p.drop (k+1):=by
 rw [List.drop_eq_getElem_cons h];simp [gS,List.getD,h]
theorem cmpP_one {p q:List ByteArray}{k:Nat}(h:k<p.length)(h':q.length<=k):cmpP (p.drop k) (q.drop k)=1:=by
 rw [drop_gS h,List.drop_eq_nil_of_le h'];rfl
theorem cmpP_neg {p q:List ByteArray}{k:Nat}(h:p.length<=k)(h':k<q.length):cmpP (p.drop k) (q.drop k)= -1:=by
 rw [drop_gS h',List.drop_eq_nil_of_le h];rfl
theorem cmpP_nil {p q:List ByteArray}{k:Nat}(h:p.length<=k)(h':q.length<=k):cmpP (p.drop k) (q.drop k)=0:=by
 rw [List.drop_eq_nil_of_le h',List.drop_eq_nil_of_le h];rfl
theorem cmpP_go {p q:List ByteArray}{k:Nat}(h:k<p.length)(h':k<q.length):cmpP (p.drop k) (q.drop k)=if cmpS (gS p k) (gS q k)=0 then cmpP (p.drop (k+1)) (q.drop (k+1)) else cmpS (gS p k) (gS q k):=by
 rw [drop_gS h,drop_gS h'];rfl
theorem cmpImpl (p q:List ByteArray)(a b:Option Addr)(c d:Nat)(w:World)(hp:p.length<=1048576)(hq:q.length<=1048576)(h:SSeg w a p)(h':SSeg w b q):
  Calls Tryz.prog 97 #[.slice a p.length c,.slice b q.length d] w fun e w'=>e=.returned (.int .i64 (cmpP p q))/\ w'=w:=by
 go_enter Tryz.func97,Tryz.ntmps97;go_wp2_with fail;go_loop [11] (fun i=>∃k:Nat,k<=p.length/\ i=.int .i64 (k:Int)/\ k<=q.length/\ Hid (cmpP p q=cmpP (p.drop k) (q.drop k))) (fun i=>p.length - (intOf i).toNat);case atStart=>exact⟨0,Nat.zero_le _,rfl,Nat.zero_le _,hid rfl⟩
 case round=>
  obtain⟨k,hk,rfl,hkq,HE⟩:=hrel;by_cases hlt:k<p.length
  ·rcases h with h|⟨b1,o1,rfl,hb1,hc1⟩
   ·omega
   have x0:=hc1 k hlt;have i1:(0:Int)<=(k:Int):=Int.natCast_nonneg _;have i2:(k:Int)<(p.length:Int):=by omega
   by_cases hlq:k<q.length
   ·rcases h' with h'|⟨b2,o2,rfl,hb2,hc2⟩
    ·omega
    have y0:=hc2 k hlq;have i3:(k:Int)<(q.length:Int):=by omega
    have i4:decide ((q.length:Int)<=(k:Int))=false:=by simp;omega
    have HG:=hid (cmpP_go hlt hlq);obtain⟨s,hs⟩:∃s,gS p k=s:=⟨_,rfl⟩;obtain⟨t,ht⟩:∃t,gS q k=t:=⟨_,rfl⟩;rw [hs] at x0;rw [ht] at y0;have HG:Hid (cmpP p q=if cmpS s t=0 then cmpP (p.drop (k+1)) (q.drop (k+1)) else cmpS s t):=hid (by rw [HE.out,HG.out,hs,ht]);have HC:=hid (cmpStr s t w);obtain⟨x,hx⟩:∃x,cmpS s t=x:=⟨_,rfl⟩;rw [hx] at HC HG;clear hc1 hc2 hs ht HE hx;go_wp2_with fail;refine HC.out.mono ?_;rintro e w' ⟨rfl,rfl⟩;by_cases h0:x=0
    ·subst h0;have HG:Hid (cmpP p q=cmpP (p.drop (k+1)) (q.drop (k+1))):=hid (by rw [HG.out,if_pos rfl]);go_wp2_with fail;go_round;case rel=>exact⟨k+1,hlt,by go_num,hlq,HG⟩
     case measure=>simp [intOf];omega
    ·have HG:Hid (cmpP p q=x):=hid (by rw [HG.out,if_neg h0]);have n0:(x !=0)=true:=by simpa using h0
     go_wp2_with fail;go_ret;exact⟨ret_i HG.out.symm,rfl⟩
   ·have i4:decide ((q.length:Int)<=(k:Int))=true:=by simp;omega
    have HG:Hid (cmpP p q=1):=hid (by rw [HE.out];exact cmpP_one hlt (by omega));clear hc1 HE;go_wp2_with fail;go_ret;exact⟨ret_i HG.out.symm,rfl⟩
  ·obtain rfl:k=p.length:=by omega
   by_cases hlq:p.length<q.length
   ·have HG:Hid (cmpP p q= -1):=hid (by rw [HE.out];exact cmpP_neg (Nat.le_refl _) hlq);have i4:decide ((p.length:Int)<(q.length:Int))=true:=by simp;omega
    clear h h' HE;go_wp2_with fail;go_ret;exact⟨ret_i HG.out.symm,rfl⟩
   ·have HG:Hid (cmpP p q=0):=hid (by rw [HE.out];exact cmpP_nil (Nat.le_refl _) (by omega));have i4:decide ((p.length:Int)<(q.length:Int))=false:=by simp;omega
    clear h h' HE;go_wp2_with fail;go_ret;exact⟨ret_i HG.out.symm,rfl⟩
def PthOk (p:List ByteArray):Prop:=1<=p.length/\ p.length<=8/\∀i,i<p.length ->1<=(gS p i).size/\ (gS p i).size<=40
noncomputable def yes (P:Prop):Bool:=@decide P (Classical.propDecidable P)
theorem yes_t {P:Prop}(h:P):yes P=true:=by unfold yes;exact @decide_eq_true _ (Classical.propDecidable P) h
theorem yes_f {P:Prop}(h:¬P):yes P=false:=by unfold yes;exact @decide_eq_false _ (Classical.propDecidable P) h
theorem yes_iff {P:Prop}:yes P=true↔P:=⟨fun h=>by unfold yes at h;exact @of_decide_eq_true _ (Classical.propDecidable P) h,yes_t⟩
theorem ret_b {x y:Bool}(h:x=y):Ending.returned (.bool x)=.returned (.bool y):=by rw [h]
theorem pathSpec (p:List ByteArray)(a:Option Addr)(c:Nat)(w:World)(hp:p.length<=1048576)(h:SSeg w a p):
  Calls Tryz.prog 29 #[.slice a p.length c] w fun e w'=>e=.returned (.bool (yes (PthOk p)))/\ w'=w:=by
 go_enter Tryz.func29,Tryz.ntmps29;go_wp2_with fail;go_loop [3] (fun i=>∃k:Nat,k<=p.length/\ i=.int .i64 (k:Int)/\ Hid (∀j,j<k ->1<=(gS p j).size/\ (gS p j).size<=40)) (fun i=>p.length - (intOf i).toNat);case atStart=>exact⟨0,Nat.zero_le _,rfl,hid (fun j hj=>by omega)⟩
 case round=>
  obtain⟨k,hk,rfl,HE⟩:=hrel;by_cases hlt:k<p.length
  ·rcases h with h|⟨b1,o1,rfl,hb1,hc1⟩
   ·omega
   have x0:=hc1 k hlt;have i1:(0:Int)<=(k:Int):=Int.natCast_nonneg _;have i2:(k:Int)<(p.length:Int):=by omega
   obtain⟨s,hs⟩:∃s,gS p k=s:=⟨_,rfl⟩;rw [hs] at x0;have HS:=hid hs;clear hc1 hs;by_cases h1:(s.size:Int)<1
   ·have d1:decide ((s.size:Int)<1)=true:=by simpa using h1
    have HG:Hid (yes (PthOk p)=false):=hid (yes_f (fun h=>by have:=(h.2.2 k hlt).1;rw [HS.out] at this;omega));go_wp2_with fail;go_ret;exact⟨ret_b HG.out.symm,rfl⟩
   ·have d1:decide ((s.size:Int)<1)=false:=by simpa using h1
    by_cases h2:(40:Int)<(s.size:Int)
    ·have d2:decide ((40:Int)<(s.size:Int))=true:=by simpa using h2
     have HG:Hid (yes (PthOk p)=false):=hid (yes_f (fun h=>by have:=(h.2.2 k hlt).2;rw [HS.out] at this;omega));go_wp2_with fail;go_ret;exact⟨ret_b HG.out.symm,rfl⟩
    ·have d2:decide ((40:Int)<(s.size:Int))=false:=by simpa using h2
     have HG:Hid (∀j,j<k+1 ->1<=(gS p j).size/\ (gS p j).size<=40):=hid (fun j hj=>by
      by_cases e:j=k
      ·rw [e,HS.out];omega
      ·exact HE.out j (by omega))
     go_wp2_with fail;go_round;case rel=>exact⟨k+1,hlt,by go_num,HG⟩
     case measure=>simp [intOf];omega
  ·obtain rfl:k=p.length:=by omega
   have HG:Hid (yes (PthOk p)=decide (1<=p.length/\ p.length<=8)):=hid (by
    by_cases q:1<=p.length/\ p.length<=8
    ·rw [yes_t ⟨q.1,q.2,HE.out⟩,decide_eq_true q]
    ·rw [yes_f (fun h=>q ⟨h.1,h.2.1⟩),decide_eq_false q])
   clear h HE;by_cases h1:(1:Int)<=(p.length:Int)
   ·have d1:decide ((1:Int)<=(p.length:Int))=true:=by simpa using h1
    by_cases h2:(p.length:Int)<=8
    ·have d2:decide ((p.length:Int)<=8)=true:=by simpa using h2
     have HG:Hid (yes (PthOk p)=true):=hid (by rw [HG.out];exact decide_eq_true (by omega));go_wp2_with fail;go_ret;exact⟨ret_b HG.out.symm,rfl⟩
    ·have d2:decide ((p.length:Int)<=8)=false:=by simpa using h2
     have HG:Hid (yes (PthOk p)=false):=hid (by rw [HG.out];exact decide_eq_false (by omega));go_wp2_with fail;go_ret;exact⟨ret_b HG.out.symm,rfl⟩
   ·have d1:decide ((1:Int)<=(p.length:Int))=false:=by simpa using h1
    have HG:Hid (yes (PthOk p)=false):=hid (by rw [HG.out];exact decide_eq_false (by omega));go_wp2_with fail;go_ret;exact⟨ret_b HG.out.symm,rfl⟩
theorem pathImpl (p:List ByteArray)(a:Option Addr)(c:Nat)(w:World)(hp:p.length<=1048576)(h:SSeg w a p):
  Calls Tryz.prog 104 #[.slice a p.length c] w fun e w'=>e=.returned (.bool (yes (PthOk p)))/\ w'=w:=by
 by_cases h1:(p.length:Int)<1
 ·have d1:decide ((p.length:Int)<1)=true:=by simpa using h1
  have HG:Hid (yes (PthOk p)=false):=hid (yes_f (fun h=>by have:=h.1;omega));clear h;go_enter Tryz.func104,Tryz.ntmps104;go_wp2_with fail;go_ret;exact⟨ret_b HG.out.symm,rfl⟩
 ·have d1:decide ((p.length:Int)<1)=false:=by simpa using h1
  by_cases h2:(8:Int)<(p.length:Int)
  ·have d2:decide ((8:Int)<(p.length:Int))=true:=by simpa using h2
   have HG:Hid (yes (PthOk p)=false):=hid (yes_f (fun h=>by have:=h.2.1;omega));clear h;go_enter Tryz.func104,Tryz.ntmps104;go_wp2_with fail;go_ret;exact⟨ret_b HG.out.symm,rfl⟩
  ·have d2:decide ((8:Int)<(p.length:Int))=false:=by simpa using h2
   go_enter Tryz.func104,Tryz.ntmps104;go_wp2_with fail;clear d1 d2;go_loop [15] (fun i=>∃k:Nat,k<=p.length/\ i=.int .i64 (k:Int)/\ Hid (∀j,j<k ->1<=(gS p j).size/\ (gS p j).size<=40)) (fun i=>p.length - (intOf i).toNat);case atStart=>exact⟨0,Nat.zero_le _,rfl,hid (fun j hj=>by omega)⟩
   case round=>
    obtain⟨k,hk,rfl,HE⟩:=hrel;by_cases hlt:k<p.length
    ·rcases h with h|⟨b1,o1,rfl,hb1,hc1⟩
     ·omega
     have x0:=hc1 k hlt;have i1:(0:Int)<=(k:Int):=Int.natCast_nonneg _;have i2:(k:Int)<(p.length:Int):=by omega
     obtain⟨s,hs⟩:∃s,gS p k=s:=⟨_,rfl⟩;rw [hs] at x0;have HS:=hid hs;clear hc1 hs;by_cases h1:(s.size:Int)<1
     ·have d1:decide ((s.size:Int)<1)=true:=by simpa using h1
      have HG:Hid (yes (PthOk p)=false):=hid (yes_f (fun h=>by have:=(h.2.2 k hlt).1;rw [HS.out] at this;omega));go_wp2_with fail;go_ret;exact⟨ret_b HG.out.symm,rfl⟩
     ·have d1:decide ((s.size:Int)<1)=false:=by simpa using h1
      by_cases h2:(40:Int)<(s.size:Int)
      ·have d2:decide ((40:Int)<(s.size:Int))=true:=by simpa using h2
       have HG:Hid (yes (PthOk p)=false):=hid (yes_f (fun h=>by have:=(h.2.2 k hlt).2;rw [HS.out] at this;omega));go_wp2_with fail;go_ret;exact⟨ret_b HG.out.symm,rfl⟩
      ·have d2:decide ((40:Int)<(s.size:Int))=false:=by simpa using h2
       have HG:Hid (∀j,j<k+1 ->1<=(gS p j).size/\ (gS p j).size<=40):=hid (fun j hj=>by
        by_cases e:j=k
        ·rw [e,HS.out];omega
        ·exact HE.out j (by omega))
       go_wp2_with fail;go_round;case rel=>exact⟨k+1,hlt,by go_num,HG⟩
       case measure=>simp [intOf];omega
    ·obtain rfl:k=p.length:=by omega
     have HG:Hid (yes (PthOk p)=true):=hid (yes_t ⟨by omega,by omega,HE.out⟩);clear h HE;go_wp2_with fail;go_ret;exact⟨ret_b HG.out.symm,rfl⟩
end Go.Proofs.YtpfmeafmepgimaaGreat
